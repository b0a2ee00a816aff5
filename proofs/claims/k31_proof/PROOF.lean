import PyProof.Rows.All
import Wide.All
import OpenK.AllK
import Wide.FinOn
import Lean
import PyProof.EqAt
import PyProof.EqKinds
import PyProof.TupleCall
import PySem.Challenge.RW_fallsum_k31_worths_and_falls
set_option Elab.async false
set_option linter.all false
set_option maxRecDepth 100000
/-! THE HAND LAYER, for ints, bools, texts, own classes, DICTS (int and text keys), calls, loops. Paste it whole ahead of your own text; what your proof does not reach may be deleted. -/
namespace L2
open PySem PySem.Spec PyProof.Rows

/-- a key: an int or a str -/
abbrev Key := Sum Int Str
def keyIs : Key → Value → Bool
  | .inl k, v => Value.isInt k v
  | .inr x, v => Value.isStrOf x v
def keyH (w : World) : Key → Int
  | .inl k => hashInt k
  | .inr x => hashStr w x
theorem keyIs_shape : ∀ {k : Key} {v : Value}, keyIs k v = true → (∃ i t, k = Sum.inl i ∧ v = Value.int i t) ∨ (∃ x t, k = Sum.inr x ∧ v = Value.str x t)
  | .inl i, v, h => by
    obtain ⟨t, e⟩ := Value.isInt_shape (k := i) (v := v) h
    exact .inl ⟨i, t, rfl, e⟩
  | .inr x, v, h => by
    obtain ⟨t, e⟩ := Value.isStrOf_shape (x := x) (v := v) h
    exact .inr ⟨x, t, rfl, e⟩
theorem keyIs_int (i : Int) (t : Tok) : keyIs (.inl i) (.int i t) = true := by simp [keyIs, Value.isInt]
theorem keyIs_str (x : Str) (t : Tok) : keyIs (.inr x) (.str x t) = true := by simp [keyIs, Value.isStrOf]
theorem key_ll (a b : Int) : decide ((Sum.inl a : Key) = Sum.inl b) = (a == b) := by
  by_cases e : a = b
  · subst e; simp
  · have h : ¬ (Sum.inl a : Key) = Sum.inl b := fun q => e (Sum.inl.inj q)
    rw [decide_eq_false h]
    exact (beq_eq_false_iff_ne.mpr e).symm
theorem key_rr (a b : Str) : decide ((Sum.inr a : Key) = Sum.inr b) = decide (a = b) := by
  by_cases e : a = b
  · subst e; simp
  · have h : ¬ (Sum.inr a : Key) = Sum.inr b := fun q => e (Sum.inr.inj q)
    rw [decide_eq_false h, decide_eq_false e]
theorem key_lr (a : Int) (b : Str) : decide ((Sum.inl a : Key) = Sum.inr b) = false := decide_eq_false (fun q => nomatch q)
theorem key_rl (a : Str) (b : Int) : decide ((Sum.inr a : Key) = Sum.inl b) = false := decide_eq_false (fun q => nomatch q)

def mixKind (prog : Program) (w : World) : PySem.KeyKind prog w Key where
  is := keyIs
  hash := keyH w
  inj := fun v a b ha hb => by
    rcases keyIs_shape ha with ⟨i, t, rfl, rfl⟩ | ⟨x, t, rfl, rfl⟩
    · rcases keyIs_shape hb with ⟨j, u, rfl, e⟩ | ⟨y, u, rfl, e⟩
      · injection e with e1 _; rw [e1]
      · exact nomatch e
    · rcases keyIs_shape hb with ⟨j, u, rfl, e⟩ | ⟨y, u, rfl, e⟩
      · exact nomatch e
      · injection e with e1 _; rw [e1]
  byValue := fun k v h => by
    rcases keyIs_shape h with ⟨i, t, rfl, rfl⟩ | ⟨x, t, rfl, rfl⟩ <;> rfl
  pyHash := fun hv h => by
    rcases keyIs_shape hv with ⟨i, t, rfl, rfl⟩ | ⟨x, t, rfl, rfl⟩
    · exact wpAny_pyHash_int h
    · exact wpAny_pyHash_str h
  eqBool := fun hu hv h => by
    rcases keyIs_shape hu with ⟨i, t, rfl, rfl⟩ | ⟨x, t, rfl, rfl⟩
    · rcases keyIs_shape hv with ⟨j, u, rfl, rfl⟩ | ⟨y, u, rfl, rfl⟩
      · rw [key_ll] at h; exact wpAny_eqBool_int h
      · rw [key_lr] at h; exact SeqAt.EqAt.int_str i t y u _ _ _ _ h
    · rcases keyIs_shape hv with ⟨j, u, rfl, rfl⟩ | ⟨y, u, rfl, rfl⟩
      · rw [key_rl] at h; exact SeqAt.EqAt.str_int x t j u _ _ _ _ h
      · rw [key_rr] at h; exact wpAny_eqBool_str h
  «strs» := fun k x t v h => by
    rcases keyIs_shape h with ⟨i, u, rfl, e⟩ | ⟨y, u, rfl, e⟩
    · exact nomatch e
    · injection e with e1 _
      subst e1
      cases v <;> rfl

theorem mixKind_is (prog : Program) (w : World) (k : Key) (v : Value) : (mixKind prog w).is k v = keyIs k v := rfl
theorem mixKind_int (prog : Program) (w : World) (i : Int) (t : Tok) : (mixKind prog w).is (.inl i) (.int i t) = true := keyIs_int i t
theorem mixKind_str (prog : Program) (w : World) (x : Str) (t : Tok) : (mixKind prog w).is (.inr x) (.str x t) = true := keyIs_str x t
end L2

namespace L2
open PySem PySem.Spec PyProof.Rows

/-- a value, without the heap -/
inductive V where
  | non | bl (b : Bool) | int (i : Int) | str (x : Str) | byt (b : Array UInt8) | flt (b : UInt64) | ref (a : Addr) | ty (n : String)
  deriving DecidableEq

def RelV : V → Value → Prop
  | .non, u => u = Value.none
  | .bl b, u => u = Value.bool b
  | .int i, u => ∃ t, u = Value.int i t
  | .str x, u => ∃ t, u = Value.str x t
  | .byt b, u => ∃ t, u = Value.bytes b t
  | .flt b, u => ∃ t, u = Value.float b t
  | .ref a, u => u = Value.ref a
  | .ty n, u => u = Value.type n

abbrev Vals : List V → List Value → Prop := Paired RelV
theorem Vals.length {xs : List V} {us : List Value} (r : Vals xs us) : xs.length = us.length := Paired.length r
theorem Vals.get : ∀ {xs : List V} {us : List Value} {i : Nat} {x : V}, Vals xs us → xs[i]? = some x → ∃ u, us[i]? = some u ∧ RelV x u
  | _, _, _, _, .nil, e => by simp at e
  | _, _, 0, _, .cons r _, e => by simp at e; subst e; exact ⟨_, rfl, r⟩
  | _, _, i + 1, x, .cons _ t, e => by
    obtain ⟨u, h1, h2⟩ := Vals.get (i := i) (x := x) t (by simpa using e)
    exact ⟨u, by simpa using h1, h2⟩
theorem Vals.set {x : V} {u : Value} (r : RelV x u) : ∀ {xs : List V} {us : List Value} (i : Nat), Vals xs us → Vals (xs.set i x) (us.set i u)
  | _, _, _, .nil => .nil
  | _, _, 0, .cons _ t => .cons r t
  | _, _, i + 1, .cons q t => .cons q (Vals.set r i t)
theorem Vals.append : ∀ {xs ys : List V} {us ws : List Value}, Vals xs us → Vals ys ws → Vals (xs ++ ys) (us ++ ws)
  | _, _, _, _, .nil, s => s
  | _, _, _, _, .cons r t, s => .cons r (Vals.append t s)
theorem Vals.take : ∀ {xs : List V} {us : List Value} (n : Nat), Vals xs us → Vals (xs.take n) (us.take n)
  | _, _, 0, _ => .nil
  | _, _, _ + 1, .nil => .nil
  | _, _, n + 1, .cons r t => .cons r (Vals.take n t)
theorem Vals.drop : ∀ {xs : List V} {us : List Value} (n : Nat), Vals xs us → Vals (xs.drop n) (us.drop n)
  | _, _, 0, r => r
  | _, _, _ + 1, .nil => .nil
  | _, _, n + 1, .cons _ t => Vals.drop n t
theorem Vals.none_of : ∀ {xs : List V} {us : List Value} {i : Nat}, Vals xs us → xs[i]? = none → us[i]? = none := fun {xs us i} r e => by
  have h1 := r.length
  have h2 : xs.length ≤ i := List.getElem?_eq_none_iff.mp e
  exact List.getElem?_eq_none_iff.mpr (by omega)

def RelO : Option V → Option Value → Prop
  | some v, some u => RelV v u
  | none, none => True
  | _, _ => False
def KV {κ : Type} : List (κ × V) → List (κ × Value) → Prop := Paired fun (p : κ × V) (q : κ × Value) => p.1 = q.1 ∧ RelV p.2 q.2

/-- a key of a dict (00_mix): an int or a text -/
def kV : Key → V
  | .inl i => .int i
  | .inr x => .str x

/-- what stands at a tracked address -/
inductive HO where
  /-- a list -/
  | lst (xs : List V)
  /-- a tuple (never changes) -/
  | tup (xs : List V)
  /-- a dict whose keys are ints and texts; one whose keys are tuples of ints and texts (the empty one is both) -/
  | dK (kvs : List (Key × V)) | dT (kvs : List (List Key × V))
  /-- a set of ints: its members, its size -/
  | set (S : Int → Bool) (n : Nat)
  /-- an instance of the class at C, its dict at dx, its attributes -/
  | ins (C dx : Addr) (fs : List (Str × V))
  /-- the dict of the instance at x -/
  | own (x : Addr)
  /-- the dict of an exception -/
  | xd (fs : List (Str × V))
  /-- a bound method, f of x -/
  | met (f x : Addr)
  /-- a range object lo, lo + 1, .. below hi -/
  | rng (lo hi : Int)
  /-- a thing that is known to the object (the script; a dict while a loop walks it): read, never written while it is so -/
  | frz (o : Obj) (u : HO)
  /-- a code object's table -/
  | tbl (ps : Array Value)
  /-- any other thing, by what is true of its one object (a def of one's own: SetO a S n := HO.ext fun h => ..) -/
  | ext (φ : Heap → Prop)

abbrev Hp := Addr → Option HO
def upd (H : Hp) (a : Addr) (o : HO) : Hp := fun b => if b = a then some o else H b
theorem upd_same {H : Hp} {a : Addr} {o : HO} : upd H a o a = some o := by unfold upd; rw [if_pos rfl]
theorem upd_ne {H : Hp} {a b : Addr} {o : HO} (h : b ≠ a) : upd H a o b = H b := by unfold upd; rw [if_neg h]
theorem upd_upd {H : Hp} {a : Addr} {o u : HO} : upd (upd H a o) a u = upd H a u := by
  funext b; unfold upd; split <;> rfl
/-- two objects of different content stand apart -/
theorem ne_of {H : Hp} {a b : Addr} {o u : HO} (h : H a = some o) (h' : H b = some u) (d : o ≠ u) : a ≠ b := by
  intro e; subst e; rw [h] at h'; exact d (Option.some.inj h')
theorem ne_of_none {H : Hp} {a b : Addr} {o : HO} (h : H a = some o) (h' : H b = none) : a ≠ b := by
  intro e; subst e; rw [h] at h'; cases h'

section
variable (P : Program) (w : World)
def ObjOk (H : Hp) (h : Heap) (a : Addr) : HO → Prop
  | .lst xs => xs.length ≤ sizeLine ∧ ∃ (its : List Value) (n : Nat), Vals xs its ∧ h.get? a = some { cls := .type "list", data := .seq its.toArray n }
  | .tup xs => xs.length ≤ sizeLine ∧ ∃ its : List Value, Vals xs its ∧ IsTup h a its.toArray
  | .dK kvs => kvs.length ≤ sizeLine ∧ (a == sysModules) = false ∧ ∃ vs, KV kvs vs ∧ h.DictOf (mixKind P w) a vs
  | .dT kvs => kvs.length ≤ sizeLine ∧ (a == sysModules) = false ∧ ∃ xs : List (List Key × Addr × Value),
      Paired (fun (p : List Key × V) (q : List Key × Addr × Value) => p.1 = q.1 ∧ H q.2.1 = some (.tup (p.1.map kV)) ∧ RelV p.2 q.2.2) kvs xs ∧
      ∃ o es ep, h.get? a = some o ∧ o.ExactDict ∧ o.data = .dict es ep ∧ es.toList = xs.map (entryOfKey (tupleKind (mixKind P w))) ∧ (xs.map (·.1)).Nodup
  | .set S n => h.SetOf (intKind P w) a S n
  | .ins C dx fs => H dx = some (.own a) ∧ fs.length ≤ 1000 ∧ dx ≠ a ∧ h.get? a = some (PySem.W.instObj C dx) ∧
      ∃ mA, h.Ns1 dx mA ∧ (∀ f, RelO (fs.lookup f) (mA f)) ∧ PySem.Within mA (fs.map (·.1))
  | .own _ => ∃ o, h.get? a = some o
  | .xd fs => ∃ mA, h.Ns1 a mA ∧ ∀ f, RelO (fs.lookup f) (mA f)
  | .rng lo hi => ∃ t u v, h.get? a = some { cls := .type "range", data := .fields #[.int lo t, .int hi u, .int 1 v] }
  | .frz o u => h.get? a = some o ∧ ObjOk H h a u
  | .tbl ps => h.get? a = some { cls := .none, data := .fields ps }
  | .met f x => h.get? a = some (PySem.W.methodObj (.ref f) (.ref x))
  | .ext φ => φ h ∧ (∃ o, h.get? a = some o) ∧ ∀ h1 h2 : Heap, φ h1 → (∀ o, h1.get? a = some o → h2.get? a = some o) → φ h2
/-- the abstract heap is held -/
def HOk (H : Hp) (h : Heap) : Prop := ∀ a o, H a = some o → ObjOk P w H h a o
end

section
variable {P : Program} {w : World} {H H' : Hp} {h h' : Heap} {a : Addr} {o : HO}
theorem ObjOk.lt (x : ObjOk P w H h a o) : a < h.objs.size := by
  cases o with
  | lst xs => obtain ⟨_, _, _, _, e⟩ := x; exact Heap.lt_size e
  | tup xs => obtain ⟨_, _, _, p⟩ := x; exact p.lt
  | dK kvs => obtain ⟨_, _, _, _, o, _, _, e, _⟩ := x; exact Heap.lt_size e
  | dT kvs => obtain ⟨_, _, _, _, o, _, _, e, _⟩ := x; exact Heap.lt_size e
  | set S n => obtain ⟨o, _, _, _, e, _⟩ := x; exact Heap.lt_size e
  | ins C dx fs => obtain ⟨_, _, _, e, _⟩ := x; exact Heap.lt_size e
  | own y => obtain ⟨_, e⟩ := x; exact Heap.lt_size e
  | xd fs => obtain ⟨_, ⟨_, _, _, e, _⟩, _⟩ := x; exact Heap.lt_size e
  | rng lo hi => obtain ⟨_, _, _, e⟩ := x; exact Heap.lt_size e
  | frz ob u => obtain ⟨e, _⟩ := x; exact Heap.lt_size e
  | tbl ps => exact Heap.lt_size (show h.get? a = some _ from x)
  | met f y => exact Heap.lt_size (show h.get? a = some _ from x)
  | ext φ => obtain ⟨_, ⟨_, e⟩, _⟩ := x; exact Heap.lt_size e
theorem Paired.mapP {α β : Type} {F G : α → β → Prop} : ∀ {l₁ : List α} {l₂ : List β}, Paired F l₁ l₂ → (∀ a b, F a b → G a b) → Paired G l₁ l₂
  | _, _, .nil, _ => .nil
  | _, _, .cons r t, f => .cons (f _ _ r) (Paired.mapP t f)
theorem Paired.imp' {α β : Type} {F G : α → β → Prop} (f : ∀ a b, F a b → G a b) {l₁ : List α} {l₂ : List β} (r : Paired F l₁ l₂) : Paired G l₁ l₂ := Paired.mapP r f
/-- what an object's description leans on: its own object, its own dict, the tuples -/
theorem ObjOk.stay (x : ObjOk P w H h a o) (k : ∀ b u, (b = a ∨ H b = some (.own a)) → h.get? b = some u → h'.get? b = some u)
    (ho : ∀ b, H b = some (.own a) → H' b = some (.own a)) (ht : ∀ b xs, H b = some (.tup xs) → H' b = some (.tup xs)) : ObjOk P w H' h' a o := by
  induction o with
  | lst xs => obtain ⟨z, its, n, r, e⟩ := x; exact ⟨z, its, n, r, k _ _ (.inl rfl) e⟩
  | tup xs => obtain ⟨z, its, r, ob, e, c⟩ := x; exact ⟨z, its, r, ob, k _ _ (.inl rfl) e, c⟩
  | dK kvs => obtain ⟨z, y, vs, r, ob, es, ep, e, c⟩ := x; exact ⟨z, y, vs, r, ob, es, ep, k _ _ (.inl rfl) e, c⟩
  | dT kvs =>
    obtain ⟨z, y, xs, r, ob, es, ep, e, c⟩ := x
    exact ⟨z, y, xs, Paired.mapP r fun p q z => ⟨z.1, ht _ _ z.2.1, z.2.2⟩, ob, es, ep, k _ _ (.inl rfl) e, c⟩
  | set S n => obtain ⟨ob, es, ep, t, e, c⟩ := x; exact ⟨ob, es, ep, t, k _ _ (.inl rfl) e, c⟩
  | ins C dx fs =>
    obtain ⟨d, z, ne, e, mA, ⟨od, es, ep, e2, c⟩, r⟩ := x
    exact ⟨ho _ d, z, ne, k _ _ (.inl rfl) e, mA, ⟨od, es, ep, k _ _ (.inr d) e2, c⟩, r⟩
  | own y => obtain ⟨ob, e⟩ := x; exact ⟨ob, k _ _ (.inl rfl) e⟩
  | xd fs => obtain ⟨mA, ⟨od, es, ep, e, c⟩, r⟩ := x; exact ⟨mA, ⟨od, es, ep, k _ _ (.inl rfl) e, c⟩, r⟩
  | rng lo hi => obtain ⟨t, u, v, e⟩ := x; exact ⟨t, u, v, k _ _ (.inl rfl) e⟩
  | frz ob u ih => obtain ⟨e, q⟩ := x; exact ⟨k _ _ (.inl rfl) e, ih q⟩
  | tbl ps =>
    have e : h.get? a = some { cls := .none, data := .fields ps } := x
    show h'.get? a = some { cls := .none, data := .fields ps }
    exact k a _ (.inl rfl) e
  | met f y =>
    have e : h.get? a = some (PySem.W.methodObj (.ref f) (.ref y)) := x
    show h'.get? a = some (PySem.W.methodObj (.ref f) (.ref y))
    exact k a _ (.inl rfl) e
  | ext φ => obtain ⟨p, ⟨o, e⟩, st⟩ := x; exact ⟨st _ _ p fun o q => k _ _ (.inl rfl) q, ⟨o, k _ _ (.inl rfl) e⟩, st⟩
theorem HOk.lt (x : HOk P w H h) (e : H a = some o) : a < h.objs.size := (x a o e).lt
theorem HOk.fresh (x : HOk P w H h) (e : h.objs.size ≤ a) : H a = none := by
  cases q : H a with
  | none => rfl
  | some u => exact absurd (Nat.lt_of_lt_of_le (x.lt q) e) (Nat.lt_irrefl _)
/-- every object of the heap is kept -/
theorem HOk.kept (x : HOk P w H h) (k : ∀ b u, h.get? b = some u → h'.get? b = some u) : HOk P w H h' := fun a o e =>
  (x a o e).stay (fun b u _ q => k b u q) (fun _ q => q) fun _ _ q => q
/-- a new object is laid and tracked -/
theorem HOk.laid (x : HOk P w H h) (k : ∀ b u, h.get? b = some u → h'.get? b = some u) (hp : h.objs.size ≤ a) (new : ObjOk P w (upd H a o) h' a o) : HOk P w (upd H a o) h' := fun b u e => by
  have hn := x.fresh hp
  by_cases hb : b = a
  · subst hb; rw [upd_same] at e; cases e; exact new
  · rw [upd_ne hb] at e
    exact (x b u e).stay (fun c v _ q => k c v q) (fun c q => by rw [upd_ne (ne_of_none q hn)]; exact q) fun c xs q => by rw [upd_ne (ne_of_none q hn)]; exact q
end

/-- what may be read as u: it is u, or a known u -/
def Rd (H : Hp) (a : Addr) (u : HO) : Prop := H a = some u ∨ ∃ o, H a = some (.frz o u)
theorem Rd.of {H : Hp} {a : Addr} {u : HO} (h : H a = some u) : Rd H a u := .inl h
theorem Rd.ok {P : Program} {w : World} {H : Hp} {h : Heap} {a : Addr} {u : HO} (r : Rd H a u) (x : HOk P w H h) : ObjOk P w H h a u := by
  rcases r with r | ⟨o, r⟩
  · exact x a u r
  · obtain ⟨_, q⟩ := x a _ r
    exact q
/-- what may be written -/
def Mut : Option HO → Prop
  | some (.lst _) => True
  | some (.dK _) => True
  | some (.dT _) => True
  | some (.set _ _) => True
  | some (.ins _ _ _) => True
  | some (.ext _) => True
  | _ => False
section
variable {P : Program} {w : World} {H : Hp} {h h' : Heap} {x e : Addr} {o' : HO}
/-- the object at e is changed: x itself, or the dict of the instance x -/
theorem HOk.write (ok : HOk P w H h) (mu : Mut (H x)) (he : e = x ∨ H e = some (.own x)) (k : ∀ b u, b ≠ e → h.get? b = some u → h'.get? b = some u) (heo : ∃ u, h'.get? e = some u)
    (new : ObjOk P w (upd H x o') h' x o') : HOk P w (upd H x o') h' := fun b u q => by
  have nown : ∀ c y, H c = some (.own y) → c ≠ x := fun c y r z => by subst z; rw [r] at mu; exact mu
  have ntup : ∀ c xs, H c = some (.tup xs) → c ≠ x := fun c xs r z => by subst z; rw [r] at mu; exact mu
  by_cases hb : b = x
  · subst hb; rw [upd_same] at q; cases q; exact new
  · rw [upd_ne hb] at q
    by_cases hbe : b = e
    · have q' : H b = some (.own x) := by
        rcases he with z | z
        · exact absurd (hbe.trans z) hb
        · rw [hbe]; exact z
      rw [q] at q'; cases q'
      obtain ⟨v, hv⟩ := heo
      exact ⟨v, by rw [hbe]; exact hv⟩
    · refine (ok b u q).stay (fun c v hc r => k c v ?_ r) (fun c r => by rw [upd_ne (nown c b r)]; exact r) fun c xs r => by rw [upd_ne (ntup c xs r)]; exact r
      rcases hc with rfl | hc
      · exact hbe
      · rintro rfl
        rcases he with z | z
        · exact nown c b hc z
        · rw [hc] at z; cases z; exact hb rfl
end

/-! ### kept unless tracked; of the frames at fs (the callers') the slots may change (an exception that passes writes there); of the records at ex (iterators) nothing is said -/
structure Un (fs ex : List Addr) (H H' : Hp) (h h' : Heap) : Prop where
  keep : ∀ b o, h.get? b = some o → H b = none → b ∉ fs → b ∉ ex → h'.get? b = some o
  slot : ∀ b o, h.get? b = some o → H b = none → b ∈ fs → b ∉ ex → ∃ sl, h'.get? b = some { o with slots := sl }
  free : ∀ b o, h.get? b = some o → H b = none → b ∉ ex → H' b = none
  there : ∀ b o, h.get? b = some o → b ∉ ex → ∃ o', h'.get? b = some o'
  tups : ∀ b xs, H b = some (.tup xs) → H' b = some (.tup xs)
  frzs : ∀ b o u, H b = some (.frz o u) → H' b = some (.frz o u)
  tbls : ∀ b ps, H b = some (.tbl ps) → ∃ more, H' b = some (.tbl (ps ++ more))
section
variable {fs fs' ex ex' : List Addr} {H H1 H2 : Hp} {h h1 h2 h' : Heap} {a x e : Addr} {o : HO}
theorem Un.any (u : Un fs ex H H1 h h1) {b : Addr} {ob : Obj} (q : h.get? b = some ob) (n : H b = none) (hx : b ∉ ex) : ∃ sl, h1.get? b = some { ob with slots := sl } := by
  by_cases hb : b ∈ fs
  · exact u.slot b ob q n hb hx
  · exact ⟨ob.slots, u.keep b ob q n hb hx⟩
theorem Un.trans (a : Un fs ex H H1 h h1) (b : Un fs ex H1 H2 h1 h2) : Un fs ex H H2 h h2 where
  keep := fun c ob q n hc hx => b.keep c ob (a.keep c ob q n hc hx) (a.free c ob q n hx) hc hx
  slot := fun c ob q n hc hx => by
    obtain ⟨sl, e1⟩ := a.slot c ob q n hc hx
    obtain ⟨sl', e2⟩ := b.slot c _ e1 (a.free c ob q n hx) hc hx
    exact ⟨sl', e2⟩
  free := fun c ob q n hx => by
    obtain ⟨o', e1⟩ := a.there c ob q hx
    exact b.free c o' e1 (a.free c ob q n hx) hx
  there := fun c ob q hx => by
    obtain ⟨o', e1⟩ := a.there c ob q hx
    exact b.there c o' e1 hx
  tups := fun c xs q => b.tups c xs (a.tups c xs q)
  frzs := fun c ob xs q => b.frzs c ob xs (a.frzs c ob xs q)
  tbls := fun c ps q => by
    obtain ⟨m1, e1⟩ := a.tbls c ps q
    obtain ⟨m2, e2⟩ := b.tbls c _ e1
    exact ⟨m1 ++ m2, by rw [e2, Array.append_assoc]⟩
theorem Un.kept (k : ∀ b u, h.get? b = some u → h'.get? b = some u) : Un fs ex H H h h' :=
  ⟨fun b ob q _ _ _ => k b ob q, fun b ob q _ _ _ => ⟨ob.slots, k b ob q⟩, fun _ _ _ n _ => n, fun b ob q _ => ⟨ob, k b ob q⟩, fun _ _ q => q, fun _ _ _ q => q, fun _ ps q => ⟨#[], by rw [q]; simp⟩⟩
theorem Un.refl : Un fs ex H H h h := Un.kept fun _ _ q => q
theorem Un.laid (k : ∀ b u, h.get? b = some u → h'.get? b = some u) (hp : h.objs.size ≤ a) (hn : H a = none) : Un fs ex H (upd H a o) h h' where
  keep := fun b u q _ _ _ => k b u q
  slot := fun b u q _ _ _ => ⟨u.slots, k b u q⟩
  free := fun b u q n _ => by rw [upd_ne (Nat.ne_of_lt (Nat.lt_of_lt_of_le (Heap.lt_size q) hp))]; exact n
  there := fun b u q _ => ⟨u, k b u q⟩
  tups := fun b xs q => by rw [upd_ne (ne_of_none q hn)]; exact q
  frzs := fun b u xs q => by rw [upd_ne (ne_of_none q hn)]; exact q
  tbls := fun b ps q => ⟨#[], by rw [upd_ne (ne_of_none q hn), q]; simp⟩
theorem Un.write (mu : Mut (H x)) (he : e = x ∨ H e = some (.own x)) (k : ∀ b u, b ≠ e → h.get? b = some u → h'.get? b = some u) (heo : ∃ u, h'.get? e = some u) : Un fs ex H (upd H x o) h h' := by
  have hx : ∀ b, H b = none → b ≠ x := fun b n z => by subst z; rw [n] at mu; exact mu
  have hb : ∀ b, H b = none → b ≠ e := fun b n z => by
    subst z
    rcases he with r | r
    · exact hx b n r
    · rw [n] at r; cases r
  have hm : ∀ b u, H b = some u → ¬ Mut (some u) → b ≠ x := fun b u q nm z => by subst z; rw [q] at mu; exact nm mu
  refine ⟨fun b u q n _ _ => k b u (hb b n) q, fun b u q n _ _ => ⟨u.slots, k b u (hb b n) q⟩, fun b u q n _ => by rw [upd_ne (hx b n)]; exact n, fun b u q _ => ?_,
    fun b xs q => by rw [upd_ne (hm b _ q fun z => z)]; exact q, fun b u xs q => by rw [upd_ne (hm b _ q fun z => z)]; exact q, fun b ps q => ⟨#[], by rw [upd_ne (hm b _ q fun z => z), q]; simp⟩⟩
  by_cases hbe : b = e
  · subst hbe; exact heo
  · exact ⟨u, k b u hbe q⟩
theorem Un.mono (u : Un fs ex H H1 h h1) (hs : ∀ b ∈ fs, b ∈ fs') (hx : ∀ b ∈ ex, b ∈ ex') : Un fs' ex' H H1 h h1 :=
  ⟨fun b ob q n hb he => u.keep b ob q n (fun z => hb (hs b z)) fun z => he (hx b z), fun _ _ q n _ he => u.any q n fun z => he (hx _ z), fun b ob q n he => u.free b ob q n fun z => he (hx b z), fun b ob q he => u.there b ob q fun z => he (hx b z), u.tups, u.frzs, u.tbls⟩
end

/-! ### the heap without what is tracked -/
def trk (h : Heap) (H : Hp) : List Addr := (List.range h.objs.size).filter fun a => (H a).isSome
def hidT (h : Heap) (H : Hp) : Heap := PySem.W.hideAll h (trk h H)
theorem hidT_size (h : Heap) (H : Hp) : (hidT h H).objs.size = h.objs.size := PySem.W.hideAll_size _ _
theorem hidT_get {h : Heap} {H : Hp} {b : Addr} {o : Obj} (e : h.get? b = some o) (n : H b = none) : (hidT h H).get? b = some o :=
  PySem.W.hideAll_get _ e fun hm => by
    have q : (H b).isSome = true := (List.mem_filter.mp hm).2
    rw [n] at q; simp at q
theorem of_hidT {h : Heap} {H : Hp} {b : Addr} {o : Obj} (e : (hidT h H).get? b = some o) : h.get? b = some o ∧ H b = none := by
  have e' : h.get? b = some o := PySem.W.of_hideAll (trk h H) e
  refine ⟨e', ?_⟩
  cases q : H b with
  | none => rfl
  | some x =>
    have hm : b ∈ trk h H := List.mem_filter.mpr ⟨List.mem_range.mpr (Heap.lt_size e'), by simp [q]⟩
    have z : (hidT h H).get? b = none := PySem.W.hideAll_none (trk h H) hm
    rw [z] at e; cases e

/-! ### OpenK's ledger, filled with every new object but one -/
def allNews (g h : Heap) (L : Addr) : List (Addr × Obj) := (List.range h.objs.size).filterMap fun a => if a = L ∨ (g.get? a).isSome = true then none else (h.get? a).map fun o => (a, o)
theorem mem_allNews {g h : Heap} {L a : Addr} {o : Obj} (h1 : a ≠ L) (h2 : g.get? a = none) (h3 : h.get? a = some o) : (a, o) ∈ allNews g h L :=
  List.mem_filterMap.mpr ⟨a, List.mem_range.mpr (Heap.lt_size h3), by simp [h1, h2, h3]⟩
theorem of_mem_allNews {g h : Heap} {L : Addr} {p : Addr × Obj} (hp : p ∈ allNews g h L) : p.1 ≠ L ∧ g.get? p.1 = none ∧ h.get? p.1 = some p.2 := by
  obtain ⟨b, _, e⟩ := List.mem_filterMap.mp hp
  split at e
  · cases e
  · rename_i hn
    cases q : h.get? b with
    | none => rw [q] at e; simp at e
    | some u =>
      rw [q] at e
      simp only [Option.map_some, Option.some.injEq] at e
      subst e
      refine ⟨fun z => hn (.inl z), ?_, q⟩
      show g.get? b = none
      cases r : g.get? b with
      | none => rfl
      | some v => exact (hn (.inr (by simp [r]))).elim
def rest (g h : Heap) (L d : Addr) : List (Addr × Obj) := (allNews g h L).filter fun p => decide (p.1 ≠ d)
theorem rest_ne {g h : Heap} {L d : Addr} : ∀ p ∈ rest g h L d, p.1 ≠ d := fun p hp => of_decide_eq_true (List.mem_filter.mp hp).2
theorem mem_rest {g h : Heap} {L d a : Addr} {o : Obj} (h1 : a ≠ L) (h2 : g.get? a = none) (h3 : h.get? a = some o) (h4 : a ≠ d) : (a, o) ∈ rest g h L d :=
  List.mem_filter.mpr ⟨mem_allNews h1 h2 h3, decide_eq_true h4⟩
theorem news_all {g h : Heap} {L : Addr} : News g L h (allNews g h L) := fun p hp => let ⟨a, b, c⟩ := of_mem_allNews hp; ⟨c, a, b⟩
theorem news_at {g h : Heap} {L d : Addr} {o : Obj} (h1 : d ≠ L) (h2 : g.get? d = none) (h3 : h.get? d = some o) : News g L h ((d, o) :: rest g h L d) := fun p hp => by
  rcases List.mem_cons.mp hp with rfl | hp
  · exact ⟨h3, h1, h2⟩
  · exact news_all p (List.mem_filter.mp hp).1
/-- behind a rule that changed d alone: all else but the frame is kept -/
theorem kept_of_news {g h h' : Heap} {L d : Addr} {m : Str → Option Value} (k : ∀ b o, g.get? b = some o → h.get? b = some o) (F : Fr g L h' m) (N : News g L h' (rest g h L d)) :
    ∀ b o, b ≠ L → b ≠ d → h.get? b = some o → h'.get? b = some o := fun b o h1 h2 e => by
  cases q : g.get? b with
  | some u =>
    have := k b u q
    rw [e] at this; cases this
    exact F.keep b _ q
  | none => exact (N (b, o) (mem_rest h1 q e h2)).1
end L2

namespace L2
open PySem PySem.Spec PyProof.Rows

/-- the module's facts, over the base: the heap at the law's entry without what is tracked there -/
structure Mod (K : PySem.W.Frag) (mg : Str → Option Value) (base : Heap) : Prop where
  kin : K.In base
  glob : base.Ns mainGlobals mg
  blt : ∃ mb, base.Ns builtinsNs mb ∧ ∀ x : Str, x ≠ "__name__" → mb x = bootBuiltins x
  nolimit : base.NoLimit

/-- the context: a def's body (or a comprehension's block) running. base: fixed through the whole law; s₀, H₀: the entry; outer: the frames whose slots others may change (a def's callers); stack: all frames that run;
   ex: iterators that were made ahead of the entry and are walked here (a comprehension's); fn: the names whose cells were made at the entry (a def: all; a comprehension's block: its own); calm: not within an except suite; pn: pins that every state bears; xe: what is wanted of an exception that leaves the code -/
structure Cx where
  prog : Program
  w : World
  K : PySem.W.Frag
  mg : Str → Option Value
  base : Heap
  A : Around
  N : List Str
  s₀ : Shared
  H₀ : Hp
  env : Env
  outer : List Env
  stack : List Env
  ex : List Addr
  fn : Str → Bool
  calm : Bool
  pn : List (Addr × Obj)
  xe : Value → Shared → Prop
/-- the callers' frames -/
def frs (l : List Env) : List Addr := l.filterMap (·.frame)
abbrev Cx.fs (X : Cx) : List Addr := frs X.outer

def Vis (sc : Scope) (x : Str) : Prop := sc.names.lookup x = some .local ∨ sc.names.lookup x = some .cell ∨ sc.names.lookup x = some .free
def Loc (sc : Scope) (x : Str) : Prop := sc.names.lookup x = some .local ∨ sc.names.lookup x = some .cell
def Look (env : Env) (h : Heap) (m : Str → Option Value) (x : Str) (u : Value) : Prop :=
  (env.kindOf x = some .local ∧ m x = some u) ∨ ((env.kindOf x = some .cell ∨ env.kindOf x = some .free) ∧ ∃ c, env.cells.lookup x = some c ∧ h.IsCell c (some u))

structure Cx.Ok (X : Cx) : Prop where
  mod : Mod X.K X.mg X.base
  kind : X.env.scope.kind = .function
  glob : X.env.globals = mainGlobals
  blt : X.env.builtins = builtinsNs
  above : X.s₀.heap.objs.size ≤ X.env.locals
  inj : ∀ x y c, X.env.cells.lookup x = some c → X.env.cells.lookup y = some c → x = y
  has : ∀ x, (X.env.kindOf x = some .cell ∨ X.env.kindOf x = some .free) → ∃ c, X.env.cells.lookup x = some c
  cab : ∀ x c, X.fn x = true → X.env.cells.lookup x = some c → X.s₀.heap.objs.size ≤ c
  hd : X.calm = true → X.A.handled = none
  frames : X.A.frames = some X.stack
  stk : X.stack = X.outer ∨ (X.stack = X.env :: X.outer ∧ X.env.frame = some X.env.locals)
  exf : ∀ b ∈ X.ex, b ≠ X.env.locals ∧ ∀ x c, X.env.cells.lookup x = some c → c ≠ b
  bs : ∀ b o, X.base.get? b = some o → X.s₀.heap.get? b = some o ∧ X.H₀ b = none
  bsz : X.base.objs.size ≤ X.s₀.heap.objs.size
  noex : ∀ b o, X.base.get? b = some o → b ∉ X.ex
  exfs : ∀ b ∈ X.ex, b ∉ X.fs
  funs : X.s₀.heap.FunFrames X.base X.outer
  frf : ∀ b ∈ X.fs, X.H₀ b = none

structure Inv (X : Cx) (pins : List (Addr × Obj)) (σ : List (Option V)) (H : Hp) (s : Shared) : Prop where
  ok : X.Ok
  os : s.os = X.s₀.os
  bare : AllBare s.gens
  base : Un X.fs X.ex X.H₀ H X.s₀.heap s.heap
  loc : ∃ m, s.heap.Ns X.env.locals m ∧ ∀ (i : Nat) (x : Str) (v : V), X.N[i]? = some x → σ[i]? = some (some v) → Vis X.env.scope x → ∃ u, RelV v u ∧ Look X.env s.heap m x u
  cell : ∀ x c, X.env.cells.lookup x = some c → ∃ v, s.heap.IsCell c v
  free : H X.env.locals = none
  freeC : ∀ x c, X.env.cells.lookup x = some c → H c = none
  pin : ∀ p ∈ X.pn ++ pins, s.heap.get? p.1 = some p.2 ∧ H p.1 = none ∧ p.1 ≠ X.env.locals ∧ p.1 ∉ X.fs ∧ ∀ v, p.2.data ≠ .cell v
  hok : HOk X.prog X.w H s.heap
  len : σ.length = X.N.length

section
variable {X : Cx} {pins : List (Addr × Obj)} {σ : List (Option V)} {H H' : Hp} {s : Shared} {h' : Heap}

theorem Cx.Ok.nofr (ok : X.Ok) {b : Addr} {o : Obj} (e : X.base.get? b = some o) : b ∉ X.fs := fun hb => by
  have := (ok.funs.mem hb).1
  rw [e] at this; cases this
theorem Inv.bs (I : Inv X pins σ H s) : ∀ b o, X.base.get? b = some o → s.heap.get? b = some o ∧ H b = none := fun b o e =>
  ⟨I.base.keep b o (I.ok.bs b o e).1 (I.ok.bs b o e).2 (I.ok.nofr e) (I.ok.noex b o e), I.base.free b o (I.ok.bs b o e).1 (I.ok.bs b o e).2 (I.ok.noex b o e)⟩
theorem Inv.bk (I : Inv X pins σ H s) : ∀ b o, X.base.get? b = some o → s.heap.get? b = some o := fun b o e => (I.bs b o e).1
theorem Inv.mod (I : Inv X pins σ H s) : Mod X.K X.mg X.base := I.ok.mod
theorem Inv.kIn (I : Inv X pins σ H s) : X.K.In s.heap := I.ok.mod.kin.keeps I.bk
theorem Inv.nolimit (I : Inv X pins σ H s) : s.heap.NoLimit := I.ok.mod.nolimit.keeps I.bk
/-- the frame over the base: for OpenK's rules (K.In X.base is I.mod.kin) -/
theorem Inv.fr (I : Inv X pins σ H s) : ∃ m, Fr X.base X.env.locals s.heap m :=
  let ⟨m, hn, _⟩ := I.loc
  ⟨m, hn, I.bk, Nat.le_trans I.ok.bsz I.ok.above⟩
theorem Inv.lt (I : Inv X pins σ H s) : X.env.locals < s.heap.objs.size := let ⟨_, hn, _⟩ := I.loc; hn.lt
theorem Inv.sz (I : Inv X pins σ H s) : X.s₀.heap.objs.size ≤ s.heap.objs.size := Nat.le_trans I.ok.above (Nat.le_of_lt I.lt)
theorem Inv.nofs (I : Inv X pins σ H s) {a : Addr} (h : s.heap.objs.size ≤ a) : a ∉ X.fs := fun hb => by
  obtain ⟨_, o, ho, _⟩ := I.ok.funs.mem hb
  exact absurd (Nat.lt_of_lt_of_le (Heap.lt_size ho) (Nat.le_trans I.sz h)) (Nat.lt_irrefl _)
theorem Inv.cne (I : Inv X pins σ H s) : ∀ x c, X.env.cells.lookup x = some c → c ≠ X.env.locals := fun x c e z => by
  obtain ⟨v, o, ho, hd⟩ := I.cell x c e
  obtain ⟨m, ⟨o', es, ep, ho', hd', _⟩, _⟩ := I.loc
  rw [z, ho'] at ho; cases ho; rw [hd'] at hd; cases hd
theorem Inv.funs (I : Inv X pins σ H s) : s.heap.FunFrames X.base X.outer := by
  have all : ∀ (l : List Env), (∀ b ∈ frs l, b ∈ X.fs) → X.s₀.heap.FunFrames X.base l → s.heap.FunFrames X.base l := by
    intro l
    induction l with
    | nil => intro _ _; trivial
    | cons env r ih =>
      intro hs hl
      obtain ⟨hk, ⟨L, o, hf, hn, ho, hd⟩, hr⟩ := hl
      have hL : L ∈ X.fs := hs L (by unfold frs; rw [List.filterMap_cons, hf]; exact List.mem_cons_self)
      obtain ⟨sl, e⟩ := I.base.slot L o ho (I.ok.frf L hL) hL fun z => I.ok.exfs L z hL
      exact ⟨hk, ⟨L, _, hf, hn, e, hd⟩, ih (fun b hb => hs b (by unfold frs; rw [List.filterMap_cons, hf]; exact List.mem_cons_of_mem _ hb)) hr⟩
  exact all X.outer (fun _ hb => hb) I.ok.funs

/-- the frames that run, for a call -/
theorem Inv.stack (I : Inv X pins σ H s) : s.heap.FunFrames X.base X.stack := by
  rcases I.ok.stk with e | ⟨e, hf⟩
  · rw [e]; exact I.funs
  · rw [e]
    obtain ⟨m, hn, _⟩ := I.loc
    refine .cons (by rw [I.ok.kind]; decide) hf hn ?_ I.funs
    exact Heap.get?_none_of_le (Nat.le_trans I.ok.bsz I.ok.above)
theorem Inv.stkSub (I : Inv X pins σ H s) : ∀ b ∈ frs X.stack, b ∈ X.env.locals :: X.fs := fun b hb => by
  rcases I.ok.stk with e | ⟨e, hf⟩
  · rw [e] at hb; exact List.mem_cons_of_mem _ hb
  · rw [e] at hb
    unfold frs at hb
    rw [List.filterMap_cons, hf] at hb
    exact hb
theorem Inv.stkFree (I : Inv X pins σ H s) : ∀ b ∈ frs X.stack, H b = none := fun b hb => by
  rcases List.mem_cons.mp (I.stkSub b hb) with e | hb
  · rw [e]; exact I.free
  · obtain ⟨_, o, ho, _⟩ := I.ok.funs.mem hb
    exact I.base.free b o ho (I.ok.frf b hb) fun z => I.ok.exfs b z hb

/-- THE STEP: the untracked objects but the frame and the records at ch are kept (the callers' frames up to slots), the frame's map is kept, the new abstract heap is held -/
theorem Inv.step {g' : Array GenState} {t' : Nat} {d' : Drawn} {ch : List Addr} (I : Inv X pins σ H s)
    (hch : ∀ b ∈ ch, (b ∈ X.ex ∨ X.s₀.heap.objs.size ≤ b) ∧ b ≠ X.env.locals ∧ (∀ x c, X.env.cells.lookup x = some c → c ≠ b) ∧ ∀ p ∈ X.pn ++ pins, p.1 ≠ b)
    (keep : ∀ b o, b ≠ X.env.locals → b ∉ X.fs → b ∉ ch → s.heap.get? b = some o → H b = none → h'.get? b = some o)
    (slot : ∀ b o, b ≠ X.env.locals → b ∈ X.fs → b ∉ ch → s.heap.get? b = some o → H b = none → ∃ sl, h'.get? b = some { o with slots := sl }) (free : ∀ b o, b ∉ ch → s.heap.get? b = some o → H b = none → H' b = none)
    (there : ∀ b o, b ∉ ch → s.heap.get? b = some o → ∃ o', h'.get? b = some o')
    (tups : ∀ b xs, H b = some (.tup xs) → H' b = some (.tup xs)) (frzs : ∀ b o u, H b = some (.frz o u) → H' b = some (.frz o u)) (tbls : ∀ b ps, H b = some (.tbl ps) → ∃ more, H' b = some (.tbl (ps ++ more)))
    (ns : ∀ m, s.heap.Ns X.env.locals m → h'.Ns X.env.locals m) (hok : HOk X.prog X.w H' h') (hg : AllBare g') :
    Inv X pins σ H' { s with heap := h', gens := g', drawn := d', toks := t' } := by
  have neL : ∀ b o, X.s₀.heap.get? b = some o → b ≠ X.env.locals := fun b o e => Nat.ne_of_lt (Nat.lt_of_lt_of_le (Heap.lt_size e) I.ok.above)
  have neC : ∀ b o, X.s₀.heap.get? b = some o → b ∉ X.ex → b ∉ ch := fun b o e hx hb => by
    rcases (hch b hb).1 with z | z
    · exact hx z
    · exact absurd (Nat.lt_of_lt_of_le (Heap.lt_size e) z) (Nat.lt_irrefl _)
  have cellK : ∀ x c, X.env.cells.lookup x = some c → ∀ v, s.heap.IsCell c v → h'.IsCell c v := fun x c e v ⟨o, ho, hd⟩ => by
    have nch : c ∉ ch := fun z => (hch c z).2.2.1 x c e rfl
    by_cases hc : c ∈ X.fs
    · obtain ⟨sl, q⟩ := slot c o (I.cne x c e) hc nch ho (I.freeC x c e)
      exact ⟨_, q, hd⟩
    · exact ⟨o, keep c o (I.cne x c e) hc nch ho (I.freeC x c e), hd⟩
  refine ⟨I.ok, I.os, hg, ⟨fun b o e n hb hx => ?_, fun b o e n hb hx => ?_, fun b o e n hx => ?_, fun b o e hx => ?_, fun b xs e => tups b xs (I.base.tups b xs e), fun b o xs e => frzs b o xs (I.base.frzs b o xs e), fun b ps e => ?_⟩, ?_, fun x c e => ?_, ?_, fun x c e => ?_, fun p hp => ?_, hok, I.len⟩
  · exact keep b o (neL b o e) hb (neC b o e hx) (I.base.keep b o e n hb hx) (I.base.free b o e n hx)
  · obtain ⟨sl, e1⟩ := I.base.slot b o e n hb hx
    obtain ⟨sl', e2⟩ := slot b _ (neL b o e) hb (neC b o e hx) e1 (I.base.free b o e n hx)
    exact ⟨sl', e2⟩
  · obtain ⟨o', e1⟩ := I.base.there b o e hx
    exact free b o' (neC b o e hx) e1 (I.base.free b o e n hx)
  · obtain ⟨o', e1⟩ := I.base.there b o e hx
    exact there b o' (neC b o e hx) e1
  · obtain ⟨m1, e1⟩ := I.base.tbls b ps e
    obtain ⟨m2, e2⟩ := tbls b _ e1
    exact ⟨m1 ++ m2, by rw [e2, Array.append_assoc]⟩
  · obtain ⟨m, hn, hl⟩ := I.loc
    refine ⟨m, ns m hn, fun i x v e1 e2 e3 => ?_⟩
    obtain ⟨u, r, l⟩ := hl i x v e1 e2 e3
    refine ⟨u, r, ?_⟩
    rcases l with l | ⟨k, c, e, z⟩
    · exact .inl l
    · exact .inr ⟨k, c, e, cellK x c e _ z⟩
  · obtain ⟨v, z⟩ := I.cell x c e
    exact ⟨v, cellK x c e v z⟩
  · obtain ⟨m, ⟨o, _, _, ho, _⟩, _⟩ := I.loc
    exact free _ o (fun z => (hch _ z).2.1 rfl) ho I.free
  · obtain ⟨v, o, ho, hd⟩ := I.cell x c e
    exact free c o (fun z => (hch c z).2.2.1 x c e rfl) ho (I.freeC x c e)
  · obtain ⟨e, n, ne, nf, d⟩ := I.pin p hp
    have nch : p.1 ∉ ch := fun z => (hch p.1 z).2.2.2 p hp rfl
    exact ⟨keep p.1 p.2 ne nf nch e n, free p.1 p.2 nch e n, ne, nf, d⟩
/-- .. where the frame's own object is kept too -/
theorem Inv.un {t' : Nat} (I : Inv X pins σ H s) (u : Un X.fs [] H H' s.heap h') (hok : HOk X.prog X.w H' h') : Inv X pins σ H' { s with heap := h', toks := t' } := by
  obtain ⟨m, ⟨o, es, ep, ho, r⟩, _⟩ := id I.loc
  obtain ⟨sl, hL⟩ := u.any ho I.free (by simp)
  exact I.step (g' := s.gens) (d' := s.drawn) (ch := []) (fun _ z => nomatch z) (fun b o _ hb _ e n => u.keep b o e n hb (by simp)) (fun b o _ hb _ e n => u.slot b o e n hb (by simp)) (fun b o _ e n => u.free b o e n (by simp)) (fun b o _ e => u.there b o e (by simp)) u.tups u.frzs u.tbls (fun m' hm => by
    obtain ⟨o', es', ep', ho', r'⟩ := hm
    rw [ho] at ho'; cases ho'
    exact ⟨_, es', ep', hL, r'⟩) hok I.bare
/-- behind a call (or a comprehension's block): the slots of this frame may have changed too, the records at ch may have turned -/
theorem Inv.call {g' : Array GenState} {t' : Nat} {d' : Drawn} {ch : List Addr} (I : Inv X pins σ H s) (u : Un (frs X.stack) ch H H' s.heap h') (hok : HOk X.prog X.w H' h') (hg : AllBare g')
    (hch : ∀ b ∈ ch, (b ∈ X.ex ∨ X.s₀.heap.objs.size ≤ b) ∧ b ≠ X.env.locals ∧ (∀ x c, X.env.cells.lookup x = some c → c ≠ b) ∧ ∀ p ∈ X.pn ++ pins, p.1 ≠ b) :
    Inv X pins σ H' { s with heap := h', gens := g', drawn := d', toks := t' } := by
  obtain ⟨m, ⟨o, es, ep, ho, r⟩, _⟩ := id I.loc
  obtain ⟨sl, hL⟩ := u.any ho I.free fun z => (hch _ z).2.1 rfl
  exact I.step (ch := ch) hch (fun b o hL hb hc e n => u.keep b o e n (fun z => (List.mem_cons.mp (I.stkSub b z)).elim hL hb) hc) (fun b o _ _ hc e n => u.any e n hc) (fun b o hc e n => u.free b o e n hc) (fun b o hc e => u.there b o e hc) u.tups u.frzs u.tbls (fun m' hm => by
    obtain ⟨o', es', ep', ho', r'⟩ := hm
    rw [ho] at ho'; cases ho'
    exact ⟨_, es', ep', hL, r'⟩) hok hg
/-- an untracked record of ours (an iterator) has turned -/
theorem Inv.turned {t' : Nat} {it : Addr} (I : Inv X pins σ H s) (k : ∀ b o, b ≠ it → s.heap.get? b = some o → h'.get? b = some o) (hn : H it = none) (hL : it ≠ X.env.locals)
    (h1 : it ∈ X.ex ∨ X.s₀.heap.objs.size ≤ it) (h2 : ∀ x c, X.env.cells.lookup x = some c → c ≠ it) (h3 : ∀ p ∈ X.pn ++ pins, p.1 ≠ it) : Inv X pins σ H { s with heap := h', toks := t' } := by
  have nit : ∀ b u, H b = some u → b ≠ it := fun b u e z => by rw [z, hn] at e; cases e
  refine I.step (g' := s.gens) (d' := s.drawn) (ch := [it]) (fun b hb => ?_) (fun b o _ _ hc e _ => k b o (fun z => hc (by simp [z])) e) (fun b o _ _ hc e _ => ⟨o.slots, k b o (fun z => hc (by simp [z])) e⟩) (fun _ _ _ _ n => n)
    (fun b o hc e => ⟨o, k b o (fun z => hc (by simp [z])) e⟩) (fun _ _ e => e) (fun _ _ _ e => e) (fun b ps e => ⟨#[], by rw [e]; simp⟩) (fun m hm => ?_) (fun b u e => ?_) I.bare
  · have e : b = it := by simpa using hb
    subst e
    exact ⟨h1, hL, h2, h3⟩
  · obtain ⟨o, es, ep, ho, r⟩ := hm
    exact ⟨o, es, ep, k _ o (Ne.symm hL) ho, r⟩
  · refine (I.hok b u e).stay (fun c v hc q => k c v ?_ q) (fun _ q => q) fun _ _ q => q
    rcases hc with z | z
    · rw [z]; exact nit b u e
    · exact nit c _ z
theorem Inv.tok (I : Inv X pins σ H s) (t : Nat) : Inv X pins σ H { s with toks := t } := I.un (h' := s.heap) (t' := t) Un.refl I.hok
/-- all objects kept -/
theorem Inv.kept {t' : Nat} (I : Inv X pins σ H s) (k : ∀ b u, s.heap.get? b = some u → h'.get? b = some u) : Inv X pins σ H { s with heap := h', toks := t' } := I.un (Un.kept k) (I.hok.kept k)
/-- a new object laid and tracked -/
theorem Inv.laid {a : Addr} {o : HO} {t' : Nat} (I : Inv X pins σ H s) (k : ∀ b u, s.heap.get? b = some u → h'.get? b = some u) (hp : s.heap.objs.size ≤ a) (new : ObjOk X.prog X.w (upd H a o) h' a o) :
    Inv X pins σ (upd H a o) { s with heap := h', toks := t' } := I.un (Un.laid k hp (I.hok.fresh hp)) (I.hok.laid k hp new)
/-- an object written -/
theorem Inv.write {x e : Addr} {o : HO} {t' : Nat} (I : Inv X pins σ H s) (mu : Mut (H x)) (he : e = x ∨ H e = some (.own x)) (k : ∀ b u, b ≠ e → s.heap.get? b = some u → h'.get? b = some u) (heo : ∃ u, h'.get? e = some u)
    (new : ObjOk X.prog X.w (upd H x o) h' x o) : Inv X pins σ (upd H x o) { s with heap := h', toks := t' } := I.un (Un.write mu he k heo) (I.hok.write mu he k heo new)
/-- forgetting slots, pins -/
theorem Inv.weak {σ' : List (Option V)} (I : Inv X pins σ H s) (hl : σ'.length = σ.length) (w : ∀ (i : Nat) v, σ'[i]? = some (some v) → σ[i]? = some (some v)) : Inv X pins σ' H s :=
  ⟨I.ok, I.os, I.bare, I.base, let ⟨m, hn, hl'⟩ := I.loc; ⟨m, hn, fun i x v e1 e2 e3 => hl' i x v e1 (w i v e2) e3⟩, I.cell, I.free, I.freeC, I.pin, I.hok, hl.trans I.len⟩
theorem Inv.pins_of {pins' : List (Addr × Obj)} (I : Inv X pins σ H s) (h : ∀ p ∈ pins', s.heap.get? p.1 = some p.2 ∧ H p.1 = none ∧ p.1 ≠ X.env.locals ∧ p.1 ∉ X.fs ∧ ∀ v, p.2.data ≠ .cell v) : Inv X pins' σ H s :=
  ⟨I.ok, I.os, I.bare, I.base, I.loc, I.cell, I.free, I.freeC, fun p hp => (List.mem_append.mp hp).elim (fun z => I.pin p (List.mem_append_left _ z)) (h p), I.hok, I.len⟩

theorem nodup_ix {N : List Str} (hN : N.Nodup) {i j : Nat} {x : Str} (a : N[i]? = some x) (b : N[j]? = some x) : i = j := by
  obtain ⟨h1, e1⟩ := List.getElem?_eq_some_iff.mp a
  obtain ⟨h2, e2⟩ := List.getElem?_eq_some_iff.mp b
  exact (List.getElem_inj hN).mp (e1.trans e2.symm)

/-- a name is stored; what changed -/
theorem store_ok2 {M : Model} {A : Around} {E : Value → Shared → Prop} {i : Nat} {x : Str} {v : V} {u : Value} {Q : Unit → Shared → Prop} (I : Inv X pins σ H s) (hN : X.N.Nodup) (hi : X.N[i]? = some x) (hx : Loc X.env.scope x) (r : RelV v u)
    (h : ∀ s', Inv X pins (σ.set i (some v)) H s' → (∃ a, Heap.SameBut a s.heap s'.heap ∧ (a = X.env.locals ∨ X.env.cells.lookup x = some a)) → Q () s') (hf : X.fn x = true ∨ X.env.scope.names.lookup x = some .local := by first | exact .inl rfl | exact .inr rfl | assumption) : wpAny M A (storeName X.env x u) Q E s := by
  obtain ⟨m, hn, hl⟩ := id I.loc
  have hcls : (X.env.scope.kind == .class || (X.env.scope.kind == .module && X.env.locals != X.env.globals)) = false := by rw [I.ok.kind]; rfl
  have hiσ : i < σ.length := by rw [I.len]; exact (List.getElem?_eq_some_iff.mp hi).1
  have cne := I.cne
  have tracked : ∀ {a : Addr} {h' : Heap}, (∃ o, s.heap.get? a = some o ∧ H a = none) → Heap.SameBut a s.heap h' → HOk X.prog X.w H h' := fun {a h'} ha hs b ob e => by
    obtain ⟨_, _, hfree⟩ := ha
    refine (I.hok b ob e).stay (fun c w' hc q => (hs.2 c ?_).trans q) (fun _ q => q) fun _ _ q => q
    rintro rfl
    rcases hc with rfl | hc
    · rw [hfree] at e; cases e
    · rw [hfree] at hc; cases hc
  rcases hx with hk | hk
  · refine wpAny_storeName_local hk hn (fun h' hn' hs => ?_) hcls
    obtain ⟨oL, _, _, hoL, _⟩ := id hn
    refine h _ ⟨I.ok, I.os, I.bare, ⟨fun b o e n hb hx => ?_, fun b o e n hb hx => ?_, I.base.free, fun b o e hx => ?_, I.base.tups, I.base.frzs, I.base.tbls⟩, ⟨_, hn', fun j y v' e1 e2 e3 => ?_⟩, fun y c e => ?_, I.free, I.freeC, fun p hp => ?_, tracked ⟨oL, hoL, I.free⟩ hs, by simpa using I.len⟩ ⟨_, hs, .inl rfl⟩
    · exact (hs.2 b (Nat.ne_of_lt (Nat.lt_of_lt_of_le (Heap.lt_size e) I.ok.above))).trans (I.base.keep b o e n hb hx)
    · obtain ⟨sl, e1⟩ := I.base.slot b o e n hb hx
      exact ⟨sl, (hs.2 b (Nat.ne_of_lt (Nat.lt_of_lt_of_le (Heap.lt_size e) I.ok.above))).trans e1⟩
    · obtain ⟨o', e1⟩ := I.base.there b o e hx
      exact ⟨o', (hs.2 b (Nat.ne_of_lt (Nat.lt_of_lt_of_le (Heap.lt_size e) I.ok.above))).trans e1⟩
    · by_cases hj : j = i
      · subst hj
        rw [hi] at e1; cases e1
        rw [List.getElem?_set_self hiσ] at e2
        cases e2
        exact ⟨u, r, .inl ⟨hk, by simp⟩⟩
      · rw [List.getElem?_set_ne (Ne.symm hj)] at e2
        obtain ⟨u', r', q⟩ := hl j y v' e1 e2 e3
        refine ⟨u', r', ?_⟩
        rcases q with ⟨k, e⟩ | ⟨k, c, e, z⟩
        · refine .inl ⟨k, ?_⟩
          have : y ≠ x := fun e => hj (nodup_ix hN e1 (e ▸ hi))
          simp [this, e]
        · exact .inr ⟨k, c, e, z.sameBut hs (cne y c e)⟩
    · obtain ⟨w', z⟩ := I.cell y c e
      exact ⟨w', z.sameBut hs (cne y c e)⟩
    · obtain ⟨e, n, ne, nf, d⟩ := I.pin p hp
      exact ⟨(hs.2 p.1 ne).trans e, n, ne, nf, d⟩
  · have hfn : X.fn x = true := by
      rcases hf with z | z
      · exact z
      · rw [z] at hk; cases hk
    obtain ⟨c, hc⟩ := I.ok.has x (.inl hk)
    obtain ⟨w', z⟩ := I.cell x c hc
    refine wpAny_storeName_cell I.ok.kind hk hc z (fun h' hc' hs => ?_)
    obtain ⟨oc, hoc, hocd⟩ := id z
    refine h { s with heap := h' } ⟨I.ok, I.os, I.bare, ⟨fun b o e n hb hx => ?_, fun b o e n hb hx => ?_, I.base.free, fun b o e hx => ?_, I.base.tups, I.base.frzs, I.base.tbls⟩, ⟨m, hn.sameBut hs (Ne.symm (cne x c hc)), fun j y v' e1 e2 e3 => ?_⟩, fun y c' e => ?_, I.free, I.freeC, fun p hp => ?_, tracked ⟨oc, hoc, I.freeC x c hc⟩ hs, by simpa using I.len⟩ ⟨c, hs, .inr hc⟩
    · exact (hs.2 b (Nat.ne_of_lt (Nat.lt_of_lt_of_le (Heap.lt_size e) (I.ok.cab x c hfn hc)))).trans (I.base.keep b o e n hb hx)
    · obtain ⟨sl, e1⟩ := I.base.slot b o e n hb hx
      exact ⟨sl, (hs.2 b (Nat.ne_of_lt (Nat.lt_of_lt_of_le (Heap.lt_size e) (I.ok.cab x c hfn hc)))).trans e1⟩
    · obtain ⟨o', e1⟩ := I.base.there b o e hx
      exact ⟨o', (hs.2 b (Nat.ne_of_lt (Nat.lt_of_lt_of_le (Heap.lt_size e) (I.ok.cab x c hfn hc)))).trans e1⟩
    · by_cases hj : j = i
      · subst hj
        rw [hi] at e1; cases e1
        rw [List.getElem?_set_self hiσ] at e2
        cases e2
        exact ⟨u, r, .inr ⟨.inl hk, c, hc, hc'⟩⟩
      · rw [List.getElem?_set_ne (Ne.symm hj)] at e2
        obtain ⟨u', r', q⟩ := hl j y v' e1 e2 e3
        refine ⟨u', r', ?_⟩
        rcases q with q | ⟨k, c', e, z'⟩
        · exact .inl q
        · refine .inr ⟨k, c', e, z'.sameBut hs ?_⟩
          rintro rfl
          exact hj (nodup_ix hN e1 (I.ok.inj _ _ _ e hc ▸ hi))
    · by_cases hcc : c' = c
      · subst hcc; exact ⟨_, hc'⟩
      · obtain ⟨w2, z2⟩ := I.cell y c' e
        exact ⟨w2, z2.sameBut hs hcc⟩
    · obtain ⟨e, n, ne, nf, d⟩ := I.pin p hp
      refine ⟨(hs.2 p.1 ?_).trans e, n, ne, nf, d⟩
      intro q
      rw [q, hoc] at e
      have q' : oc = p.2 := Option.some.inj e
      exact d w' (by rw [← q']; exact hocd)
theorem store_ok {M : Model} {A : Around} {E : Value → Shared → Prop} {i : Nat} {x : Str} {v : V} {u : Value} {Q : Unit → Shared → Prop} (I : Inv X pins σ H s) (hN : X.N.Nodup) (hi : X.N[i]? = some x) (hx : Loc X.env.scope x) (r : RelV v u)
    (h : ∀ s', Inv X pins (σ.set i (some v)) H s' → Q () s') (hf : X.fn x = true ∨ X.env.scope.names.lookup x = some .local := by first | exact .inl rfl | exact .inr rfl | assumption) : wpAny M A (storeName X.env x u) Q E s :=
  store_ok2 I hN hi hx r (fun s' I' _ => h s' I') hf
/-- behind a call or a block, the state as it is -/
theorem Inv.call' {s' : Shared} {ch : List Addr} (I : Inv X pins σ H s) (ho : s'.os = s.os) (u : Un (frs X.stack) ch H H' s.heap s'.heap) (hok : HOk X.prog X.w H' s'.heap) (hg : AllBare s'.gens)
    (hch : ∀ b ∈ ch, (b ∈ X.ex ∨ X.s₀.heap.objs.size ≤ b) ∧ b ≠ X.env.locals ∧ (∀ x c, X.env.cells.lookup x = some c → c ≠ b) ∧ ∀ p ∈ X.pn ++ pins, p.1 ≠ b) : Inv X pins σ H' s' := by
  obtain ⟨h', g', d', t', o'⟩ := s'
  have e : o' = s.os := ho
  subst e
  exact I.call (g' := g') (t' := t') (d' := d') u hok hg hch
end

/-! ### the judgements -/
/-- an exception: its class, its own dict's address (where it has one), the abstract heap behind it -/
abbrev XK := Value → Option Addr → Hp → Prop
abbrev St := List (Option V)
abbrev VK := V → Hp → Prop
/-- an expression's reading; a test's; an argument list's -/
abbrev TE := St → Hp → VK → Prop
abbrev TT := St → Hp → (Bool → Hp → Prop) → Prop
abbrev TA := St → Hp → (List V → Hp → Prop) → Prop
/-- what is wanted behind a statement -/
structure Ends where
  nx : St → Hp → Prop
  rt : VK
  bk : St → Hp → Prop := fun _ _ => False
  ct : St → Hp → Prop := fun _ _ => False
abbrev TS := Ends → St → Hp → Prop

def EP (X : Cx) (pins : List (Addr × Obj)) (σ : St) (Q : VK) (u : Value) (s' : Shared) : Prop := ∃ v H', Inv X pins σ H' s' ∧ RelV v u ∧ Q v H'
def TP (X : Cx) (pins : List (Addr × Obj)) (σ : St) (Q : Bool → Hp → Prop) (b : Bool) (s' : Shared) : Prop := ∃ H', Inv X pins σ H' s' ∧ Q b H'
def AP (X : Cx) (pins : List (Addr × Obj)) (σ : St) (Q : List V → Hp → Prop) (us : List Value) (s' : Shared) : Prop := ∃ vs H', Inv X pins σ H' s' ∧ Vals vs us ∧ Q vs H'
def SP (X : Cx) (pins : List (Addr × Obj)) (D : Ends) (f : Flow) (s' : Shared) : Prop :=
  match f with
  | .next => ∃ σ' H', Inv X pins σ' H' s' ∧ D.nx σ' H'
  | .brk => ∃ σ' H', Inv X pins σ' H' s' ∧ D.bk σ' H'
  | .cont => ∃ σ' H', Inv X pins σ' H' s' ∧ D.ct σ' H'
  | .ret u => ∃ v σ' H', Inv X pins σ' H' s' ∧ RelV v u ∧ D.rt v H'

def PE (X : Cx) (e : Expr) (t : TE) : Prop :=
  ∀ (pins : List (Addr × Obj)) (s : Shared) (σ : St) (H : Hp) (Q : VK), Inv X pins σ H s → t σ H Q → wpAny (model X.prog X.w) X.A (eval e X.env) (EP X pins σ Q) X.xe s
def PT (X : Cx) (e : Expr) (t : TT) : Prop :=
  ∀ (pins : List (Addr × Obj)) (s : Shared) (σ : St) (H : Hp) (Q : Bool → Hp → Prop), Inv X pins σ H s → t σ H Q → wpAny (model X.prog X.w) X.A (isTrue e X.env (eval e X.env)) (TP X pins σ Q) X.xe s
/-- a test whatever its 'whole' is (and, or) -/
def PW (X : Cx) (e : Expr) (t : TT) : Prop :=
  ∀ (whole : Sem Value) (pins : List (Addr × Obj)) (s : Shared) (σ : St) (H : Hp) (Q : Bool → Hp → Prop), Inv X pins σ H s → t σ H Q → wpAny (model X.prog X.w) X.A (isTrue e X.env whole) (TP X pins σ Q) X.xe s
theorem PW.pt {X : Cx} {e : Expr} {t : TT} (h : PW X e t) : PT X e t := h _
/-- an argument list (no star), from the left -/
def PA (X : Cx) (es : List Expr) (t : TA) : Prop :=
  ∀ (pos : Pos) (pins : List (Addr × Obj)) (s : Shared) (σ : St) (H : Hp) (Q : List V → Hp → Prop), Inv X pins σ H s → t σ H Q → wpAny (model X.prog X.w) X.A (spliced (backTo pos (starEach es X.env))) (AP X pins σ Q) X.xe s
def PS (X : Cx) (st : Stmt) (t : TS) : Prop :=
  ∀ (pins : List (Addr × Obj)) (s : Shared) (σ : St) (H : Hp) (D : Ends), Inv X pins σ H s → t D σ H → wpAny (model X.prog X.w) X.A (exec st X.env) (SP X pins D) X.xe s
def PSs (X : Cx) (st : List Stmt) (t : TS) : Prop :=
  ∀ (pins : List (Addr × Obj)) (s : Shared) (σ : St) (H : Hp) (D : Ends), Inv X pins σ H s → t D σ H → wpAny (model X.prog X.w) X.A (execs st X.env) (SP X pins D) X.xe s
/-- weaken the end -/
theorem thn {α : Type} {t : Sem α} {Q Q' : α → Shared → Prop} {M : Model} {A : Around} {E : Value → Shared → Prop} {s : Shared} (h : wpAny M A t Q E s) (hQ : ∀ a s, Q a s → Q' a s) : wpAny M A t Q' E s := wpAny_mono h hQ fun _ _ x => x
end L2

namespace L2
open PySem PySem.Spec PyProof.Rows
section
variable {X : Cx}

/-- two expressions in a row -/
theorem bin {a b : Expr} {ta tb : TE} (ha : PE X a ta) (hb : PE X b tb) {pins : List (Addr × Obj)} {s : Shared} {σ : St} {H : Hp} {R : V → V → Hp → Prop} (I : Inv X pins σ H s) (h : ta σ H fun x H1 => tb σ H1 fun y H2 => R x y H2)
    {α : Type} {Q : α → Shared → Prop} {f : Value → Value → Sem α}
    (hf : ∀ v u s2 x y H2, Inv X pins σ H2 s2 → RelV x v → RelV y u → R x y H2 → wpAny (model X.prog X.w) X.A (f v u) Q X.xe s2) :
    wpAny (model X.prog X.w) X.A (eval a X.env) (fun v s₁ => wpAny (model X.prog X.w) X.A (eval b X.env) (fun u s₂ => wpAny (model X.prog X.w) X.A (f v u) Q X.xe s₂) X.xe s₁) X.xe s := by
  refine thn (ha pins s σ H _ I h) fun v s1 ⟨x, H1, I1, r1, q1⟩ => ?_
  refine thn (hb pins s1 σ H1 _ I1 q1) fun u s2 ⟨y, H2, I2, r2, q2⟩ => ?_
  exact hf v u s2 x y H2 I2 r1 r2 q2

/-! ### names and constants -/
def tVar (i : Nat) : TE := fun σ H Q => ∃ v, σ[i]? = some (some v) ∧ Q v H
def tC (v : V) : TE := fun _ H Q => Q v H
theorem pe_var {i : Nat} {x : Str} {pos : Pos} (hN : X.N[i]? = some x) (hv : Vis X.env.scope x) (hd : (x == ("__debug__" : Str)) = false := by decide) (hcd : (x == ("__classdict__" : Str)) = false := by decide) : PE X (.Name x pos) (tVar i) := by
  intro pins s σ H Q I h
  obtain ⟨v, e, h⟩ := h
  obtain ⟨m, hn, hl⟩ := I.loc
  obtain ⟨u, r, l⟩ := hl i x v hN e hv
  have fin : EP X pins σ Q u s := ⟨v, H, I, r, h⟩
  rcases l with ⟨hk, hm⟩ | ⟨hk, c, hc, hcell⟩
  · exact wpAny_Name (wpAny_loadName_local I.ok.kind hk hn hm fin) hd
  · rcases hk with hk | hk
    · exact wpAny_Name (wpAny_loadName_cell I.ok.kind hk hc hcell fin) hd
    · exact wpAny_Name (wpAny_loadName_free I.ok.kind hk hc hcell fin hcd) hd
theorem pe_int {i j pos} : PE X (.Constant (.int i) j pos) (tC (.int i)) := fun _ _ _ H _ I h => wpAny_Constant_int ⟨.int i, H, I.tok _, ⟨_, rfl⟩, h⟩
theorem pe_bl {b j pos} : PE X (.Constant (.bool b) j pos) (tC (.bl b)) := fun _ _ _ H _ I h => Constant_bool ⟨.bl b, H, I, rfl, h⟩
theorem pe_non {j pos} : PE X (.Constant .none j pos) (tC .non) := fun _ _ _ H _ I h => Constant_none ⟨.non, H, I, rfl, h⟩
theorem pe_str {x j pos} : PE X (.Constant (.str x) j pos) (tC (.str x)) := fun _ _ _ H _ I h => Calls.Constant_str ⟨.str x, H, I.tok _, ⟨_, rfl⟩, h⟩

/-- a global name of the def -/
def Gl (X : Cx) (x : Str) : Prop := X.env.kindOf x = some .globalImplicit
theorem ld_glob {E : Value → Shared → Prop} {pins : List (Addr × Obj)} {s : Shared} {σ : St} {H : Hp} {x : Str} {u : Value} {pos : Pos} {Q : Value → Shared → Prop} (I : Inv X pins σ H s) (hg : Gl X x) (hm : X.mg x = some u) (h : Q u s)
    (hd : (x == ("__debug__" : Str)) = false := by decide) : wpAny (model X.prog X.w) X.A (eval (.Name x pos) X.env) Q E s :=
  Calls.Name_function_global I.ok.kind hg (Calls.loadGlobal_global (by rw [I.ok.glob]; exact I.mod.glob.keeps I.bk) hm h) hd
theorem ld_blt {E : Value → Shared → Prop} {pins : List (Addr × Obj)} {s : Shared} {σ : St} {H : Hp} {x : Str} {u : Value} {pos : Pos} {Q : Value → Shared → Prop} (I : Inv X pins σ H s) (hg : Gl X x) (hm : X.mg x = none) (hv : bootBuiltins x = some u) (h : Q u s)
    (hn : x ≠ "__name__" := by decide) (hd : (x == ("__debug__" : Str)) = false := by decide) : wpAny (model X.prog X.w) X.A (eval (.Name x pos) X.env) Q E s := by
  obtain ⟨mb, h1, h2⟩ := I.mod.blt
  exact Calls.Name_function_global I.ok.kind hg (Calls.loadGlobal_builtin (by rw [I.ok.glob]; exact I.mod.glob.keeps I.bk) hm (by rw [I.ok.blt]; exact h1.keeps I.bk) ((h2 x hn).trans hv) h) hd
/-- a module's constant, a class, a function, as a value -/
theorem pe_glob {x : Str} {v : V} {u : Value} {pos : Pos} (hg : Gl X x) (hm : X.mg x = some u) (r : RelV v u) (hd : (x == ("__debug__" : Str)) = false := by decide) : PE X (.Name x pos) (tC v) :=
  fun _ _ _ H _ I h => ld_glob I hg hm ⟨v, H, I, r, h⟩ hd
theorem pe_bltn {x : Str} {v : V} {u : Value} {pos : Pos} (hg : Gl X x) (hm : X.mg x = none) (hv : bootBuiltins x = some u) (r : RelV v u) (hn : x ≠ "__name__" := by decide) (hd : (x == ("__debug__" : Str)) = false := by decide) : PE X (.Name x pos) (tC v) :=
  fun _ _ _ H _ I h => ld_blt I hg hm hv ⟨v, H, I, r, h⟩ hn hd

/-! ### arithmetic -/
/-- two ints -/
def t2I (ta tb : TE) (k : Int → Int → Hp → Prop) : St → Hp → Prop := fun σ H => ta σ H fun x H1 => tb σ H1 fun y H2 => ∃ i j, x = .int i ∧ y = .int j ∧ k i j H2
def tAdd (ta tb : TE) : TE := fun σ H Q => t2I ta tb (fun i j H2 => Q (.int (i + j)) H2) σ H
def tSub (ta tb : TE) : TE := fun σ H Q => t2I ta tb (fun i j H2 => Q (.int (i - j)) H2) σ H
/-- the left factor below 2^64 -/
def tMul (ta tb : TE) : TE := fun σ H Q => t2I ta tb (fun i j H2 => (-(2 ^ 64) < i ∧ i < 2 ^ 64) ∧ Q (.int (i * j)) H2) σ H
variable {a b : Expr} {ta tb : TE} {pos : Pos}
theorem pe_add (ha : PE X a ta) (hb : PE X b tb) : PE X (.BinOp a .Add b pos) (tAdd ta tb) := by
  intro pins s σ H Q I h
  refine wpAny_BinOp (bin ha hb I h fun v u s2 x y H2 I2 rx ry q => ?_)
  obtain ⟨i, j, rfl, rfl, q⟩ := q
  obtain ⟨t, rfl⟩ := rx
  obtain ⟨t', rfl⟩ := ry
  exact add_int ⟨.int _, H2, I2.tok _, ⟨_, rfl⟩, q⟩
theorem pe_sub (ha : PE X a ta) (hb : PE X b tb) : PE X (.BinOp a .Sub b pos) (tSub ta tb) := by
  intro pins s σ H Q I h
  refine wpAny_BinOp (bin ha hb I h fun v u s2 x y H2 I2 rx ry q => ?_)
  obtain ⟨i, j, rfl, rfl, q⟩ := q
  obtain ⟨t, rfl⟩ := rx
  obtain ⟨t', rfl⟩ := ry
  exact sub_int ⟨.int _, H2, I2.tok _, ⟨_, rfl⟩, q⟩
theorem pe_mul (ha : PE X a ta) (hb : PE X b tb) : PE X (.BinOp a .Mult b pos) (tMul ta tb) := by
  intro pins s σ H Q I h
  refine wpAny_BinOp (bin ha hb I h fun v u s2 x y H2 I2 rx ry q => ?_)
  obtain ⟨i, j, rfl, rfl, ⟨q1, q2⟩, q⟩ := q
  obtain ⟨t, rfl⟩ := rx
  obtain ⟨t', rfl⟩ := ry
  exact mul_int ⟨.int _, H2, I2.tok _, ⟨_, rfl⟩, q⟩ (.of_left (intBits_le_64 q1 q2))

/-! ### comparisons -/
def PC (X : Cx) (op : CmpOp) (a b : Expr) (t : TE) : Prop :=
  ∀ (pins : List (Addr × Obj)) (s : Shared) (σ : St) (H : Hp) (Q : VK), Inv X pins σ H s → t σ H Q →
    wpAny (model X.prog X.w) X.A (eval a X.env) (fun v s₁ => wpAny (model X.prog X.w) X.A (eval b X.env) (fun u s₂ => wpAny (model X.prog X.w) X.A (compareOp op v u) (EP X pins σ Q) X.xe s₂) X.xe s₁) X.xe s
theorem nobehind (b : Expr) {op : CmpOp} (h : op ≠ .In) (h2 : op ≠ .NotIn) : behindInMarks op b = false := by
  have e1 : (op == CmpOp.In) = false := by cases op <;> first | rfl | exact absurd rfl h
  have e2 : (op == CmpOp.NotIn) = false := by cases op <;> first | rfl | exact absurd rfl h2
  cases b <;> simp [behindInMarks, e1, e2]
def tCmp (p : Int → Int → Bool) (ta tb : TE) : TE := fun σ H Q => t2I ta tb (fun i j H2 => Q (.bl (p i j)) H2) σ H
abbrev tLt : TE → TE → TE := tCmp fun i j => decide (i < j)
abbrev tLe : TE → TE → TE := tCmp fun i j => decide (i ≤ j)
abbrev tGt : TE → TE → TE := tCmp fun i j => decide (j < i)
abbrev tGe : TE → TE → TE := tCmp fun i j => decide (j ≤ i)
abbrev tEqI : TE → TE → TE := tCmp fun i j => decide (i = j)
abbrev tNeI : TE → TE → TE := tCmp fun i j => !decide (i = j)
/-- a comparison of two ints, by its rule -/
theorem pc_int {op : CmpOp} {p : Int → Int → Bool} (ha : PE X a ta) (hb : PE X b tb)
    (rule : ∀ (i j : Int) (t u : Tok) (Q : Value → Shared → Prop) (s : Shared), Q (.bool (p i j)) s → wpAny (model X.prog X.w) X.A (compareOp op (.int i t) (.int j u)) Q X.xe s) : PC X op a b (tCmp p ta tb) := by
  intro pins s σ H Q I h
  refine bin ha hb I h fun v u s2 x y H2 I2 rx ry q => ?_
  obtain ⟨i, j, rfl, rfl, q⟩ := q
  obtain ⟨t, rfl⟩ := rx
  obtain ⟨t', rfl⟩ := ry
  exact rule i j t t' _ s2 ⟨.bl _, H2, I2, rfl, q⟩
theorem pc_lt (ha : PE X a ta) (hb : PE X b tb) : PC X .Lt a b (tLt ta tb) := pc_int ha hb fun _ _ _ _ _ _ h => lt_int h
theorem pc_le (ha : PE X a ta) (hb : PE X b tb) : PC X .LtE a b (tLe ta tb) := pc_int ha hb fun _ _ _ _ _ _ h => le_int h
theorem pc_gt (ha : PE X a ta) (hb : PE X b tb) : PC X .Gt a b (tGt ta tb) := pc_int ha hb fun _ _ _ _ _ _ h => gt_int h
theorem pc_ge (ha : PE X a ta) (hb : PE X b tb) : PC X .GtE a b (tGe ta tb) := pc_int ha hb fun _ _ _ _ _ _ h => ge_int h
theorem pc_eqI (ha : PE X a ta) (hb : PE X b tb) : PC X .Eq a b (tEqI ta tb) := pc_int ha hb fun _ _ _ _ _ _ h => eq_int (by rw [Bool.beq_eq_decide_eq]; exact h)
theorem pc_neI (ha : PE X a ta) (hb : PE X b tb) : PC X .NotEq a b (tNeI ta tb) := pc_int ha hb fun _ _ _ _ _ _ h => ne_int (by rw [bne, Bool.beq_eq_decide_eq]; exact h)
/-- is None -/
def tIsN (ta : TE) : TE := fun σ H Q => ta σ H fun x H1 => Q (.bl (decide (x = .non))) H1
def tNotN (ta : TE) : TE := fun σ H Q => ta σ H fun x H1 => Q (.bl (!decide (x = .non))) H1
theorem RelV.none_iff {x : V} {v : Value} (r : RelV x v) : (v == Value.none) = decide (x = .non) := by
  cases x with
  | non => cases r; rfl
  | bl _ => cases r; rfl
  | int _ => obtain ⟨t, rfl⟩ := r; rfl
  | str _ => obtain ⟨t, rfl⟩ := r; rfl
  | byt _ => obtain ⟨t, rfl⟩ := r; rfl
  | flt _ => obtain ⟨t, rfl⟩ := r; rfl
  | ref _ => cases r; rfl
  | ty _ => cases r; rfl
theorem pc_isN {j pos'} (ha : PE X a ta) : PC X .Is a (.Constant .none j pos') (tIsN ta) := by
  intro pins s σ H Q I h
  refine thn (ha pins s σ H _ I h) fun v s1 ⟨x, H1, I1, r1, q1⟩ => ?_
  exact Constant_none (is_none_gen ⟨.bl _, H1, I1, by rw [r1.none_iff]; rfl, q1⟩)
theorem pc_notN {j pos'} (ha : PE X a ta) : PC X .IsNot a (.Constant .none j pos') (tNotN ta) := by
  intro pins s σ H Q I h
  refine thn (ha pins s σ H _ I h) fun v s1 ⟨x, H1, I1, r1, q1⟩ => ?_
  exact Constant_none (isnot_none_gen ⟨.bl _, H1, I1, by rw [r1.none_iff]; rfl, q1⟩)
/-- a comparison as a value, as a test -/
def tB (t : TE) : TT := fun σ H Q => t σ H fun x H1 => ∃ c, x = .bl c ∧ Q c H1
theorem pe_cmp {op : CmpOp} {t : TE} (h : PC X op a b t) (h1 : behindInMarks op b = false := by first | exact nobehind _ (by decide) (by decide) | rfl) : PE X (.Compare a [op] [b] pos) t := fun pins s σ H Q I hw => wpAny_Compare1 (h pins s σ H Q I hw) h1
theorem pt_cmp {op : CmpOp} {t : TE} (h : PC X op a b t) (h1 : behindInMarks op b = false := by first | exact nobehind _ (by decide) (by decide) | rfl) : PT X (.Compare a [op] [b] pos) (tB t) := by
  intro pins s σ H Q I hw
  refine wpAny_isTrue_Compare1 (thn (h pins s σ H _ I hw) fun v s1 h1 => thn h1 fun u s2 h2 => thn h2 fun c s3 ⟨x, H1, I1, r1, q1⟩ => ?_) h1
  obtain ⟨d, rfl, q⟩ := q1
  cases r1
  exact wpAny_truthy_bool ⟨H1, I1, q⟩
/-- an expression whose value is a bool, as a test -/
theorem pt_val {e : Expr} {t : TE} (h : PE X e t) (he : ∀ whole, isTrue e X.env whole = (do let v ← whole; standAt e.pos; holding [v] (truthy v)) := by intro _; rfl) : PT X e (tB t) := by
  intro pins s σ H Q I hw
  refine isTrue_plain (thn (h pins s σ H _ I hw) fun v s1 ⟨x, H1, I1, r1, q1⟩ => ?_) (he _)
  obtain ⟨d, rfl, q⟩ := q1
  cases r1
  exact wpAny_truthy_bool ⟨H1, I1, q⟩

/-! ### and, or, not -/
variable {tA tB' : TT} {rest : List Expr}
def tAnd (t u : TT) : TT := fun σ H Q => t σ H fun c H1 => if c = true then u σ H1 Q else Q false H1
def tOr (t u : TT) : TT := fun σ H Q => t σ H fun c H1 => if c = true then Q true H1 else u σ H1 Q
def tNot (t : TT) : TT := fun σ H Q => t σ H fun c H1 => Q (!c) H1
theorem pw_and1 (ha : PT X a tA) : PW X (.BoolOp .And [a] pos) tA := by
  intro wh pins s σ H Q I h
  refine isTrue_and (thn (ha pins s σ H Q I h) fun c s1 e => ?_)
  cases c with
  | true => exact isTrue_and_nil e
  | false => exact e
theorem pw_or1 (ha : PT X a tA) : PW X (.BoolOp .Or [a] pos) tA := by
  intro wh pins s σ H Q I h
  refine isTrue_or (thn (ha pins s σ H Q I h) fun c s1 e => ?_)
  cases c with
  | false => exact isTrue_or_nil e
  | true => exact e
theorem pw_and (ha : PT X a tA) (hb : PW X (.BoolOp .And (b :: rest) pos) tB') : PW X (.BoolOp .And (a :: b :: rest) pos) (tAnd tA tB') := by
  intro wh pins s σ H Q I h
  refine isTrue_and (thn (ha pins s σ H _ I h) fun c s1 ⟨H1, I1, q1⟩ => ?_)
  cases c with
  | true => exact hb wh pins s1 σ H1 Q I1 q1
  | false => exact ⟨H1, I1, q1⟩
theorem pw_or (ha : PT X a tA) (hb : PW X (.BoolOp .Or (b :: rest) pos) tB') : PW X (.BoolOp .Or (a :: b :: rest) pos) (tOr tA tB') := by
  intro wh pins s σ H Q I h
  refine isTrue_or (thn (ha pins s σ H _ I h) fun c s1 ⟨H1, I1, q1⟩ => ?_)
  cases c with
  | true => exact ⟨H1, I1, q1⟩
  | false => exact hb wh pins s1 σ H1 Q I1 q1
theorem pt_not (ha : PT X a tA) : PT X (.UnaryOp .Not a pos) (tNot tA) := by
  intro pins s σ H Q I h
  exact isTrue_not (ha pins s σ H (fun c H1 => Q (!c) H1) I h)
/-- .. as values (bools) -/
def tAndV (ta tb : TE) : TE := fun σ H Q => ta σ H fun x H1 => ∃ c, x = .bl c ∧ if c = true then tb σ H1 Q else Q (.bl false) H1
def tOrV (ta tb : TE) : TE := fun σ H Q => ta σ H fun x H1 => ∃ c, x = .bl c ∧ if c = true then Q (.bl true) H1 else tb σ H1 Q
def tNotV (ta : TE) : TE := fun σ H Q => ta σ H fun x H1 => ∃ c, x = .bl c ∧ Q (.bl (!c)) H1
theorem pe_one {op} {t : TE} (h : PE X a t) : PE X (.BoolOp op [a] pos) t := fun pins s σ H Q I hw => BoolOp_one (h pins s σ H Q I hw)
theorem pe_and (ha : PE X a ta) (hb : PE X (.BoolOp .And (b :: rest) pos) tb) : PE X (.BoolOp .And (a :: b :: rest) pos) (tAndV ta tb) := by
  intro pins s σ H Q I h
  refine BoolOp_and (thn (ha pins s σ H _ I h) fun v s1 ⟨x, H1, I1, r1, q1⟩ => ?_)
  obtain ⟨c, rfl, q1⟩ := q1
  cases r1
  refine wpAny_truthy_bool ?_
  cases c with
  | true => exact hb pins s1 σ H1 Q I1 q1
  | false => exact ⟨.bl false, H1, I1, rfl, q1⟩
theorem pe_or (ha : PE X a ta) (hb : PE X (.BoolOp .Or (b :: rest) pos) tb) : PE X (.BoolOp .Or (a :: b :: rest) pos) (tOrV ta tb) := by
  intro pins s σ H Q I h
  refine BoolOp_or (thn (ha pins s σ H _ I h) fun v s1 ⟨x, H1, I1, r1, q1⟩ => ?_)
  obtain ⟨c, rfl, q1⟩ := q1
  cases r1
  refine wpAny_truthy_bool ?_
  cases c with
  | false => exact hb pins s1 σ H1 Q I1 q1
  | true => exact ⟨.bl true, H1, I1, rfl, q1⟩
theorem pe_not (ha : PE X a ta) : PE X (.UnaryOp .Not a pos) (tNotV ta) := by
  intro pins s σ H Q I h
  refine UnaryOp_ (thn (ha pins s σ H _ I h) fun v s1 ⟨x, H1, I1, r1, q1⟩ => ?_)
  obtain ⟨c, rfl, q1⟩ := q1
  cases r1
  exact not_of (wpAny_truthy_bool ⟨.bl (!c), H1, I1, rfl, q1⟩)
/-- a if t else b -/
def tIf (t : TT) (ta tb : TE) : TE := fun σ H Q => t σ H fun c H1 => if c = true then ta σ H1 Q else tb σ H1 Q
theorem pe_ifExp {c : Expr} (hc : PT X c tA) (ha : PE X a ta) (hb : PE X b tb) : PE X (.IfExp c a b pos) (tIf tA ta tb) := by
  intro pins s σ H Q I h
  refine wpAny_IfExp (thn (hc pins s σ H _ I h) fun d s1 ⟨H1, I1, q1⟩ => ?_)
  cases d with
  | true => exact ha pins s1 σ H1 Q I1 q1
  | false => exact hb pins s1 σ H1 Q I1 q1
end
end L2

namespace L2
open PySem PySem.Spec PyProof.Rows

/-! ### a list, a tuple that is read: tracked, frozen, or an object of the module -/
def SqL (K : PySem.W.Frag) (H : Hp) (a : Addr) (xs : List V) : Prop :=
  Rd H a (.lst xs) ∨
    ∃ (o : Obj) (its : Array Value) (n : Nat), K.lookup a = some o ∧ o.cls = .type "list" ∧ o.dict = none ∧ o.data = .seq its n ∧ its.size ≤ sizeLine ∧ Vals xs its.toList
def SqT (K : PySem.W.Frag) (H : Hp) (a : Addr) (xs : List V) : Prop :=
  Rd H a (.tup xs) ∨
    ∃ (o : Obj) (its : Array Value) (n : Nat), K.lookup a = some o ∧ o.cls = .type "tuple" ∧ o.data = .seq its n ∧ its.size ≤ sizeLine ∧ Vals xs its.toList
def absV : Value → Option V
  | .none => some .non
  | .bool b => some (.bl b)
  | .int i _ => some (.int i)
  | .str x _ => some (.str x)
  | .bytes b _ => some (.byt b)
  | .float b _ => some (.flt b)
  | .ref a => some (.ref a)
  | .type n => some (.ty n)
  | _ => none
theorem RelV.abs {x : V} {u : Value} (r : RelV x u) : absV u = some x := by
  cases x with
  | non => cases r; rfl
  | bl _ => cases r; rfl
  | int _ => obtain ⟨t, rfl⟩ := r; rfl
  | str _ => obtain ⟨t, rfl⟩ := r; rfl
  | byt _ => obtain ⟨t, rfl⟩ := r; rfl
  | flt _ => obtain ⟨t, rfl⟩ := r; rfl
  | ref _ => cases r; rfl
  | ty _ => cases r; rfl
theorem RelV.inj {x y : V} {u : Value} (r : RelV x u) (q : RelV y u) : x = y := Option.some.inj (r.abs.symm.trans q.abs)
theorem Vals.inj : ∀ {xs ys : List V} {us : List Value}, Vals xs us → Vals ys us → xs = ys
  | _, _, _, .nil, .nil => rfl
  | _, _, _, .cons r t, .cons r' t' => by rw [r.inj r', Vals.inj t t']
section
variable {X : Cx} {pins : List (Addr × Obj)} {σ : St} {H : Hp} {s : Shared} {a : Addr} {xs ys : List V}
theorem SqL.of {K : PySem.W.Frag} (h : H a = some (.lst xs)) : SqL K H a xs := .inl (.inl h)
theorem SqT.of {K : PySem.W.Frag} (h : H a = some (.tup xs)) : SqT K H a xs := .inl (.inl h)
theorem Inv.list (I : Inv X pins σ H s) (h : SqL X.K H a xs) : ∃ its : List Value, Vals xs its ∧ PlainL s.heap a its.toArray ∧ xs.length ≤ sizeLine := by
  rcases h with h | ⟨o, its, n, hk, hc, hd, hs, hz, r⟩
  · obtain ⟨z, its, n, r, e⟩ := h.ok I.hok
    exact ⟨its, r, ⟨_, n, e, rfl, rfl, rfl⟩, z⟩
  · refine ⟨its.toList, r, ⟨o, n, I.kIn a o hk, hc, hd, by simpa using hs⟩, ?_⟩
    have e := r.length
    simp only [Array.length_toList] at e
    omega
theorem Inv.tuple (I : Inv X pins σ H s) (h : SqT X.K H a xs) : ∃ its : List Value, Vals xs its ∧ IsTup s.heap a its.toArray ∧ xs.length ≤ sizeLine := by
  rcases h with h | ⟨o, its, n, hk, hc, hs, hz, r⟩
  · obtain ⟨z, its, r, p⟩ := h.ok I.hok
    exact ⟨its, r, p, z⟩
  · refine ⟨its.toList, r, ⟨o, I.kIn a o hk, hc, n, by simpa using hs⟩, ?_⟩
    have e := r.length
    simp only [Array.length_toList] at e
    omega
theorem Inv.list_inj (I : Inv X pins σ H s) (h : SqL X.K H a xs) (h' : SqL X.K H a ys) : xs = ys := by
  obtain ⟨its, r, ⟨o, n, e, _, _, d⟩, _⟩ := I.list h
  obtain ⟨its', r', ⟨o', n', e', _, _, d'⟩, _⟩ := I.list h'
  rw [e] at e'; cases e'
  rw [d] at d'
  injection d' with d1 _
  have : its = its' := by simpa using congrArg Array.toList d1
  subst this
  exact r.inj r'
theorem Inv.tuple_inj (I : Inv X pins σ H s) (h : SqT X.K H a xs) (h' : SqT X.K H a ys) : xs = ys := by
  obtain ⟨its, r, ⟨o, e, _, n, d⟩, _⟩ := I.tuple h
  obtain ⟨its', r', ⟨o', e', _, n', d'⟩, _⟩ := I.tuple h'
  rw [e] at e'; cases e'
  rw [d] at d'
  injection d' with d1 _
  have : its = its' := by simpa using congrArg Array.toList d1
  subst this
  exact r.inj r'
end

/-! ### another wish about exceptions -/
abbrev Cx.wish (X : Cx) (E : Value → Shared → Prop) : Cx := { X with xe := E }
/-- no exception leaves -/
abbrev Cx.nox (X : Cx) : Cx := X.wish fun _ _ => False
theorem Cx.Ok.wish {X : Cx} (ok : X.Ok) (E : Value → Shared → Prop) : (X.wish E).Ok :=
  ⟨ok.mod, ok.kind, ok.glob, ok.blt, ok.above, ok.inj, ok.has, ok.cab, ok.hd, ok.frames, ok.stk, ok.exf, ok.bs, ok.bsz, ok.noex, ok.exfs, ok.funs, ok.frf⟩
theorem Cx.Ok.unwish {X : Cx} {E : Value → Shared → Prop} (ok : (X.wish E).Ok) : X.Ok :=
  ⟨ok.mod, ok.kind, ok.glob, ok.blt, ok.above, ok.inj, ok.has, ok.cab, ok.hd, ok.frames, ok.stk, ok.exf, ok.bs, ok.bsz, ok.noex, ok.exfs, ok.funs, ok.frf⟩
section
variable {X : Cx} {pins : List (Addr × Obj)} {σ : St} {H : Hp} {s : Shared} {E : Value → Shared → Prop}
theorem Inv.wish (I : Inv X pins σ H s) (E : Value → Shared → Prop) : Inv (X.wish E) pins σ H s := ⟨I.ok.wish E, I.os, I.bare, I.base, I.loc, I.cell, I.free, I.freeC, I.pin, I.hok, I.len⟩
theorem Inv.unwish (I : Inv (X.wish E) pins σ H s) : Inv X pins σ H s := ⟨I.ok.unwish, I.os, I.bare, I.base, I.loc, I.cell, I.free, I.freeC, I.pin, I.hok, I.len⟩
theorem SP.unwish {D : Ends} {f : Flow} {s' : Shared} (h : SP (X.wish E) pins D f s') : SP X pins D f s' := by
  cases f with
  | next => obtain ⟨σ', H', I, q⟩ := h; exact ⟨σ', H', I.unwish, q⟩
  | brk => obtain ⟨σ', H', I, q⟩ := h; exact ⟨σ', H', I.unwish, q⟩
  | cont => obtain ⟨σ', H', I, q⟩ := h; exact ⟨σ', H', I.unwish, q⟩
  | ret u => obtain ⟨v, σ', H', I, r, q⟩ := h; exact ⟨v, σ', H', I.unwish, r, q⟩
theorem PE.nox {e : Expr} {t : TE} (h : PE X.nox e t) : PE X e t := fun pins s σ H Q I hw =>
  wpAny_mono (h pins s σ H Q (I.wish _) hw) (fun _ _ ⟨v, H', I', r, q⟩ => ⟨v, H', I'.unwish, r, q⟩) fun _ _ z => False.elim z
theorem PT.nox {e : Expr} {t : TT} (h : PT X.nox e t) : PT X e t := fun pins s σ H Q I hw =>
  wpAny_mono (h pins s σ H Q (I.wish _) hw) (fun _ _ ⟨H', I', q⟩ => ⟨H', I'.unwish, q⟩) fun _ _ z => False.elim z
theorem PSs.nox {st : List Stmt} {t : TS} (h : PSs X.nox st t) : PSs X st t := fun pins s σ H D I hw =>
  wpAny_mono (h pins s σ H D (I.wish _) hw) (fun _ _ q => q.unwish) fun _ _ z => False.elim z
end

/-! ### blocks and small statements -/
section
variable {X : Cx} {st : Stmt} {rest : List Stmt} {t u : TS} {e : Expr} {te : TE} {pos : Pos}
def tNext : TS := fun D σ H => D.nx σ H
def tSeq (t u : TS) : TS := fun D σ H => t { D with nx := u D } σ H
theorem pss_nil : PSs X [] tNext := fun _ _ σ H _ I h => wpAny_execs_nil ⟨σ, H, I, h⟩
theorem pss_cons (h1 : PS X st t) (h2 : PSs X rest u) : PSs X (st :: rest) (tSeq t u) := by
  intro pins s σ H D I h
  refine wpAny_execs_cons (thn (h1 pins s σ H { D with nx := u D } I h) fun f s1 q => ?_)
  cases f with
  | next =>
    obtain ⟨σ', H', I', q⟩ := q
    exact h2 pins s1 σ' H' D I' q
  | ret v => exact q
  | brk => exact q
  | cont => exact q
theorem pss_one (h1 : PS X st t) : PSs X [st] t := by
  intro pins s σ H D I h
  refine wpAny_execs_cons (thn (h1 pins s σ H D I h) fun f s1 q => ?_)
  cases f with
  | next => exact wpAny_execs_nil q
  | ret v => exact q
  | brk => exact q
  | cont => exact q
def tBreak : TS := fun D σ H => D.bk σ H
def tCont : TS := fun D σ H => D.ct σ H
theorem ps_pass : PS X (.Pass pos) tNext := fun _ _ σ H _ I h => wpAny_Pass ⟨σ, H, I, h⟩
theorem ps_break : PS X (.Break pos) tBreak := fun _ _ σ H _ I h => wpAny_Break ⟨σ, H, I, h⟩
theorem ps_continue : PS X (.Continue pos) tCont := fun _ _ σ H _ I h => wpAny_Continue ⟨σ, H, I, h⟩
/-- in a def's body nothing is shown -/
theorem Inv.quiet {pins : List (Addr × Obj)} {σ : St} {H : Hp} {s : Shared} (I : Inv X pins σ H s) : interactive X.env = false := by simp [interactive, I.ok.kind]
/-- a docstring -/
theorem ps_doc {x j pos pos'} : PS X (.Expr (.Constant (.str x) j pos) pos') tNext := fun _ s σ H _ I h => wpAny_Expr (Calls.Constant_str (show SP X _ _ .next { s with toks := s.toks + 1 } from ⟨σ, H, I.tok _, h⟩)) I.quiet
/-- an expression whose value is dropped -/
def tDrop (te : TE) : TS := fun D σ H => te σ H fun _ H1 => D.nx σ H1
theorem ps_expr (he : PE X e te) (hs : swapsWith e none pos.line X.env = pure false := by rfl) : PS X (.Expr e pos) (tDrop te) := by
  intro pins s σ H D I h
  exact wpAny_Expr_any (thn (he pins s σ H _ I h) fun v s1 ⟨x, H1, I1, r1, q1⟩ => ⟨σ, H1, I1, q1⟩) I.quiet hs
def tRet (te : TE) : TS := fun D σ H => te σ H D.rt
theorem ps_ret (he : PE X e te) : PS X (.Return (some e) pos) (tRet te) := by
  intro pins s σ H D I h
  exact wpAny_Return_some (thn (he pins s σ H _ I h) fun v s1 ⟨x, H1, I1, r1, q1⟩ => ⟨x, σ, H1, I1, r1, q1⟩)
def tRetN : TS := fun D _ H => D.rt .non H
theorem ps_retN : PS X (.Return none pos) tRetN := fun _ _ σ H _ I h => wpAny_Return_none ⟨.non, σ, H, I, rfl, h⟩
def tIfS (c : TT) (t u : TS) : TS := fun D σ H => c σ H fun b H1 => if b = true then t D σ H1 else u D σ H1
theorem ps_if {c : Expr} {a b : List Stmt} {tc : TT} (hc : PT X c tc) (ha : PSs X a t) (hb : PSs X b u) : PS X (.If c a b pos) (tIfS tc t u) := by
  intro pins s σ H D I h
  refine wpAny_If (thn (hc pins s σ H _ I h) fun d s1 ⟨H1, I1, q1⟩ => ?_)
  cases d with
  | true => exact ha pins s1 σ H1 D I1 q1
  | false => exact hb pins s1 σ H1 D I1 q1
/-- code that the proof never comes to -/
def tNever : TS := fun _ _ _ => False
theorem ps_never : PS X st tNever := fun _ _ _ _ _ _ h => h.elim
theorem pss_never {sts : List Stmt} : PSs X sts tNever := fun _ _ _ _ _ _ h => h.elim
end

/-! ### targets -/
abbrev TG := V → St → Hp → (St → Hp → Prop) → Prop
abbrev TGs := List V → St → Hp → (St → Hp → Prop) → Prop
def PG (X : Cx) (target : Expr) (t : TG) : Prop :=
  ∀ (pins : List (Addr × Obj)) (s : Shared) (σ : St) (H : Hp) (v : V) (u : Value) (Q : St → Hp → Prop), Inv X pins σ H s → RelV v u → t v σ H Q →
    wpAny (model X.prog X.w) X.A (assign target X.env u) (fun _ s' => ∃ σ' H', Inv X pins σ' H' s' ∧ Q σ' H') X.xe s
/-- several targets, one after another -/
def PGs (X : Cx) (ts : List Expr) (t : TGs) : Prop :=
  ∀ (pins : List (Addr × Obj)) (s : Shared) (σ : St) (H : Hp) (vs : List V) (us : List Value) (Q : St → Hp → Prop), Inv X pins σ H s → Vals vs us → t vs σ H Q →
    wpAny (model X.prog X.w) X.A (assignInOrder ((assignEach ts X.env).map (·.2)) us) (fun _ s' => ∃ σ' H', Inv X pins σ' H' s' ∧ Q σ' H') X.xe s
/-- o[i] = v, by values -/
abbrev TSet := V → V → V → Hp → (Hp → Prop) → Prop
def PSet (X : Cx) (t : TSet) : Prop :=
  ∀ (pins : List (Addr × Obj)) (s : Shared) (σ : St) (H : Hp) (o i v : V) (ov iv u : Value) (Q : Hp → Prop), Inv X pins σ H s → RelV o ov → RelV i iv → RelV v u → t o i v H Q →
    wpAny (model X.prog X.w) X.A (setItem ov iv u) (fun _ s' => ∃ H', Inv X pins σ H' s' ∧ Q H') X.xe s
/-- a op= b, by values -/
abbrev TIp := V → V → Hp → VK → Prop
def PIp (X : Cx) (op : Operator) (t : TIp) : Prop :=
  ∀ (pins : List (Addr × Obj)) (s : Shared) (σ : St) (H : Hp) (x y : V) (v u : Value) (Q : VK), Inv X pins σ H s → RelV x v → RelV y u → t x y H Q →
    wpAny (model X.prog X.w) X.A (inplaceOp op v u) (EP X pins σ Q) X.xe s
section
variable {X : Cx} {pos : Pos}
def gName (i : Nat) : TG := fun v σ H Q => Q (σ.set i (some v)) H
theorem pg_name {i : Nat} {x : Str} (hN : X.N.Nodup) (hi : X.N[i]? = some x) (hx : Loc X.env.scope x) (hf : X.fn x = true ∨ X.env.scope.names.lookup x = some .local := by first | exact .inl rfl | exact .inr rfl | assumption) : PG X (.Name x pos) (gName i) := by
  intro pins s σ H v u Q I r h
  exact wpAny_assign_Name (store_ok I hN hi hx r (fun s' I' => ⟨_, H, I', h⟩) hf)
def gNil : TGs := fun vs σ H Q => vs = [] ∧ Q σ H
def gCons (t : TG) (u : TGs) : TGs := fun vs σ H Q => ∃ v r, vs = v :: r ∧ t v σ H fun σ' H' => u r σ' H' Q
theorem pgs_nil : PGs X [] gNil := by
  intro pins s σ H vs us Q I r h
  obtain ⟨e, h⟩ := h
  subst e
  cases r
  exact assignInOrder_nil ⟨σ, H, I, h⟩
theorem pgs_cons {e : Expr} {es : List Expr} {t : TG} {u : TGs} (h1 : PG X e t) (h2 : PGs X es u)
    (hs : (assignEach (e :: es) X.env).map (·.2) = assign e X.env :: (assignEach es X.env).map (·.2) := by rfl) : PGs X (e :: es) (gCons t u) := by
  intro pins s σ H vs us Q I r h
  obtain ⟨v, vr, e1, h⟩ := h
  subst e1
  cases r with
  | cons r rr =>
    rw [hs]
    refine assignInOrder_cons (thn (h1 pins s σ H _ _ _ I r h) fun _ s1 ⟨σ1, H1, I1, q1⟩ => ?_)
    exact h2 pins s1 σ1 H1 _ _ Q I1 rr q1
/-- (a, b, ..) = a tuple of that length -/
def gTup (K : PySem.W.Frag) (n : Nat) (t : TGs) : TG := fun v σ H Q => ∃ a xs, v = .ref a ∧ SqT K H a xs ∧ xs.length = n ∧ t xs σ H Q
theorem pg_tup {es : List Expr} {k : Nat} {t : TGs} {n : Nat} (hc : X.calm = true) (h : PGs X es t)
    (hn : (assignEach es X.env).length = n := by rfl) (hst : (assignEach es X.env).findIdx? (·.1) = none := by rfl) : PG X (.Tuple es k pos) (gTup X.K n t) := by
  intro pins s σ H v u Q I r hw
  obtain ⟨a, xs, e1, hq, hl, hw⟩ := hw
  subst e1
  cases r
  obtain ⟨its, rv, ht, hz⟩ := I.tuple hq
  refine assign_Tuple_tuple (I.ok.hd hc) ht (by simp [hn, ← hl, rv.length]) hst fun h' hx => ?_
  have I1 : Inv X pins σ H { s with heap := h' } := I.kept (t' := s.toks) fun b o e => hx b o (Nat.ne_of_lt (Heap.lt_size e)) e
  exact h pins _ σ H xs _ Q I1 (by simpa using rv) hw
/-- o[i] = .. -/
def gSub (to ti : TE) (t : TSet) : TG := fun v σ H Q => to σ H fun o H1 => ti σ H1 fun i H2 => t o i v H2 fun H3 => Q σ H3
theorem pg_sub {o i : Expr} {to ti : TE} {t : TSet} (ho : PE X o to) (hi : PE X i ti) (hs : PSet X t)
    (ha : ∀ v, assign (.Subscript o i pos) X.env v = (do
      let ov ← holding [v] (eval o X.env)
      let iv ← holding [v, ov] (eval i X.env)
      standAt pos
      holding [v, ov, iv] (setItem ov iv v)
      release [v, ov, iv] []) := by intro _; rfl) : PG X (.Subscript o i pos) (gSub to ti t) := by
  intro pins s σ H v u Q I r h
  rw [ha]
  refine wpAny_bind (wpAny_holding (thn (ho pins s σ H _ I h) fun ov s1 ⟨x, H1, I1, r1, q1⟩ => ?_))
  refine wpAny_bind (wpAny_holding (thn (hi pins s1 σ H1 _ I1 q1) fun iv s2 ⟨y, H2, I2, r2, q2⟩ => ?_))
  refine wpAny_bind (wpAny_standAt (wpAny_bind (wpAny_holding (thn (hs pins s2 σ H2 x y v ov iv u _ I2 r1 r2 r q2) fun _ s3 ⟨H3, I3, q3⟩ => ?_))))
  exact wpAny_release ⟨σ, H3, I3, q3⟩
/-- target = value -/
def tAsg (te : TE) (g : TG) : TS := fun D σ H => te σ H fun x H1 => g x σ H1 D.nx
theorem ps_asg {tg e : Expr} {te : TE} {g : TG} (he : PE X e te) (hg : PG X tg g) (hs : swapsWithSole [tg] e pos.line X.env = pure false := by rfl) (hw : swappedStores [tg] e X.env = pure none := by rfl)
    (h1 : (assignEach [tg] X.env).map (·.2) = [assign tg X.env] := by rfl) : PS X (.Assign [tg] e pos) (tAsg te g) := by
  intro pins s σ H D I h
  refine wpAny_Assign_stores (thn (he pins s σ H _ I h) fun v s1 ⟨x, H1, I1, r1, q1⟩ => ?_) hs hw
  rw [h1]
  exact thn (hg pins s1 σ H1 x v _ I1 r1 q1) fun _ s2 q => q
/-- name = value -/
theorem ps_set {i : Nat} {x : Str} {e : Expr} {te : TE} {pos' : Pos} (hN : X.N.Nodup) (hi : X.N[i]? = some x) (hx : Loc X.env.scope x) (he : PE X e te) (hs : swapsWith e (some (.Name x pos')) pos.line X.env = pure false := by rfl) (hf : X.fn x = true ∨ X.env.scope.names.lookup x = some .local := by first | exact .inl rfl | exact .inr rfl | assumption) :
    PS X (.Assign [.Name x pos'] e pos) (tAsg te (gName i)) := by
  intro pins s σ H D I h
  refine wpAny_Assign_Name (thn (he pins s σ H _ I h) fun v s1 ⟨y, H1, I1, r1, q1⟩ => ?_) hs
  exact store_ok I1 hN hi hx r1 (fun s2 I2 => ⟨_, H1, I2, q1⟩) hf
/-- a, b = x, y with plain local names: stored from the right; the pair itself is not tracked (the opening rows as in PyProof/Rows/TupAssign.lean:23) -/
def tPar (i j : Nat) (ta : TA) : TS := fun D σ H => ta σ H fun vs H1 => ∃ v w, vs = [v, w] ∧ D.nx ((σ.set i (some v)).set j (some w)) H1
theorem ps_par {i j : Nat} {x y : Str} {a b : Expr} {ta : TA} {px py pt : Pos} {kt k2 pt2} (hc : X.calm = true) (hN : X.N.Nodup) (hi : X.N[i]? = some x) (hj : X.N[j]? = some y) (hij : i ≠ j)
    (hx : X.env.scope.names.lookup x = some .local) (hy : X.env.scope.names.lookup y = some .local) (ha : PA X [a, b] ta)
    (hw : swappedStores [.Tuple [.Name x px, .Name y py] kt pt] (.Tuple [a, b] k2 pt2) X.env = pure (some [x, y]))
    (hs : swapsWithSole [.Tuple [.Name x px, .Name y py] kt pt] (.Tuple [a, b] k2 pt2) pos.line X.env = pure false := by rfl) :
    PS X (.Assign [.Tuple [.Name x px, .Name y py] kt pt] (.Tuple [a, b] k2 pt2) pos) (tPar i j ta) := by
  intro pins s σ H D I h
  rw [exec_Assign_arm]
  refine wpAny_bind (wpAny_standAt ?_)
  rw [hs]
  refine wpAny_bind (wpAny_pure ?_)
  rw [if_neg (by decide)]
  refine wpAny_bind (Tuple_ (thn (ha _ pins s σ H _ I h) fun us s1 ⟨vs, H1, I1, r1, q1⟩ => ?_))
  obtain ⟨v, w, e1, q1⟩ := q1
  subst e1
  obtain ⟨u1, u2, rfl, rv, rw'⟩ : ∃ u1 u2, us = [u1, u2] ∧ RelV v u1 ∧ RelV w u2 := by
    cases r1 with
    | cons p q =>
      cases q with
      | cons p' q' =>
        cases q'
        exact ⟨_, _, rfl, p, p'⟩
  refine wpAny_newObj_type ?_ (by show 2 ≤ sizeLine; decide)
  have I2 : Inv X pins σ H1 { s1 with heap := s1.heap.push { cls := .type "tuple", data := .seq [u1, u2].toArray } } := I1.kept (t' := s1.toks) fun b o e => Heap.get?_push_of_some _ e
  rw [hw]
  refine wpAny_bind (wpAny_pure ?_)
  show wpAny (model X.prog X.w) X.A (do rule "assign.swapped-stores"; let items ← unpackItems (.ref s1.heap.objs.size) 2 none; assignInOrder [fun v => bindName X.env y v, fun v => bindName X.env x v] items.reverse; pure Flow.next) _ _ _
  refine wpAny_bind (wpAny_rule (wpAny_bind (unpackItems_tuple (items := #[u1, u2]) (I.ok.hd hc) (IsTup.new s1.heap _) fun h' hx' => ?_)))
  have I3 := I2.kept (h' := h') (t' := s1.toks) fun b o e => hx' b o (Nat.ne_of_lt (Heap.lt_size e)) e
  show wpAny _ _ (assignInOrder [fun v => bindName X.env y v, fun v => bindName X.env x v] [u2, u1] >>= fun _ => pure Flow.next) _ _ _
  refine wpAny_bind (assignInOrder_cons (wpAny_bindName (store_ok I3 hN hj (.inl hy) rw' (fun s2 I4 => ?_) (.inr hy))))
  refine assignInOrder_cons (wpAny_bindName (store_ok I4 hN hi (.inl hx) rv (fun s3 I5 => assignInOrder_nil (wpAny_pure ?_)) (.inr hx)))
  rw [List.set_comm _ _ (Ne.symm hij)] at I5
  exact ⟨_, H1, I5, q1⟩
/-- name op= e -/
def tAug (i : Nat) (te : TE) (ti : TIp) : TS := fun D σ H => ∃ x, σ[i]? = some (some x) ∧ te σ H fun y H1 => ti x y H1 fun z H2 => D.nx (σ.set i (some z)) H2
theorem ps_aug {i : Nat} {x : Str} {e : Expr} {te : TE} {op : Operator} {ti : TIp} {pos' : Pos} (hN : X.N.Nodup) (hi : X.N[i]? = some x) (hx : Loc X.env.scope x) (he : PE X e te) (ho : PIp X op ti) (hf : X.fn x = true ∨ X.env.scope.names.lookup x = some .local := by first | exact .inl rfl | exact .inr rfl | assumption) :
    PS X (.AugAssign (.Name x pos') op e pos) (tAug i te ti) := by
  intro pins s σ H D I h
  obtain ⟨v, e1, h⟩ := h
  obtain ⟨m, hn, hl⟩ := I.loc
  have vis : Vis X.env.scope x := by rcases hx with k | k; exact .inl k; exact .inr (.inl k)
  obtain ⟨u, r, l⟩ := hl i x v hi e1 vis
  refine wpAny_AugAssign_Name ?_
  have go : wpAny (model X.prog X.w) X.A (eval e X.env) (fun w s₂ => wpAny (model X.prog X.w) X.A (inplaceOp op u w) (fun r s₃ => wpAny (model X.prog X.w) X.A (storeName X.env x r) (fun _ => SP X pins D .next) X.xe s₃) X.xe s₂) X.xe s := by
    refine thn (he pins s σ H _ I h) fun w s1 ⟨y, H1, I1, r1, q1⟩ => ?_
    refine thn (ho pins s1 σ H1 v y u w _ I1 r r1 q1) fun z s2 ⟨zv, H2, I2, r2, q2⟩ => ?_
    exact store_ok I2 hN hi hx r2 (fun s3 I3 => ⟨_, H2, I3, q2⟩) hf
  rcases l with ⟨hk, hm⟩ | ⟨hk, c, hc, hcell⟩
  · exact wpAny_loadName_local I.ok.kind hk hn hm go
  · rcases hk with hk | hk
    · exact wpAny_loadName_cell I.ok.kind hk hc hcell go
    · rcases hx with k | k
      · have : X.env.scope.names.lookup x = some .free := hk
        rw [k] at this; cases this
      · have : X.env.scope.names.lookup x = some .free := hk
        rw [k] at this; cases this
/-- o[i] op= e -/
def tAugS (to ti te : TE) (tget : V → V → Hp → VK → Prop) (tip : TIp) (tset : TSet) : TS := fun D σ H => to σ H fun o H1 => ti σ H1 fun i H2 => tget o i H2 fun x H3 => te σ H3 fun y H4 => tip x y H4 fun z H5 => tset o i z H5 fun H6 => D.nx σ H6
/-- o[i], by values -/
def PGet (X : Cx) (t : V → V → Hp → VK → Prop) : Prop :=
  ∀ (pins : List (Addr × Obj)) (s : Shared) (σ : St) (H : Hp) (o i : V) (ov iv : Value) (Q : VK), Inv X pins σ H s → RelV o ov → RelV i iv → t o i H Q →
    wpAny (model X.prog X.w) X.A (getItem ov iv) (EP X pins σ Q) X.xe s
theorem ps_augS {o i e : Expr} {to ti te : TE} {tget : V → V → Hp → VK → Prop} {tip : TIp} {tset : TSet} {op : Operator} {tpos : Pos} (ho : PE X o to) (hi : PE X i ti) (hg : PGet X tget) (he : PE X e te) (hp : PIp X op tip) (hs : PSet X tset)
    (ha : ∀ ov iv new, augStore i ov iv new = (do holding [new, ov, iv] (setItem ov iv new); release [new, ov, iv] []; pure .next) := by intros; rfl) : PS X (.AugAssign (.Subscript o i tpos) op e pos) (tAugS to ti te tget tip tset) := by
  intro pins s σ H D I h
  refine wpAny_AugAssign_SubscriptAny (thn (ho pins s σ H _ I h) fun ov s1 ⟨x1, H1, I1, r1, q1⟩ => ?_) ha
  refine thn (hi pins s1 σ H1 _ I1 q1) fun iv s2 ⟨x2, H2, I2, r2, q2⟩ => ?_
  refine thn (hg pins s2 σ H2 x1 x2 ov iv _ I2 r1 r2 q2) fun old s3 ⟨x3, H3, I3, r3, q3⟩ => ?_
  refine thn (he pins s3 σ H3 _ I3 q3) fun v s4 ⟨x4, H4, I4, r4, q4⟩ => ?_
  refine thn (hp pins s4 σ H4 x3 x4 old v _ I4 r3 r4 q4) fun new s5 ⟨x5, H5, I5, r5, q5⟩ => ?_
  exact thn (hs pins s5 σ H5 x1 x2 x5 ov iv new _ I5 r1 r2 r5 q5) fun _ s6 ⟨H6, I6, q6⟩ => ⟨σ, H6, I6, q6⟩
/-- ints -/
def ipI (f : Int → Int → Int) : TIp := fun x y H Q => ∃ i j, x = .int i ∧ y = .int j ∧ Q (.int (f i j)) H
theorem ip_add : PIp X .Add (ipI fun i j => i + j) := by
  intro pins s σ H x y v u Q I r1 r2 h
  obtain ⟨i, j, e1, e2, q⟩ := h
  subst e1; subst e2
  obtain ⟨t, rfl⟩ := r1
  obtain ⟨t', rfl⟩ := r2
  exact iadd_int ⟨.int _, H, I.tok _, ⟨_, rfl⟩, q⟩
theorem ip_sub : PIp X .Sub (ipI fun i j => i - j) := by
  intro pins s σ H x y v u Q I r1 r2 h
  obtain ⟨i, j, e1, e2, q⟩ := h
  subst e1; subst e2
  obtain ⟨t, rfl⟩ := r1
  obtain ⟨t', rfl⟩ := r2
  exact isub_int ⟨.int _, H, I.tok _, ⟨_, rfl⟩, q⟩
end

/-! ### while -/
section
variable {X : Cx} {pos : Pos}
/-- the invariant W with its measure -/
def tWhile (c : TT) (tb : TS) : TS := fun D σ H => ∃ W : Nat → St → Hp → Prop, (∃ m, W m σ H) ∧ ∀ m σ H, W m σ H →
  c σ H fun b H1 => if b = true then ∃ N : St → Hp → Prop, (∀ σ' H', N σ' H' → ∃ m', m' < m ∧ W m' σ' H') ∧ tb { D with nx := N, ct := N, bk := D.nx } σ H1 else D.nx σ H1
theorem ps_while {c : Expr} {body : List Stmt} {tc : TT} {tb : TS} (hp : PassesOwn (model X.prog X.w) X.A X.env X.xe) (hc : PT X c tc) (hb : PSs X body tb) : PS X (.While c body [] pos) (tWhile tc tb) := by
  intro pins s σ H D I h
  obtain ⟨W, ⟨m0, w0⟩, turn⟩ := h
  refine wpAny_While (codeAny_whileLoop (fun n s' => ∃ σ' H', Inv X pins σ' H' s' ∧ W n σ' H') ?_ m0 ⟨σ, H, I, w0⟩)
  rintro n s1 ⟨σ1, H1, I1, w1⟩
  refine wpAny_passesOwn hp (thn (hc pins s1 σ1 H1 _ I1 (turn n σ1 H1 w1)) fun b s2 ⟨H2, I2, q2⟩ => ?_)
  cases b with
  | true =>
    obtain ⟨N, hN, q2⟩ := q2
    rw [if_pos rfl]
    refine wpAny_passesOwn hp (thn (hb pins s2 σ1 H2 _ I2 q2) fun f s3 q3 => ?_)
    cases f with
    | next =>
      obtain ⟨σ3, H3, I3, n3⟩ := q3
      obtain ⟨m', hm, w3⟩ := hN σ3 H3 n3
      exact ⟨m', hm, σ3, H3, I3, w3⟩
    | cont =>
      obtain ⟨σ3, H3, I3, n3⟩ := q3
      obtain ⟨m', hm, w3⟩ := hN σ3 H3 n3
      exact ⟨m', hm, σ3, H3, I3, w3⟩
    | brk => exact q3
    | ret v => exact q3
  | false =>
    rw [if_neg Bool.false_ne_true]
    exact wpAny_execs_nil ⟨σ1, H2, I2, q2⟩
end

/-! ### what a loop or a comprehension walks -/
/-- at turn i: it yields x (the heap may grow), or it stops -/
structure It where
  go : Nat → Hp → Prop
  yld : Nat → Hp → V → Hp → Prop
  stop : Nat → Hp → Prop
/-- the iterator's own objects may turn: they are not the frame's, not pinned, younger than the entry (or a comprehension's own) -/
def FpOk (X : Cx) (pins : List (Addr × Obj)) (H : Hp) (b : Addr) : Prop :=
  H b = none ∧ b ≠ X.env.locals ∧ b ∉ X.fs ∧ (b ∈ X.ex ∨ X.s₀.heap.objs.size ≤ b) ∧ (∀ x c, X.env.cells.lookup x = some c → c ≠ b) ∧ ∀ p ∈ X.pn ++ pins, p.1 ≠ b
theorem Inv.fpOk {X : Cx} {pins : List (Addr × Obj)} {σ : St} {H H' : Hp} {s : Shared} {b : Addr} (I : Inv X pins σ H s) (hb : s.heap.objs.size ≤ b) (hn : H' b = none) : FpOk X pins H' b := by
  refine ⟨hn, Nat.ne_of_gt (Nat.lt_of_lt_of_le I.lt hb), I.nofs hb, .inr (Nat.le_trans I.sz hb), fun x c e z => ?_, fun p hp z => ?_⟩
  · obtain ⟨v, q⟩ := I.cell x c e
    exact absurd (Nat.lt_of_lt_of_le q.lt (by rw [z]; exact hb)) (Nat.lt_irrefl _)
  · exact absurd (Nat.lt_of_lt_of_le (Heap.lt_size (I.pin p hp).1) (by rw [z]; exact hb)) (Nat.lt_irrefl _)
structure Turn (P : Program) (w : World) (K : PySem.W.Frag) (tg : Expr) (J : It) (fp : List Addr) (it : Addr) (tn : Nat → Heap → Prop) : Prop where
  mem : it ∈ fp
  obj : ∀ i h, tn i h → ∀ b ∈ fp, ∃ o, h.get? b = some o ∧ ∀ v, o.data ≠ .cell v
  keep : ∀ i h h', tn i h → (∀ b ∈ fp, ∀ o, h.get? b = some o → h'.get? b = some o) → tn i h'
  item : ∀ (X : Cx), X.prog = P → X.w = w → X.K = K → X.calm = true → ∀ (i : Nat) (pins : List (Addr × Obj)) (s : Shared) (σ : St) (H : Hp) (E : Value → Shared → Prop), Inv X pins σ H s → (∀ b ∈ fp, FpOk X pins H b) → tn i s.heap → J.go i H →
    wpAny (model P w) X.A (pyNext (.ref it)) (fun r s1 => ∃ u, r = some u ∧
      wpAny (model P w) X.A (letOwnedTupleGo tg (.ref it) u) (fun _ s2 => ∃ x H', Inv X pins σ H' s2 ∧ RelV x u ∧ J.yld i H x H' ∧ tn (i + 1) s2.heap ∧ ∀ b ∈ fp, H' b = none) E s1) E s
  done : ∀ (X : Cx), X.prog = P → X.w = w → X.K = K → X.calm = true → ∀ (i : Nat) (pins : List (Addr × Obj)) (s : Shared) (σ : St) (H : Hp) (E : Value → Shared → Prop), Inv X pins σ H s → (∀ b ∈ fp, FpOk X pins H b) → tn i s.heap → J.stop i H →
    wpAny (model P w) X.A (pyNext (.ref it)) (fun r s1 => r = none ∧ Inv X pins σ H s1) E s
  self : ∀ (A : Around) (i : Nat) (s : Shared) (Q : Value → Shared → Prop) (E : Value → Shared → Prop), tn i s.heap → Q (.ref it) s → wpAny (model P w) A (pyIter (.ref it)) Q E s
abbrev TI := St → Hp → (It → Hp → Prop) → Prop
/-- an iterator has come -/
def PIE (X : Cx) (pins : List (Addr × Obj)) (σ : St) (tg : Expr) (R : It → Hp → Prop) (itv : Value) (s2 : Shared) : Prop :=
  ∃ (it : Addr) (fp : List Addr) (tn : Nat → Heap → Prop) (J : It) (H' : Hp), itv = .ref it ∧ Inv X pins σ H' s2 ∧ Turn X.prog X.w X.K tg J fp it tn ∧ tn 0 s2.heap ∧ (∀ b ∈ fp, FpOk X pins H' b) ∧ R J H'
def PI (X : Cx) (tg iter : Expr) (wi : TI) : Prop :=
  ∀ (pins : List (Addr × Obj)) (s : Shared) (σ : St) (H : Hp) (R : It → Hp → Prop), Inv X pins σ H s → wi σ H R →
    wpAny (model X.prog X.w) X.A (eval iter X.env) (fun v s1 => wpAny (model X.prog X.w) X.A (pyIter v) (PIE X pins σ tg R) X.xe s1) X.xe s

/-- the step ahead of the store is nothing for an iterator that keeps no tuple -/
theorem go_of {M : Model} {A : Around} {E : Value → Shared → Prop} {s : Shared} {tg : Expr} {it : Addr} {u : Value} {o : Obj} {n : String} {vs : Array Value} {Q : Unit → Shared → Prop} (ho : s.heap.get? it = some o) (hc : o.cls = .type n) (hd : o.data = .fields vs)
    (hn : ["enumerate", "zip", "dict_itemiterator", "dict_reverseitemiterator", "odict_iterator", "itertools.zip_longest", "itertools.pairwise"].contains n = false) (hQ : Q () s) : wpAny M A (letOwnedTupleGo tg (.ref it) u) Q E s := by
  unfold letOwnedTupleGo
  cases tg <;> first
    | exact wpAny_pure hQ
    | (cases u <;> first
        | exact wpAny_pure hQ
        | (refine wpAny_bind (wpAny_load ho ?_)
           rw [hc, hd]
           show wpAny M A (if (["enumerate", "zip", "dict_itemiterator", "dict_reverseitemiterator", "odict_iterator", "itertools.zip_longest", "itertools.pairwise"].contains n && vs[0]? == some (rawInt _)) = true then _ else _) Q E s
           rw [if_neg (by intro h; rw [hn, Bool.false_and] at h; cases h)]
           exact wpAny_pure hQ))

/-- the list at a, as it stands at each turn (a loop may append to it) -/
def Itl (K : PySem.W.Frag) (a : Addr) : It :=
  ⟨fun i H => ∃ xs x, SqL K H a xs ∧ xs[i]? = some x, fun i H x H' => H' = H ∧ ∀ xs, SqL K H a xs → xs[i]? = some x, fun i H => ∃ xs, SqL K H a xs ∧ xs.length ≤ i⟩
def Itt (K : PySem.W.Frag) (a : Addr) : It :=
  ⟨fun i H => ∃ xs x, SqT K H a xs ∧ xs[i]? = some x, fun i H x H' => H' = H ∧ ∀ xs, SqT K H a xs → xs[i]? = some x, fun i H => ∃ xs, SqT K H a xs ∧ xs.length ≤ i⟩
/-- lo, lo + 1, .. (n of them) -/
def Itr (lo : Int) (n : Nat) : It := ⟨fun i _ => i < n, fun i H x H' => H' = H ∧ x = .int (lo + i), fun i _ => n ≤ i⟩
theorem turn_list {P : Program} {w : World} {K : PySem.W.Frag} {tg : Expr} (a it : Addr) : Turn P w K tg (Itl K a) [it] it (fun i h => h.IsListIter it a i) where
  mem := by simp
  obj := fun i h st b hb => by
    have e : b = it := by simpa using hb
    subst e
    obtain ⟨o, e, c, d⟩ := st
    exact ⟨o, e, fun v z => by rw [d] at z; cases z⟩
  keep := fun i h h' st k => st.at fun o e => k it (by simp) o e
  item := by
    intro X hP hw hK hc i pins s σ H E I hf st hg
    subst hP hw hK
    obtain ⟨xs, x, hq, hx⟩ := hg
    obtain ⟨its, rv, p, hz⟩ := I.list hq
    obtain ⟨u, hu, ru⟩ := rv.get hx
    obtain ⟨f0, f1, f2, f3, f4, f5⟩ := hf it (by simp)
    refine wpAny_pyNext_list_item st p.isList (x := u) (by simpa using hu) fun h' st' sb => ?_
    have I1 : Inv X pins σ H { s with heap := h' } := I.turned (t' := s.toks) (fun b o hb e => (sb.2 b hb).trans e) f0 f1 f3 f4 f5
    obtain ⟨o, e, c, d⟩ := id st'
    exact ⟨u, rfl, go_of (s := { s with heap := h' }) e c d (by decide) ⟨x, H, I1, ru, ⟨rfl, fun ys hy => by rw [I.list_inj hy hq]; exact hx⟩, st', fun b hb => (hf b hb).1⟩⟩
  done := by
    intro X hP hw hK hc i pins s σ H E I hf st hg
    subst hP hw hK
    obtain ⟨xs, hq, hx⟩ := hg
    obtain ⟨its, rv, p, hz⟩ := I.list hq
    obtain ⟨f0, f1, f2, f3, f4, f5⟩ := hf it (by simp)
    have hl := rv.length
    exact wpAny_pyNext_list_end (I.ok.hd hc) st p.isList (by simp; omega) fun h' eb => ⟨rfl, I.turned (t' := s.toks) (fun b o hb e => eb b o hb e) f0 f1 f3 f4 f5⟩
  self := fun _ _ _ _ _ st h => wpAny_pyIter_listiter st h
theorem turn_tuple {P : Program} {w : World} {K : PySem.W.Frag} {tg : Expr} (a it : Addr) : Turn P w K tg (Itt K a) [it] it (fun i h => h.IsTupleIter it a i) where
  mem := by simp
  obj := fun i h st b hb => by
    have e : b = it := by simpa using hb
    subst e
    obtain ⟨o, e, c, d⟩ := st
    exact ⟨o, e, fun v z => by rw [d] at z; cases z⟩
  keep := fun i h h' st k => st.at fun o e => k it (by simp) o e
  item := by
    intro X hP hw hK hc i pins s σ H E I hf st hg
    subst hP hw hK
    obtain ⟨xs, x, hq, hx⟩ := hg
    obtain ⟨its, rv, p, hz⟩ := I.tuple hq
    obtain ⟨u, hu, ru⟩ := rv.get hx
    obtain ⟨f0, f1, f2, f3, f4, f5⟩ := hf it (by simp)
    refine wpAny_pyNext_tuple_item st (show s.heap.IsTuple a its.toArray from p) (x := u) (by simpa using hu) fun h' st' sb => ?_
    have I1 : Inv X pins σ H { s with heap := h' } := I.turned (t' := s.toks) (fun b o hb e => (sb.2 b hb).trans e) f0 f1 f3 f4 f5
    obtain ⟨o, e, c, d⟩ := id st'
    exact ⟨u, rfl, go_of (s := { s with heap := h' }) e c d (by decide) ⟨x, H, I1, ru, ⟨rfl, fun ys hy => by rw [I.tuple_inj hy hq]; exact hx⟩, st', fun b hb => (hf b hb).1⟩⟩
  done := by
    intro X hP hw hK hc i pins s σ H E I hf st hg
    subst hP hw hK
    obtain ⟨xs, hq, hx⟩ := hg
    obtain ⟨its, rv, p, hz⟩ := I.tuple hq
    obtain ⟨f0, f1, f2, f3, f4, f5⟩ := hf it (by simp)
    have hl := rv.length
    exact wpAny_pyNext_tuple_end (I.ok.hd hc) st (show s.heap.IsTuple a its.toArray from p) (by simp; omega) fun h' eb => ⟨rfl, I.turned (t' := s.toks) (fun b o hb e => eb b o hb e) f0 f1 f3 f4 f5⟩
  self := fun _ _ _ _ _ st h => wpAny_pyIter_tupleiter st h
theorem turn_range {P : Program} {w : World} {K : PySem.W.Frag} {tg : Expr} (it : Addr) (lo : Int) (n : Nat) : Turn P w K tg (Itr lo n) [it] it (fun i h => IsRangeIter h it (lo + (i : Nat) * 1) ((n : Int) - (i : Nat)) 1) where
  mem := by simp
  obj := fun i h st b hb => by
    have e : b = it := by simpa using hb
    subst e
    exact ⟨_, st, fun v z => by
      have z' : Data.fields _ = Data.cell v := z
      cases z'⟩
  keep := fun i h h' st k => k it (by simp) _ st
  item := by
    intro X hP hw hK hc i pins s σ H E I hf st hg
    subst hP hw hK
    obtain ⟨f0, f1, f2, f3, f4, f5⟩ := hf it (by simp)
    have W := Walks.range (prog := X.prog) (w := X.w) (I.ok.hd hc) it lo 1 n
    refine W.item i s _ _ hg st fun v h' tk hv st' kk => ?_
    obtain ⟨t, rfl⟩ := hv
    have I1 : Inv X pins σ H { s with heap := h', toks := tk } := I.turned (fun b o hb e => kk b o (by simpa using hb) e) f0 f1 f3 f4 f5
    refine ⟨_, rfl, go_of (s := { s with heap := h', toks := tk }) (n := "range_iterator") st' rfl rfl (by decide) ⟨.int (lo + i), H, I1, ⟨t, ?_⟩, ⟨rfl, rfl⟩, st', fun b hb => (hf b hb).1⟩⟩
    rw [Int.mul_one]
  done := by
    intro X hP hw hK hc i pins s σ H E I hf st hg
    subst hP hw hK
    obtain ⟨f0, f1, f2, f3, f4, f5⟩ := hf it (by simp)
    exact wpAny_pyNext_range_end (I.ok.hd hc) st (by have : n ≤ i := hg; omega) fun h' eb => ⟨rfl, I.turned (t' := s.toks) (fun b o hb e => eb b o hb e) f0 f1 f3 f4 f5⟩
  self := fun _ _ _ _ _ st h => wpAny_pyIter_rangeiter st h
end L2

namespace L2
open PySem PySem.Spec PyProof.Rows
section
variable {X : Cx} {tg : Expr}
def iList (K : PySem.W.Frag) (tl : TE) : TI := fun σ H R => tl σ H fun x H1 => ∃ a, x = .ref a ∧ (∃ xs, SqL K H1 a xs) ∧ R (Itl K a) H1
def iTup (K : PySem.W.Frag) (tl : TE) : TI := fun σ H R => tl σ H fun x H1 => ∃ a, x = .ref a ∧ (∃ xs, SqT K H1 a xs) ∧ R (Itt K a) H1
theorem pi_list {l : Expr} {tl : TE} (hl : PE X l tl) : PI X tg l (iList X.K tl) := by
  intro pins s σ H R I h
  refine thn (hl pins s σ H _ I h) fun v s1 ⟨x, H1, I1, r1, q1⟩ => ?_
  obtain ⟨a, e, ⟨xs, hq⟩, q⟩ := q1
  subst e
  cases r1
  obtain ⟨its, rv, p, hz⟩ := I1.list hq
  refine wpAny_pyIter_list p.isList ?_
  refine ⟨s1.heap.objs.size, [s1.heap.objs.size], _, _, H1, rfl, I1.kept (t' := s1.toks) fun b o e => Heap.get?_push_of_some _ e, turn_list a _, ⟨_, Heap.get?_push_size _ rfl, rfl, rfl⟩, fun b hb => ?_, q⟩
  have e : b = s1.heap.objs.size := by simpa using hb
  subst e
  exact I1.fpOk (Nat.le_refl _) (I1.hok.fresh (Nat.le_refl _))
theorem pi_tup {l : Expr} {tl : TE} (hl : PE X l tl) : PI X tg l (iTup X.K tl) := by
  intro pins s σ H R I h
  refine thn (hl pins s σ H _ I h) fun v s1 ⟨x, H1, I1, r1, q1⟩ => ?_
  obtain ⟨a, e, ⟨xs, hq⟩, q⟩ := q1
  subst e
  cases r1
  obtain ⟨its, rv, p, hz⟩ := I1.tuple hq
  refine wpAny_pyIter_tuple (show s1.heap.IsTuple a its.toArray from p) ?_
  refine ⟨s1.heap.objs.size, [s1.heap.objs.size], _, _, H1, rfl, I1.kept (t' := s1.toks) fun b o e => Heap.get?_push_of_some _ e, turn_tuple a _, ⟨_, Heap.get?_push_size _ rfl, rfl, rfl⟩, fun b hb => ?_, q⟩
  have e : b = s1.heap.objs.size := by simpa using hb
  subst e
  exact I1.fpOk (Nat.le_refl _) (I1.hok.fresh (Nat.le_refl _))
/-- a range object just made, walked -/
theorem range_it {pins : List (Addr × Obj)} {σ : St} {H : Hp} {s : Shared} {R : It → Hp → Prop} {E : Value → Shared → Prop} {lo hi : Int} {t u v : Tok} {tk : Nat} (I : Inv X pins σ H s) (h1 : -(2 ^ 62) ≤ lo) (h2 : lo < 2 ^ 62) (h3 : -(2 ^ 62) ≤ hi) (h4 : hi < 2 ^ 62)
    (q : R (Itr lo (hi - lo).toNat) H) : wpAny (model X.prog X.w) X.A (pyIter (.ref s.heap.objs.size)) (PIE X pins σ tg R) E { s with heap := s.heap.push { cls := .type "range", data := .fields #[.int lo t, .int hi u, .int 1 v] }, toks := tk } := by
  refine wpAny_pyIter_range (IsRange.new ..) (small_one h1 h2 h3 h4) ?_
  have I1 : Inv X pins σ H { s with heap := s.heap.push { cls := .type "range", data := .fields #[.int lo t, .int hi u, .int 1 v] }, toks := tk } := I.kept fun b o e => Heap.get?_push_of_some _ e
  refine ⟨(s.heap.push { cls := .type "range", data := .fields #[.int lo t, .int hi u, .int 1 v] }).objs.size, [(s.heap.push { cls := .type "range", data := .fields #[.int lo t, .int hi u, .int 1 v] }).objs.size], _, _, H, rfl,
    I1.kept (t' := tk) fun b o e => Heap.get?_push_of_some _ e, turn_range _ lo (hi - lo).toNat, ?_, fun b hb => ?_, q⟩
  · have e1 : lo + ((0 : Nat) : Int) * 1 = lo := by simp
    have e2 : (((hi - lo).toNat : Nat) : Int) - ((0 : Nat) : Int) = Builtin.Range.rangeSize lo hi 1 := by rw [rangeSize_one]; split <;> omega
    show IsRangeIter _ _ (lo + ((0 : Nat) : Int) * 1) ((((hi - lo).toNat : Nat) : Int) - ((0 : Nat) : Int)) 1
    rw [e1, e2]
    exact Heap.get?_push_size _ rfl
  · have e : b = (s.heap.push { cls := .type "range", data := .fields #[.int lo t, .int hi u, .int 1 v] }).objs.size := by simpa using hb
    subst e
    exact I1.fpOk (Nat.le_refl _) (I1.hok.fresh (Nat.le_refl _))
def iRng1 (ta : TA) : TI := fun σ H R => ta σ H fun vs H1 => ∃ j : Int, vs = [.int j] ∧ -(2 ^ 62) ≤ j ∧ j < 2 ^ 62 ∧ R (Itr 0 j.toNat) H1
def iRng2 (ta : TA) : TI := fun σ H R => ta σ H fun vs H1 => ∃ i j : Int, vs = [.int i, .int j] ∧ (-(2 ^ 62) ≤ i ∧ i < 2 ^ 62 ∧ -(2 ^ 62) ≤ j ∧ j < 2 ^ 62) ∧ R (Itr i (j - i).toNat) H1
theorem pi_range1 {a : Expr} {ta : TA} {p pos : Pos} (hg : Gl X "range") (hm : X.mg "range" = none) (ha : PA X [a] ta) (hs : starEach [a] X.env = [(false, eval a X.env)] := by rfl) : PI X tg (.Call (.Name "range" p) [a] [] pos) (iRng1 ta) := by
  intro pins s σ H R I h
  refine Call_ (ld_blt I hg hm boot_range (PyProof.Rows.callWith_type1 (thn (ha pos pins s σ H _ I h) fun us s1 ⟨vs, H1, I1, r1, q1⟩ => ?_) hs rfl))
  obtain ⟨j, e, q1, q2, q⟩ := q1
  subst e
  cases r1 with
  | cons r rr =>
    cases rr
    obtain ⟨t, rfl⟩ := r
    exact call_range_1 (range_it I1 (by omega) (by omega) q1 q2 (by simpa using q))
theorem pi_range2 {a b : Expr} {ta : TA} {p pos : Pos} (hg : Gl X "range") (hm : X.mg "range" = none) (ha : PA X [a, b] ta) (hs : starEach [a, b] X.env = [(false, eval a X.env), (false, eval b X.env)] := by rfl) (hs2 : starEach [b] X.env = [(false, eval b X.env)] := by rfl) :
    PI X tg (.Call (.Name "range" p) [a, b] [] pos) (iRng2 ta) := by
  intro pins s σ H R I h
  refine Call_ (ld_blt I hg hm boot_range (PyProof.Rows.callWith_type1 (thn (ha pos pins s σ H _ I h) fun us s1 ⟨vs, H1, I1, r1, q1⟩ => ?_) (by rw [hs, hs2]) (by rw [hs2]; rfl)))
  obtain ⟨i, j, e, ⟨q1, q2, q3, q4⟩, q⟩ := q1
  subst e
  cases r1 with
  | cons r rr =>
    cases rr with
    | cons r' rr =>
      cases rr
      obtain ⟨t, rfl⟩ := r
      obtain ⟨t', rfl⟩ := r'
      exact call_range_2 (range_it I1 q1 q2 q3 q4 q)

/-! ### for -/
/-- W: the invariant by the turn and a measure; N: what the body is to reach -/
def tFor (wi : TI) (g : TG) (tb : TS) : TS := fun D σ H => wi σ H fun J H1 => ∃ W : Nat → Nat → St → Hp → Prop, (∃ m, W 0 m σ H1) ∧ ∀ i m σ H, W i m σ H →
  (J.stop i H ∧ D.nx σ H) ∨ (J.go i H ∧ ∃ N : St → Hp → Prop, (∀ σ' H', N σ' H' → ∃ m', m' < m ∧ W (i + 1) m' σ' H') ∧ ∀ x H', J.yld i H x H' → g x σ H' fun σ2 H2 => tb { D with nx := N, ct := N, bk := D.nx } σ2 H2)
/-- the records at fp as they stand -/
def pinsAt (fp : List Addr) (h : Heap) : List (Addr × Obj) := fp.filterMap fun b => (h.get? b).map fun o => (b, o)
theorem mem_pinsAt {fp : List Addr} {h : Heap} {b : Addr} {o : Obj} (hb : b ∈ fp) (e : h.get? b = some o) : (b, o) ∈ pinsAt fp h := List.mem_filterMap.mpr ⟨b, hb, by rw [e]; rfl⟩
theorem of_pinsAt {fp : List Addr} {h : Heap} {p : Addr × Obj} (hp : p ∈ pinsAt fp h) : p.1 ∈ fp ∧ h.get? p.1 = some p.2 := by
  obtain ⟨b, hb, e⟩ := List.mem_filterMap.mp hp
  cases q : h.get? b with
  | none => rw [q] at e; cases e
  | some o =>
    rw [q] at e
    have e' : (b, o) = p := Option.some.inj e
    subst e'
    exact ⟨hb, q⟩
theorem Inv.pinned {pins : List (Addr × Obj)} {σ : St} {H : Hp} {s : Shared} {fp : List Addr} (I : Inv X pins σ H s) (hf : ∀ b ∈ fp, FpOk X pins H b) (ho : ∀ b ∈ fp, ∃ o, s.heap.get? b = some o ∧ ∀ v, o.data ≠ .cell v) : Inv X (pins ++ pinsAt fp s.heap) σ H s :=
  I.pins_of fun p hp => (List.mem_append.mp hp).elim (fun z => I.pin p (List.mem_append_right _ z)) fun z => by
    obtain ⟨hb, e⟩ := of_pinsAt z
    obtain ⟨f0, f1, f2, _⟩ := hf p.1 hb
    obtain ⟨o, e', d⟩ := ho p.1 hb
    rw [e] at e'; cases e'
    exact ⟨e, f0, f1, f2, d⟩
theorem Inv.unpinned {pins pl : List (Addr × Obj)} {σ : St} {H : Hp} {s : Shared} (I : Inv X (pins ++ pl) σ H s) : Inv X pins σ H s := I.pins_of fun p hp => I.pin p (List.mem_append_right _ (List.mem_append_left _ hp))
theorem ps_for {iter : Expr} {body : List Stmt} {wi : TI} {g : TG} {tb : TS} {pos : Pos} (hp : PassesOwn (model X.prog X.w) X.A X.env X.xe) (hc : X.calm = true) (hi : PI X tg iter wi) (hg : PG X tg g) (hb : PSs X body tb)
    (hs : ∀ x, foldedSetIterable iter X.env x = pure x := by intro _; rfl) : PS X (.For tg iter body [] pos) (tFor wi g tb) := by
  intro pins s σ H D I h
  refine wpAny_For (thn (hi pins s σ H _ I h) fun v s1 h1 => thn h1 fun itv s2 h2 => ?_) hs
  obtain ⟨it, fp, tn, J, H2, e, I2, T, st2, f2, W, ⟨m0, w0⟩, turn⟩ := h2
  subst e
  -- what stays true of the iterator's objects through the loop
  have stat : ∀ {H' : Hp}, (∀ b ∈ fp, H' b = none) → ∀ b ∈ fp, FpOk X pins H' b := fun hn b hb => ⟨hn b hb, (f2 b hb).2⟩
  refine codeAny_forLoop_any (fun n s' => ∃ i σ' H', Inv X pins σ' H' s' ∧ tn i s'.heap ∧ (∀ b ∈ fp, H' b = none) ∧ W i n σ' H') ?_ m0 ⟨0, σ, H2, I2, st2, fun b hb => (f2 b hb).1, w0⟩
  rintro n s3 ⟨i, σ3, H3, I3, st3, fr3, w3⟩
  rcases turn i n σ3 H3 w3 with ⟨stop, qn⟩ | ⟨go, N, hN, step⟩
  · refine wpAny_passesOwn hp (thn (T.done X rfl rfl rfl hc i pins s3 σ3 H3 X.xe I3 (stat fr3) st3 stop) fun r s4 ⟨hr, I4⟩ => ?_)
    subst hr
    exact wpAny_execs_nil ⟨σ3, H3, I4, qn⟩
  · refine wpAny_passesOwn hp (thn (T.item X rfl rfl rfl hc i pins s3 σ3 H3 X.xe I3 (stat fr3) st3 go) fun r s4 ⟨u, hr, h4⟩ => ?_)
    subst hr
    refine wpAny_passesOwn hp (thn h4 fun _ s5 ⟨x, H5, I5, r5, y5, st5, fr5⟩ => ?_)
    have I5' := I5.pinned (stat fr5) (T.obj _ _ st5)
    refine wpAny_passesOwn hp (thn (hg _ s5 σ3 H5 x u _ I5' r5 (step x H5 y5)) fun _ s6 ⟨σ6, H6, I6, q6⟩ => ?_)
    refine wpAny_passesOwn hp (thn (hb _ s6 σ6 H6 _ I6 q6) fun f s7 q7 => ?_)
    have again : ∀ {σ7 : St} {H7 : Hp}, Inv X (pins ++ pinsAt fp s5.heap) σ7 H7 s7 → N σ7 H7 → ∃ m, m < n ∧ ∃ i σ' H', Inv X pins σ' H' s7 ∧ tn i s7.heap ∧ (∀ b ∈ fp, H' b = none) ∧ W i m σ' H' := fun {σ7 H7} I7 n7 => by
      obtain ⟨m', hm, w7⟩ := hN σ7 H7 n7
      refine ⟨m', hm, i + 1, σ7, H7, I7.unpinned, T.keep _ _ _ st5 fun b hb o e => (I7.pin (b, o) (List.mem_append_right _ (List.mem_append_right _ (mem_pinsAt hb e)))).1, fun b hb => ?_, w7⟩
      obtain ⟨o, e, d⟩ := T.obj _ _ st5 b hb
      exact (I7.pin (b, o) (List.mem_append_right _ (List.mem_append_right _ (mem_pinsAt hb e)))).2.1
    cases f with
    | next => obtain ⟨σ7, H7, I7, n7⟩ := q7; exact again I7 n7
    | cont => obtain ⟨σ7, H7, I7, n7⟩ := q7; exact again I7 n7
    | brk => obtain ⟨σ7, H7, I7, q7⟩ := q7; exact ⟨σ7, H7, I7.unpinned, q7⟩
    | ret v => obtain ⟨x7, σ7, H7, I7, r7, q7⟩ := q7; exact ⟨x7, σ7, H7, I7.unpinned, r7, q7⟩
end

/-! ### the forms one uses -/
/-- over a list that the body leaves as it is -/
theorem for_list {K : PySem.W.Frag} {a : Addr} {xs : List V} {g : TG} {tb : TS} {D : Ends} {σ : St} {H : Hp} (Pv : Nat → St → Hp → Prop) (h0 : Pv 0 σ H) (hl : ∀ i σ H, i ≤ xs.length → Pv i σ H → SqL K H a xs)
    (hs : ∀ i x σ H, xs[i]? = some x → Pv i σ H → g x σ H fun σ2 H2 => tb { D with nx := Pv (i + 1), ct := Pv (i + 1), bk := D.nx } σ2 H2) (hd : ∀ σ H, Pv xs.length σ H → D.nx σ H) :
    ∃ W : Nat → Nat → St → Hp → Prop, (∃ m, W 0 m σ H) ∧ ∀ i m σ H, W i m σ H →
      ((Itl K a).stop i H ∧ D.nx σ H) ∨ ((Itl K a).go i H ∧ ∃ N : St → Hp → Prop, (∀ σ' H', N σ' H' → ∃ m', m' < m ∧ W (i + 1) m' σ' H') ∧ ∀ x H', (Itl K a).yld i H x H' → g x σ H' fun σ2 H2 => tb { D with nx := N, ct := N, bk := D.nx } σ2 H2) := by
  refine ⟨fun i m σ H => m = xs.length - i ∧ i ≤ xs.length ∧ Pv i σ H, ⟨xs.length, by simp, Nat.zero_le _, h0⟩, ?_⟩
  rintro i m σ H ⟨rfl, hi, p⟩
  have q := hl i σ H hi p
  by_cases hlt : i < xs.length
  · refine .inr ⟨⟨xs, xs[i], q, by simp [hlt]⟩, Pv (i + 1), fun σ' H' p' => ⟨xs.length - (i + 1), by omega, rfl, hlt, p'⟩, fun x H' y => ?_⟩
    obtain ⟨e, y⟩ := y
    subst e
    exact hs i x σ _ (y xs q) p
  · have e : i = xs.length := by omega
    subst e
    exact .inl ⟨⟨xs, q, Nat.le_refl _⟩, hd σ H p⟩
theorem for_tup {K : PySem.W.Frag} {a : Addr} {xs : List V} {g : TG} {tb : TS} {D : Ends} {σ : St} {H : Hp} (Pv : Nat → St → Hp → Prop) (h0 : Pv 0 σ H) (hl : ∀ i σ H, i ≤ xs.length → Pv i σ H → SqT K H a xs)
    (hs : ∀ i x σ H, xs[i]? = some x → Pv i σ H → g x σ H fun σ2 H2 => tb { D with nx := Pv (i + 1), ct := Pv (i + 1), bk := D.nx } σ2 H2) (hd : ∀ σ H, Pv xs.length σ H → D.nx σ H) :
    ∃ W : Nat → Nat → St → Hp → Prop, (∃ m, W 0 m σ H) ∧ ∀ i m σ H, W i m σ H →
      ((Itt K a).stop i H ∧ D.nx σ H) ∨ ((Itt K a).go i H ∧ ∃ N : St → Hp → Prop, (∀ σ' H', N σ' H' → ∃ m', m' < m ∧ W (i + 1) m' σ' H') ∧ ∀ x H', (Itt K a).yld i H x H' → g x σ H' fun σ2 H2 => tb { D with nx := N, ct := N, bk := D.nx } σ2 H2) := by
  refine ⟨fun i m σ H => m = xs.length - i ∧ i ≤ xs.length ∧ Pv i σ H, ⟨xs.length, by simp, Nat.zero_le _, h0⟩, ?_⟩
  rintro i m σ H ⟨rfl, hi, p⟩
  have q := hl i σ H hi p
  by_cases hlt : i < xs.length
  · refine .inr ⟨⟨xs, xs[i], q, by simp [hlt]⟩, Pv (i + 1), fun σ' H' p' => ⟨xs.length - (i + 1), by omega, rfl, hlt, p'⟩, fun x H' y => ?_⟩
    obtain ⟨e, y⟩ := y
    subst e
    exact hs i x σ _ (y xs q) p
  · have e : i = xs.length := by omega
    subst e
    exact .inl ⟨⟨xs, q, Nat.le_refl _⟩, hd σ H p⟩
theorem for_range {lo : Int} {n : Nat} {g : TG} {tb : TS} {D : Ends} {σ : St} {H : Hp} (Pv : Nat → St → Hp → Prop) (h0 : Pv 0 σ H)
    (hs : ∀ i σ H, i < n → Pv i σ H → g (.int (lo + i)) σ H fun σ2 H2 => tb { D with nx := Pv (i + 1), ct := Pv (i + 1), bk := D.nx } σ2 H2) (hd : ∀ σ H, Pv n σ H → D.nx σ H) :
    ∃ W : Nat → Nat → St → Hp → Prop, (∃ m, W 0 m σ H) ∧ ∀ i m σ H, W i m σ H →
      ((Itr lo n).stop i H ∧ D.nx σ H) ∨ ((Itr lo n).go i H ∧ ∃ N : St → Hp → Prop, (∀ σ' H', N σ' H' → ∃ m', m' < m ∧ W (i + 1) m' σ' H') ∧ ∀ x H', (Itr lo n).yld i H x H' → g x σ H' fun σ2 H2 => tb { D with nx := N, ct := N, bk := D.nx } σ2 H2) := by
  refine ⟨fun i m σ H => m = n - i ∧ i ≤ n ∧ Pv i σ H, ⟨n, by simp, Nat.zero_le _, h0⟩, ?_⟩
  rintro i m σ H ⟨rfl, hi, p⟩
  by_cases hlt : i < n
  · refine .inr ⟨hlt, Pv (i + 1), fun σ' H' p' => ⟨n - (i + 1), by omega, rfl, hlt, p'⟩, fun x H' y => ?_⟩
    obtain ⟨e, y⟩ := y
    subst e y
    exact hs i σ _ hlt p
  · have e : i = n := by omega
    subst e
    exact .inl ⟨Nat.le_refl _, hd σ H p⟩
/-- while, by a word and a measure of the state -/
theorem while_by {c : TT} {tb : TS} {D : Ends} {σ : St} {H : Hp} (Pv : St → Hp → Prop) (μ : St → Hp → Nat) (h0 : Pv σ H)
    (hs : ∀ σ H, Pv σ H → c σ H fun b H1 => if b = true then tb { D with nx := fun σ' H' => Pv σ' H' ∧ μ σ' H' < μ σ H, ct := fun σ' H' => Pv σ' H' ∧ μ σ' H' < μ σ H, bk := D.nx } σ H1 else D.nx σ H1)
    (mono : ∀ σ H Q Q', (∀ b H1, Q b H1 → Q' b H1) → c σ H Q → c σ H Q') : tWhile c tb D σ H := by
  refine ⟨fun m σ H => m = μ σ H ∧ Pv σ H, ⟨_, rfl, h0⟩, ?_⟩
  rintro m σ H ⟨rfl, p⟩
  refine mono σ H _ _ (fun b H1 q => ?_) (hs σ H p)
  cases b with
  | true => exact ⟨_, fun σ' H' ⟨p', l⟩ => ⟨_, l, rfl, p'⟩, q⟩
  | false => exact q
end L2

namespace L2
open PySem PySem.Spec PyProof.Rows

abbrev R2 := V → V → Hp → VK → Prop
/-- a two-place operation on values: f is binaryOp op, inplaceOp op or compareOp op -/
def OpR (X : Cx) (f : Value → Value → Sem Value) (r : R2) : Prop :=
  ∀ (pins : List (Addr × Obj)) (s : Shared) (σ : St) (H : Hp) (x y : V) (v u : Value) (Q : VK), Inv X pins σ H s → RelV x v → RelV y u → r x y H Q →
    wpAny (model X.prog X.w) X.A (f v u) (EP X pins σ Q) X.xe s
/-- a one-place operation -/
def UnR (X : Cx) (f : Value → Sem Value) (r : V → Hp → VK → Prop) : Prop :=
  ∀ (pins : List (Addr × Obj)) (s : Shared) (σ : St) (H : Hp) (x : V) (v : Value) (Q : VK), Inv X pins σ H s → RelV x v → r x H Q →
    wpAny (model X.prog X.w) X.A (f v) (EP X pins σ Q) X.xe s
/-- a call of a value that is known (a builtin, a type) with values -/
def CallR (X : Cx) (f : Value) (r : List V → Hp → VK → Prop) : Prop :=
  ∀ (pins : List (Addr × Obj)) (s : Shared) (σ : St) (H : Hp) (xs : List V) (us : List Value) (Q : VK), Inv X pins σ H s → Vals xs us → r xs H Q →
    wpAny (model X.prog X.w) X.A (call f us) (EP X pins σ Q) X.xe s
/-- a value's truth -/
def TruR (X : Cx) (r : V → Hp → (Bool → Hp → Prop) → Prop) : Prop :=
  ∀ (pins : List (Addr × Obj)) (s : Shared) (σ : St) (H : Hp) (x : V) (v : Value) (Q : Bool → Hp → Prop), Inv X pins σ H s → RelV x v → r x H Q →
    wpAny (model X.prog X.w) X.A (truthy v) (TP X pins σ Q) X.xe s

def tOp (r : R2) (ta tb : TE) : TE := fun σ H Q => ta σ H fun x H1 => tb σ H1 fun y H2 => r x y H2 Q
def tUn (r : V → Hp → VK → Prop) (ta : TE) : TE := fun σ H Q => ta σ H fun x H1 => r x H1 Q
/-- ints in, under C, and a value out -/
def rI (C : Int → Int → Prop) (g : Int → Int → V) : R2 := fun x y H Q => ∃ i j, x = .int i ∧ y = .int j ∧ C i j ∧ Q (g i j) H
def rI0 (g : Int → Int → V) : R2 := fun x y H Q => ∃ i j, x = .int i ∧ y = .int j ∧ Q (g i j) H
def rU (g : Int → V) : V → Hp → VK → Prop := fun x H Q => ∃ i, x = .int i ∧ Q (g i) H

section
variable {X : Cx} {a b c : Expr} {ta tb tc : TE} {pos : Pos}

theorem binT (ha : PE X a ta) (hb : PE X b tb) {pins : List (Addr × Obj)} {s : Shared} {σ : St} {H : Hp} {R : V → V → Hp → Prop} (I : Inv X pins σ H s)
    (h : ta σ H fun x H1 => tb σ H1 fun y H2 => R x y H2) {Q : Value → Shared → Prop} {f : Value → Value → Sem Value}
    (hf : ∀ v u s2 x y H2, Inv X pins σ H2 s2 → RelV x v → RelV y u → R x y H2 → wpAny (model X.prog X.w) X.A (f v u) Q X.xe s2) :
    wpAny (model X.prog X.w) X.A (eval a X.env) (fun v s₁ => wpAny (model X.prog X.w) X.A (eval b X.env) (fun u s₂ => wpAny (model X.prog X.w) X.A (f v u) Q X.xe s₂) X.xe s₁) X.xe s := by
  refine thn (ha pins s σ H _ I h) fun v s1 ⟨x, H1, I1, r1, q1⟩ => ?_
  refine thn (hb pins s1 σ H1 _ I1 q1) fun u s2 ⟨y, H2, I2, r2, q2⟩ => ?_
  exact hf v u s2 x y H2 I2 r1 r2 q2

theorem pe_op {op : Operator} {r : R2} (ho : OpR X (binaryOp op) r) (ha : PE X a ta) (hb : PE X b tb) : PE X (.BinOp a op b pos) (tOp r ta tb) := by
  intro pins s σ H Q I h
  exact wpAny_BinOp (binT ha hb I h fun v u s2 x y H2 I2 rx ry q => ho pins s2 σ H2 x y v u Q I2 rx ry q)
theorem pe_un {op : UnaryOp} {r : V → Hp → VK → Prop} (ho : UnR X (unaryOp op) r) (ha : PE X a ta) : PE X (.UnaryOp op a pos) (tUn r ta) := by
  intro pins s σ H Q I h
  exact UnaryOp_ (thn (ha pins s σ H _ I h) fun v s1 ⟨x, H1, I1, r1, q1⟩ => ho pins s1 σ H1 x v Q I1 r1 q1)
/-- a op= e at a name: the name's slot i -/
theorem augR {op : Operator} {r : R2} (ho : OpR X (inplaceOp op) r) {pins : List (Addr × Obj)} {s : Shared} {σ : St} {H : Hp} {x y : V} {v u : Value} {Q : VK} (I : Inv X pins σ H s)
    (rx : RelV x v) (ry : RelV y u) (q : r x y H Q) : wpAny (model X.prog X.w) X.A (inplaceOp op v u) (EP X pins σ Q) X.xe s := ho pins s σ H x y v u Q I rx ry q

/-! ### ints -/
theorem opI {f : Value → Value → Sem Value} {C : Int → Int → Prop} {g : Int → Int → Int}
    (rule : ∀ (i j : Int) (t u : Tok) (s : Shared) (Q : Value → Shared → Prop) (E : Value → Shared → Prop), C i j → Q (.int (g i j) s.toks) { s with toks := s.toks + 1 } → wpAny (model X.prog X.w) X.A (f (.int i t) (.int j u)) Q E s) :
    OpR X f (rI C fun i j => .int (g i j)) := by
  intro pins s σ H x y v u Q I rx ry h
  obtain ⟨i, j, rfl, rfl, hc, q⟩ := h
  obtain ⟨t, rfl⟩ := rx
  obtain ⟨t', rfl⟩ := ry
  exact rule i j t t' s _ _ hc ⟨.int (g i j), H, I.tok _, ⟨_, rfl⟩, q⟩
theorem opI0 {f : Value → Value → Sem Value} {g : Int → Int → Int}
    (rule : ∀ (i j : Int) (t u : Tok) (s : Shared) (Q : Value → Shared → Prop) (E : Value → Shared → Prop), Q (.int (g i j) s.toks) { s with toks := s.toks + 1 } → wpAny (model X.prog X.w) X.A (f (.int i t) (.int j u)) Q E s) :
    OpR X f (rI0 fun i j => .int (g i j)) := by
  intro pins s σ H x y v u Q I rx ry h
  obtain ⟨i, j, rfl, rfl, q⟩ := h
  obtain ⟨t, rfl⟩ := rx
  obtain ⟨t', rfl⟩ := ry
  exact rule i j t t' s _ _ ⟨.int (g i j), H, I.tok _, ⟨_, rfl⟩, q⟩
theorem opB0 {f : Value → Value → Sem Value} {g : Int → Int → Bool}
    (rule : ∀ (i j : Int) (t u : Tok) (s : Shared) (Q : Value → Shared → Prop) (E : Value → Shared → Prop), Q (.bool (g i j)) s → wpAny (model X.prog X.w) X.A (f (.int i t) (.int j u)) Q E s) :
    OpR X f (rI0 fun i j => .bl (g i j)) := by
  intro pins s σ H x y v u Q I rx ry h
  obtain ⟨i, j, rfl, rfl, q⟩ := h
  obtain ⟨t, rfl⟩ := rx
  obtain ⟨t', rfl⟩ := ry
  exact rule i j t t' s _ _ ⟨.bl (g i j), H, I, rfl, q⟩

def CDiv (i j : Int) : Prop := 0 < j ∧ j < 1073741824
def CDivN (i j : Int) : Prop := j ≠ 0 ∧ j.natAbs < 1073741824
def CPow (i j : Int) : Prop := 0 ≤ j ∧ j ≤ 1000000 ∧ i.natAbs < 2 ^ 64
def CMul (i j : Int) : Prop := (-(2 ^ 64) < i ∧ i < 2 ^ 64) ∨ (-(2 ^ 64) < j ∧ j < 2 ^ 64)
theorem CMul.ok {i j : Int} (h : CMul i j) : IntMulOk i j := by
  rcases h with ⟨h1, h2⟩ | ⟨h1, h2⟩
  · exact .of_left (intBits_le_64 h1 h2)
  · exact .of_right (intBits_le_64 h1 h2)
theorem two_pow_nn (k : Nat) : (0 : Int) ≤ 2 ^ k := by
  rw [two_pow_cast]
  exact Int.natCast_nonneg _

theorem op_add : OpR X (binaryOp .Add) (rI0 fun i j => .int (i + j)) := opI0 fun _ _ _ _ _ _ _ q => add_int q
theorem op_sub : OpR X (binaryOp .Sub) (rI0 fun i j => .int (i - j)) := opI0 fun _ _ _ _ _ _ _ q => sub_int q
theorem op_mul : OpR X (binaryOp .Mult) (rI CMul fun i j => .int (i * j)) := opI fun _ _ _ _ _ _ _ hc q => mul_int q hc.ok
/-- // by a positive divisor -/
theorem op_fdiv : OpR X (binaryOp .FloorDiv) (rI CDiv fun i j => .int (i / j)) := opI fun i j _ _ _ _ _ hc q => by
  have h1 : (0 : Int) < j := hc.1
  have h2 : j < 1073741824 := hc.2
  exact floordiv_int (by omega) (by rw [Int.fdiv_eq_ediv_of_nonneg i (by omega)]; exact q) (.inl (PyProof.noPylong_small (by omega)))
theorem op_fdivN : OpR X (binaryOp .FloorDiv) (rI CDivN fun i j => .int (i.fdiv j)) := opI fun _ _ _ _ _ _ _ hc q => floordiv_int hc.1 q (.inl (PyProof.noPylong_small hc.2))
/-- % by a positive divisor of any size -/
theorem op_mod : OpR X (binaryOp .Mod) (rI (fun _ j => 0 < j) fun i j => .int (i % j)) := opI fun i j _ _ _ _ _ hc q => by
  have h1 : (0 : Int) < j := hc
  exact mod_int' (by omega) (by rw [Int.fmod_eq_emod_of_nonneg i (by omega)]; exact q)
theorem op_modN : OpR X (binaryOp .Mod) (rI (fun _ j => j ≠ 0) fun i j => .int (i.fmod j)) := opI fun _ _ _ _ _ _ _ hc q => mod_int' hc q
theorem op_pow : OpR X (binaryOp .Pow) (rI CPow fun i j => .int (i ^ j.toNat)) := opI fun _ _ _ _ _ _ _ hc q => pow_int_small hc.1 hc.2.1 hc.2.2 q
theorem op_shl : OpR X (binaryOp .LShift) (rI CPow fun i j => .int (i * 2 ^ j.toNat)) := opI fun _ _ _ _ _ _ _ hc q => lshift_int_small hc.1 hc.2.1 hc.2.2 q
theorem op_shr : OpR X (binaryOp .RShift) (rI (fun _ j => 0 ≤ j) fun i j => .int (i / 2 ^ j.toNat)) := opI fun i j _ _ _ _ _ hc q =>
  rshift_int hc (by rw [Int.fdiv_eq_ediv_of_nonneg i (two_pow_nn _)]; exact q)
theorem op_and : OpR X (binaryOp .BitAnd) (rI0 fun i j => .int (Builtin.bitAnd i j)) := opI0 fun _ _ _ _ _ _ _ q => and_int q
theorem op_or : OpR X (binaryOp .BitOr) (rI0 fun i j => .int (Builtin.bitOr i j)) := opI0 fun _ _ _ _ _ _ _ q => or_int q
theorem op_xor : OpR X (binaryOp .BitXor) (rI0 fun i j => .int (Builtin.bitXor i j)) := opI0 fun _ _ _ _ _ _ _ q => xor_int q

theorem iop_add : OpR X (inplaceOp .Add) (rI0 fun i j => .int (i + j)) := opI0 fun _ _ _ _ _ _ _ q => iadd_int q
theorem iop_sub : OpR X (inplaceOp .Sub) (rI0 fun i j => .int (i - j)) := opI0 fun _ _ _ _ _ _ _ q => isub_int q
theorem iop_mul : OpR X (inplaceOp .Mult) (rI CMul fun i j => .int (i * j)) := opI fun _ _ _ _ _ _ _ hc q => imul_int q hc.ok
theorem iop_fdiv : OpR X (inplaceOp .FloorDiv) (rI CDiv fun i j => .int (i / j)) := opI fun i j _ _ _ _ _ hc q => by
  have h1 : (0 : Int) < j := hc.1
  have h2 : j < 1073741824 := hc.2
  exact ifloordiv_int (by omega) (by rw [Int.fdiv_eq_ediv_of_nonneg i (by omega)]; exact q) (.inl (PyProof.noPylong_small (by omega)))
theorem iop_mod : OpR X (inplaceOp .Mod) (rI (fun _ j => 0 < j) fun i j => .int (i % j)) := opI fun i j _ _ _ _ _ hc q => by
  have h1 : (0 : Int) < j := hc
  exact imod_int (by omega) (by rw [Int.fmod_eq_emod_of_nonneg i (by omega)]; exact q)
theorem iop_shl : OpR X (inplaceOp .LShift) (rI CPow fun i j => .int (i * 2 ^ j.toNat)) := opI fun _ _ _ _ _ _ _ hc q => ilshift_int_small hc.1 hc.2.1 hc.2.2 q
theorem iop_shr : OpR X (inplaceOp .RShift) (rI (fun _ j => 0 ≤ j) fun i j => .int (i / 2 ^ j.toNat)) := opI fun i j _ _ _ _ _ hc q =>
  irshift_int hc (by rw [Int.fdiv_eq_ediv_of_nonneg i (two_pow_nn _)]; exact q)
theorem iop_and : OpR X (inplaceOp .BitAnd) (rI0 fun i j => .int (Builtin.bitAnd i j)) := opI0 fun _ _ _ _ _ _ _ q => iand_int q
theorem iop_or : OpR X (inplaceOp .BitOr) (rI0 fun i j => .int (Builtin.bitOr i j)) := opI0 fun _ _ _ _ _ _ _ q => ior_int q
theorem iop_xor : OpR X (inplaceOp .BitXor) (rI0 fun i j => .int (Builtin.bitXor i j)) := opI0 fun _ _ _ _ _ _ _ q => ixor_int q

theorem unI {f : Value → Sem Value} {g : Int → Int}
    (rule : ∀ (i : Int) (t : Tok) (s : Shared) (Q : Value → Shared → Prop) (E : Value → Shared → Prop), Q (.int (g i) s.toks) { s with toks := s.toks + 1 } → wpAny (model X.prog X.w) X.A (f (.int i t)) Q E s) :
    UnR X f (rU fun i => .int (g i)) := by
  intro pins s σ H x v Q I rx h
  obtain ⟨i, rfl, q⟩ := h
  obtain ⟨t, rfl⟩ := rx
  exact rule i t s _ _ ⟨.int (g i), H, I.tok _, ⟨_, rfl⟩, q⟩
theorem un_neg : UnR X (unaryOp .USub) (rU fun i => .int (-i)) := unI fun _ _ _ _ _ q => neg_int q
theorem un_inv : UnR X (unaryOp .Invert) (rU fun i => .int (Builtin.bitNot i)) := unI fun _ _ _ _ _ q => invert_int q

/-! ### bools among ints: n += (a < b) -/
theorem op_add_ib : OpR X (binaryOp .Add) (fun x y H Q => ∃ i k, x = .int i ∧ y = .bl k ∧ Q (.int (i + b2i k)) H) := by
  intro pins s σ H x y v u Q I rx ry h
  obtain ⟨i, k, rfl, rfl, q⟩ := h
  obtain ⟨t, rfl⟩ := rx
  cases ry
  exact add_int_bool ⟨.int (i + b2i k), H, I.tok _, ⟨_, rfl⟩, q⟩
end

/-! ### comparisons -/
/-- the scalars that == tells apart as data does -/
def scal : V → V → Bool
  | .non, .non => true | .non, .int _ => true | .int _, .non => true | .non, .bl _ => true | .bl _, .non => true | .non, .str _ => true | .str _, .non => true
  | .int _, .int _ => true | .bl _, .bl _ => true | .str _, .str _ => true | .byt _, .byt _ => true
  | .int _, .str _ => true | .str _, .int _ => true | .bl _, .str _ => true | .str _, .bl _ => true
  | _, _ => false
def rEq : R2 := fun x y H Q => scal x y = true ∧ Q (.bl (decide (x = y))) H
def rNe : R2 := fun x y H Q => scal x y = true ∧ Q (.bl (!decide (x = y))) H

theorem dec_int {i j : Int} : decide (V.int i = V.int j) = (i == j) := by
  rw [Bool.eq_iff_iff]
  simp
theorem dec_bl {i j : Bool} : decide (V.bl i = V.bl j) = (i == j) := by
  rw [Bool.eq_iff_iff]
  simp
theorem dec_str {i j : Str} : decide (V.str i = V.str j) = (i == j) := by
  rw [Bool.eq_iff_iff]
  simp
theorem dec_byt {i j : Array UInt8} : decide (V.byt i = V.byt j) = (i.toList == j.toList) := by
  rw [Bool.eq_iff_iff]
  cases i
  cases j
  simp

section
variable {X : Cx} {a b c : Expr} {ta tb tc : TE} {pos : Pos}
theorem fin_bl {pins : List (Addr × Obj)} {σ : St} {H : Hp} {s : Shared} {Q : VK} {k k' : Bool} (I : Inv X pins σ H s) (q : Q (.bl k) H) (e : k = k') : EP X pins σ Q (.bool k') s := by
  subst e
  exact ⟨.bl k, H, I, rfl, q⟩
theorem op_eq : OpR X (compareOp .Eq) rEq := by
  intro pins s σ H x y v u Q I rx ry h
  obtain ⟨hs, q⟩ := h
  cases x with
  | non =>
    cases rx
    cases y with
    | non => cases ry; exact PySem.EqNone.eq_none_none (fin_bl I q (by simp))
    | bl j => cases ry; exact PySem.EqNone.eq_none_bool (fin_bl I q (by simp))
    | int j => obtain ⟨t', rfl⟩ := ry; exact PySem.EqNone.eq_none_int (fin_bl I q (by simp))
    | str j => obtain ⟨t', rfl⟩ := ry; exact PySem.EqNone.eq_none_str (fin_bl I q (by simp))
    | _ => exact absurd (show false = true from hs) Bool.false_ne_true
  | bl i =>
    cases rx
    cases y with
    | non => cases ry; exact PySem.EqNone.eq_bool_none (fin_bl I q (by simp))
    | bl j => cases ry; exact eq_bool (fin_bl I q dec_bl)
    | str j => obtain ⟨t', rfl⟩ := ry; exact PySem.EqMixed.eq_bool_str (fin_bl I q (by simp))
    | _ => exact absurd (show false = true from hs) Bool.false_ne_true
  | int i =>
    obtain ⟨t, rfl⟩ := rx
    cases y with
    | non => cases ry; exact PySem.EqNone.eq_int_none (fin_bl I q (by simp))
    | int j => obtain ⟨t', rfl⟩ := ry; exact eq_int (fin_bl I q dec_int)
    | str j => obtain ⟨t', rfl⟩ := ry; exact PySem.EqMixed.eq_int_str (fin_bl I q (by simp))
    | _ => exact absurd (show false = true from hs) Bool.false_ne_true
  | str i =>
    obtain ⟨t, rfl⟩ := rx
    cases y with
    | non => cases ry; exact PySem.EqNone.eq_str_none (fin_bl I q (by simp))
    | bl j => cases ry; exact PySem.EqMixed.eq_str_bool (fin_bl I q (by simp))
    | int j => obtain ⟨t', rfl⟩ := ry; exact PySem.EqMixed.eq_str_int (fin_bl I q (by simp))
    | str j => obtain ⟨t', rfl⟩ := ry; exact eq_str (fin_bl I q dec_str)
    | _ => exact absurd (show false = true from hs) Bool.false_ne_true
  | byt i =>
    obtain ⟨t, rfl⟩ := rx
    cases y with
    | byt j => obtain ⟨t', rfl⟩ := ry; exact PySem.W.eq_bytes (fin_bl I q dec_byt)
    | _ => exact absurd (show false = true from hs) Bool.false_ne_true
  | _ => cases y <;> exact absurd (show false = true from hs) Bool.false_ne_true
theorem op_ne : OpR X (compareOp .NotEq) rNe := by
  intro pins s σ H x y v u Q I rx ry h
  obtain ⟨hs, q⟩ := h
  cases x with
  | non =>
    cases rx
    cases y with
    | non => cases ry; exact PySem.EqNone.ne_none_none (fin_bl I q (by simp))
    | bl j => cases ry; exact PySem.EqNone.ne_none_bool (fin_bl I q (by simp))
    | int j => obtain ⟨t', rfl⟩ := ry; exact PySem.EqNone.ne_none_int (fin_bl I q (by simp))
    | str j => obtain ⟨t', rfl⟩ := ry; exact PySem.EqNone.ne_none_str (fin_bl I q (by simp))
    | _ => exact absurd (show false = true from hs) Bool.false_ne_true
  | bl i =>
    cases rx
    cases y with
    | non => cases ry; exact PySem.EqNone.ne_bool_none (fin_bl I q (by simp))
    | bl j => cases ry; exact ne_bool (fin_bl I q (congrArg not dec_bl))
    | str j => obtain ⟨t', rfl⟩ := ry; exact PySem.EqMixed.ne_bool_str (fin_bl I q (by simp))
    | _ => exact absurd (show false = true from hs) Bool.false_ne_true
  | int i =>
    obtain ⟨t, rfl⟩ := rx
    cases y with
    | non => cases ry; exact PySem.EqNone.ne_int_none (fin_bl I q (by simp))
    | int j => obtain ⟨t', rfl⟩ := ry; exact ne_int (fin_bl I q (congrArg not dec_int))
    | str j => obtain ⟨t', rfl⟩ := ry; exact PySem.EqMixed.ne_int_str (fin_bl I q (by simp))
    | _ => exact absurd (show false = true from hs) Bool.false_ne_true
  | str i =>
    obtain ⟨t, rfl⟩ := rx
    cases y with
    | non => cases ry; exact PySem.EqNone.ne_str_none (fin_bl I q (by simp))
    | bl j => cases ry; exact PySem.EqMixed.ne_str_bool (fin_bl I q (by simp))
    | int j => obtain ⟨t', rfl⟩ := ry; exact PySem.EqMixed.ne_str_int (fin_bl I q (by simp))
    | str j => obtain ⟨t', rfl⟩ := ry; exact ne_str (fin_bl I q (congrArg not dec_str))
    | _ => exact absurd (show false = true from hs) Bool.false_ne_true
  | byt i =>
    obtain ⟨t, rfl⟩ := rx
    cases y with
    | byt j => obtain ⟨t', rfl⟩ := ry; exact PySem.W.ne_bytes (fin_bl I q (congrArg not dec_byt))
    | _ => exact absurd (show false = true from hs) Bool.false_ne_true
  | _ => cases y <;> exact absurd (show false = true from hs) Bool.false_ne_true

theorem op_lt : OpR X (compareOp .Lt) (rI0 fun i j => .bl (decide (i < j))) := opB0 fun _ _ _ _ _ _ _ q => lt_int q
theorem op_le : OpR X (compareOp .LtE) (rI0 fun i j => .bl (decide (i ≤ j))) := opB0 fun _ _ _ _ _ _ _ q => le_int q
theorem op_gt : OpR X (compareOp .Gt) (rI0 fun i j => .bl (decide (j < i))) := opB0 fun _ _ _ _ _ _ _ q => gt_int q
theorem op_ge : OpR X (compareOp .GtE) (rI0 fun i j => .bl (decide (j ≤ i))) := opB0 fun _ _ _ _ _ _ _ q => ge_int q
theorem op_lt_str : OpR X (compareOp .Lt) (fun x y H Q => ∃ i j, x = .str i ∧ y = .str j ∧ Q (.bl (decide (i.cps.toList < j.cps.toList))) H) := by
  intro pins s σ H x y v u Q I rx ry h
  obtain ⟨i, j, rfl, rfl, q⟩ := h
  obtain ⟨t, rfl⟩ := rx
  obtain ⟨t', rfl⟩ := ry
  exact lt_str (fin_bl I q rfl)
/-- the one string within the other -/
theorem op_in_str : OpR X (compareOp .In) (fun x y H Q => ∃ i j, x = .str i ∧ y = .str j ∧ Q (.bl (!(Builtin.Str.occurrences j i 0 j.length 1).isEmpty)) H) := by
  intro pins s σ H x y v u Q I rx ry h
  obtain ⟨i, j, rfl, rfl, q⟩ := h
  obtain ⟨t, rfl⟩ := rx
  obtain ⟨t', rfl⟩ := ry
  exact in_str (fin_bl I q rfl)

/-- is None, is not None: the right side a value none -/
theorem op_isN : OpR X (compareOp .Is) (fun x y H Q => y = .non ∧ Q (.bl (decide (x = .non))) H) := by
  intro pins s σ H x y v u Q I rx ry h
  obtain ⟨rfl, q⟩ := h
  cases ry
  refine is_none_gen (fin_bl I q ?_)
  cases x <;> first
    | (cases rx; rfl)
    | (obtain ⟨t, rfl⟩ := rx; rfl)
theorem op_notN : OpR X (compareOp .IsNot) (fun x y H Q => y = .non ∧ Q (.bl (!decide (x = .non))) H) := by
  intro pins s σ H x y v u Q I rx ry h
  obtain ⟨rfl, q⟩ := h
  cases ry
  refine isnot_none_gen (fin_bl I q ?_)
  cases x <;> first
    | (cases rx; rfl)
    | (obtain ⟨t, rfl⟩ := rx; rfl)

theorem op_notin_str : OpR X (compareOp .NotIn) (fun x y H Q => ∃ i j, x = .str i ∧ y = .str j ∧ Q (.bl (!(!(Builtin.Str.occurrences j i 0 j.length 1).isEmpty))) H) := by
  intro pins s σ H x y v u Q I rx ry h
  obtain ⟨i, j, rfl, rfl, q⟩ := h
  obtain ⟨t, rfl⟩ := rx
  obtain ⟨t', rfl⟩ := ry
  exact notIn_str (fin_bl I q rfl)
/-- is, is not of two objects that are tracked lists or instances -/
def isObj : HO → Bool
  | .lst _ => true
  | .ins _ _ _ => true
  | _ => false
theorem obj_there {pins : List (Addr × Obj)} {s : Shared} {σ : St} {H : Hp} {a : Addr} {o : HO} (I : Inv X pins σ H s) (h : H a = some o) (p : isObj o = true) : ∃ ob, s.heap.get? a = some ob ∧ ob.cls ≠ .type "tuple" := by
  cases o with
  | lst xs =>
    obtain ⟨_, its, n, _, e⟩ : xs.length ≤ sizeLine ∧ ∃ (its : List Value) (n : Nat), Vals xs its ∧ s.heap.get? a = some { cls := .type "list", data := .seq its.toArray n } := I.hok a _ h
    exact ⟨_, e, (by show Value.type "list" ≠ .type "tuple"; decide +kernel)⟩
  | ins C dx fs =>
    have x := I.hok a _ h
    obtain ⟨_, _, _, e, _⟩ := x
    exact ⟨_, e, (by show Value.ref C ≠ .type "tuple"; exact fun z => by cases z)⟩
  | _ => exact absurd (show false = true from p) Bool.false_ne_true
theorem op_is_ref : OpR X (compareOp .Is) (fun x y H Q => ∃ a b oa ob, x = .ref a ∧ y = .ref b ∧ H a = some oa ∧ isObj oa = true ∧ H b = some ob ∧ isObj ob = true ∧ Q (.bl (decide (a = b))) H) := by
  intro pins s σ H x y v u Q I rx ry h
  obtain ⟨a, b, oa, ob, rfl, rfl, ha, pa, hb, pb, q⟩ := h
  cases rx
  cases ry
  obtain ⟨o1, e1, n1⟩ := obj_there I ha pa
  obtain ⟨o2, e2, _⟩ := obj_there I hb pb
  by_cases z : a = b
  · subst z
    exact wpAny_is_ref_self (fin_bl I q (by simp))
  · exact wpAny_is_ref_other z e1 e2 n1 (fin_bl I q (by simp [z]))
theorem op_isnot_ref : OpR X (compareOp .IsNot) (fun x y H Q => ∃ a b oa ob, x = .ref a ∧ y = .ref b ∧ H a = some oa ∧ isObj oa = true ∧ H b = some ob ∧ isObj ob = true ∧ Q (.bl (!decide (a = b))) H) := by
  intro pins s σ H x y v u Q I rx ry h
  obtain ⟨a, b, oa, ob, rfl, rfl, ha, pa, hb, pb, q⟩ := h
  cases rx
  cases ry
  obtain ⟨o1, e1, n1⟩ := obj_there I ha pa
  obtain ⟨o2, e2, _⟩ := obj_there I hb pb
  by_cases z : a = b
  · subst z
    exact wpAny_isNot_ref_self (fin_bl I q (by simp))
  · exact wpAny_isNot_ref_other z e1 e2 n1 (fin_bl I q (by simp [z]))

/-- two rules for one operation: by cases -/
theorem OpR.or {f : Value → Value → Sem Value} {r r' : R2} (h : OpR X f r) (h' : OpR X f r') : OpR X f (fun x y H Q => r x y H Q ∨ r' x y H Q) := by
  intro pins s σ H x y v u Q I rx ry q
  rcases q with q | q
  · exact h pins s σ H x y v u Q I rx ry q
  · exact h' pins s σ H x y v u Q I rx ry q

theorem nomark (b : Expr) {op : CmpOp} (h : op ≠ .In := by decide) (h2 : op ≠ .NotIn := by decide) : behindInMarks op b = false := by
  have e1 : (op == CmpOp.In) = false := by cases op <;> first | rfl | exact absurd rfl h
  have e2 : (op == CmpOp.NotIn) = false := by cases op <;> first | rfl | exact absurd rfl h2
  cases b <;> simp [behindInMarks, e1, e2]
/-- a comparison as a value; hm: nomark b, or (for in, not in) by with_unfolding_all rfl -/
theorem pe_cmpR {op : CmpOp} {r : R2} (ho : OpR X (compareOp op) r) (ha : PE X a ta) (hb : PE X b tb) (hm : behindInMarks op b = false) : PE X (.Compare a [op] [b] pos) (tOp r ta tb) := by
  intro pins s σ H Q I h
  exact wpAny_Compare1 (binT ha hb I h fun v u s2 x y H2 I2 rx ry q => ho pins s2 σ H2 x y v u Q I2 rx ry q) hm
/-- a reading of a value as a test -/
def tTest (t : TE) : TT := fun σ H Q => t σ H fun x H' => ∃ k, x = .bl k ∧ Q k H'
theorem pt_cmpR {op : CmpOp} {r : R2} (ho : OpR X (compareOp op) r) (ha : PE X a ta) (hb : PE X b tb) (hm : behindInMarks op b = false) : PT X (.Compare a [op] [b] pos) (tTest (tOp r ta tb)) := by
  intro pins s σ H Q I h
  refine wpAny_isTrue_Compare1 (thn (ha pins s σ H _ I h) fun v s1 ⟨x, H1, I1, r1, q1⟩ => thn (hb pins s1 σ H1 _ I1 q1) fun u s2 ⟨y, H2, I2, r2, q2⟩ =>
    thn (ho pins s2 σ H2 x y v u _ I2 r1 r2 q2) fun c s3 ⟨z, H3, I3, r3, k, e, q3⟩ => ?_) hm
  subst e
  cases r3
  exact wpAny_truthy_bool ⟨H3, I3, q3⟩
/-- a op1 b op2 c -/
def tChain (r r' : R2) (ta tb tc : TE) : TE := fun σ H Q => ta σ H fun x H1 => tb σ H1 fun y H2 => r x y H2 fun z H3 => ∃ k, z = .bl k ∧
  (if k = true then tc σ H3 fun w' H4 => r' y w' H4 Q else Q (.bl false) H3)
theorem pe_chain {op op' : CmpOp} {r r' : R2} (ho : OpR X (compareOp op) r) (ho' : OpR X (compareOp op') r') (ha : PE X a ta) (hb : PE X b tb) (hc : PE X c tc)
    (hm : lastMarks [op, op'] [b, c] = false := by with_unfolding_all rfl) : PE X (.Compare a [op, op'] [b, c] pos) (tChain r r' ta tb tc) := by
  intro pins s σ H Q I h
  refine Compare_chain (thn (ha pins s σ H _ I h) fun v s1 ⟨x, H1, I1, r1, q1⟩ => chain_link (thn (hb pins s1 σ H1 _ I1 q1) fun u s2 ⟨y, H2, I2, r2, q2⟩ =>
    thn (ho pins s2 σ H2 x y v u _ I2 r1 r2 q2) fun d s3 ⟨z, H3, I3, r3, k, e, q3⟩ => ?_)) hm
  subst e
  cases r3
  refine wpAny_truthy_bool ?_
  cases k with
  | false => exact ite_ff ⟨.bl false, H3, I3, rfl, q3⟩
  | true => exact ite_tt (chain_last (thn (hc pins s3 σ H3 _ I3 q3) fun w' s4 ⟨z', H4, I4, r4, q4⟩ => ho' pins s4 σ H4 y z' u w' Q I4 r2 r4 q4))
theorem pt_chain {op op' : CmpOp} {r r' : R2} (ho : OpR X (compareOp op) r) (ho' : OpR X (compareOp op') r') (ha : PE X a ta) (hb : PE X b tb) (hc : PE X c tc)
    (hm : lastMarks [op, op'] [b, c] = false := by with_unfolding_all rfl) : PT X (.Compare a [op, op'] [b, c] pos) (tTest (tChain r r' ta tb tc)) := by
  intro pins s σ H Q I h
  refine isTrue_chain (thn (ha pins s σ H _ I h) fun v s1 ⟨x, H1, I1, r1, q1⟩ => test_link (thn (hb pins s1 σ H1 _ I1 q1) fun u s2 ⟨y, H2, I2, r2, q2⟩ =>
    thn (ho pins s2 σ H2 x y v u _ I2 r1 r2 q2) fun d s3 ⟨z, H3, I3, r3, k, e, q3⟩ => ?_)) hm
  subst e
  cases r3
  refine wpAny_truthy_bool ?_
  cases k with
  | false =>
    obtain ⟨k', e', q'⟩ := q3
    cases e'
    exact ite_ff ⟨H3, I3, q'⟩
  | true =>
    refine ite_tt (test_last (thn (hc pins s3 σ H3 _ I3 q3) fun w' s4 ⟨z', H4, I4, r4, q4⟩ => thn (ho' pins s4 σ H4 y z' u w' _ I4 r2 r4 q4) fun d' s5 ⟨z2, H5, I5, r5, k2, e2, q5⟩ => ?_))
    subst e2
    cases r5
    exact wpAny_truthy_bool ⟨H5, I5, q5⟩

/-! ### truth -/
/-- a value's truth by the abstract heap -/
def TruV (K : PySem.W.Frag) (x : V) (H : Hp) (k : Bool) : Prop :=
  match x with
  | .non => k = false
  | .bl b => k = b
  | .int i => k = (i != 0)
  | .str y => y.length ≤ sizeLine ∧ k = ((y.length : Int) != 0)
  | .byt y => y.size ≤ sizeLine ∧ k = ((y.size : Int) != 0)
  | .ref p => (∃ xs, SqL K H p xs ∧ k = !xs.isEmpty) ∨ (∃ xs, SqT K H p xs ∧ k = !xs.isEmpty) ∨ ∃ kvs, H p = some (.dK kvs) ∧ k = !kvs.isEmpty
  | _ => False
theorem isEmpty_kv {κ : Type} {kvs : List (κ × V)} {vs : List (κ × Value)} (r : KV kvs vs) : (!vs.isEmpty) = !kvs.isEmpty := by
  cases r <;> rfl
theorem isEmpty_of {xs : List V} {its : List Value} (r : Vals xs its) : (!its.toArray.isEmpty) = !xs.isEmpty := by
  cases r <;> simp
theorem line63 : (sizeLine : Nat) < 2 ^ 63 := by rw [sizeLine_eq]; decide
theorem tru_ok : TruR X (fun x H Q => ∃ k, TruV X.K x H k ∧ Q k H) := by
  intro pins s σ H x v Q I rx h
  obtain ⟨k, e, q⟩ := h
  have hl := line63
  have hs : sizeLine = 16777216 := sizeLine_eq
  cases x with
  | non =>
    cases rx
    have e' : k = false := e
    subst e'
    exact truthy_none ⟨H, I, q⟩
  | bl b =>
    cases rx
    have e' : k = b := e
    subst e'
    exact wpAny_truthy_bool ⟨H, I, q⟩
  | int i =>
    obtain ⟨t, rfl⟩ := rx
    have e' : k = (i != 0) := e
    subst e'
    exact PySem.P.truthy_int ⟨H, I, q⟩
  | str y =>
    obtain ⟨t, rfl⟩ := rx
    obtain ⟨hy, e'⟩ : y.length ≤ sizeLine ∧ k = ((y.length : Int) != 0) := e
    subst e'
    exact PySem.P.truthy_str (by omega) ⟨H, I.tok _, q⟩
  | byt y =>
    obtain ⟨t, rfl⟩ := rx
    obtain ⟨hy, e'⟩ : y.size ≤ sizeLine ∧ k = ((y.size : Int) != 0) := e
    subst e'
    exact PySem.W.truthy_bytes (by omega) ⟨H, I.tok _, q⟩
  | ref p =>
    cases rx
    have e' : (∃ xs, SqL X.K H p xs ∧ k = !xs.isEmpty) ∨ (∃ xs, SqT X.K H p xs ∧ k = !xs.isEmpty) ∨ ∃ kvs, H p = some (.dK kvs) ∧ k = !kvs.isEmpty := e
    rcases e' with ⟨xs, hx, e'⟩ | ⟨xs, hx, e'⟩ | ⟨kvs, hx, e'⟩
    · subst e'
      obtain ⟨its, r, pl, hz⟩ := I.list hx
      have hlen := r.length
      exact wpAny_truthy_list pl.isList (by simp only [List.size_toArray]; omega) ⟨H, I.tok _, by rw [isEmpty_of r]; exact q⟩
    · subst e'
      obtain ⟨its, r, pl, hz⟩ := I.tuple hx
      have hlen := r.length
      exact truthy_tuple pl (by simp only [List.size_toArray]; omega) ⟨H, I.tok _, by rw [isEmpty_of r]; exact q⟩
    · subst e'
      obtain ⟨hz, hS, vs, r, m⟩ : kvs.length ≤ sizeLine ∧ (p == sysModules) = false ∧ ∃ vs, KV kvs vs ∧ s.heap.DictOf (mixKind X.prog X.w) p vs := I.hok p _ hx
      have hlen : kvs.length = vs.length := Paired.length r
      exact wpAny_truthy_dict hS m (by omega) ⟨H, I.tok _, by rw [isEmpty_kv r]; exact q⟩
  | _ => exact (show False from e).elim
/-- any expression whose test is its value's truth (a name, a call, a subscript, a field ..: he by fun _ => rfl) -/
theorem pt_truth (ha : PE X a ta) (he : ∀ whole, isTrue a X.env whole = (do let v ← whole; standAt a.pos; holding [v] (truthy v))) :
    PT X a (fun σ H Q => ta σ H fun x H' => ∃ k, TruV X.K x H' k ∧ Q k H') := by
  intro pins s σ H Q I h
  exact isTrue_plain (thn (ha pins s σ H _ I h) fun v s1 ⟨x, H1, I1, r1, q1⟩ => tru_ok pins s1 σ H1 x v Q I1 r1 q1) (he _)

/-! ### strs and bytes -/
theorem pe_byt {x : List UInt8} {k : Nat} : PE X (.Constant (.bytes x) k pos) (fun _ H Q => Q (.byt x.toArray) H) := fun _ _ _ H _ I h => PySem.W.Constant_bytes ⟨.byt x.toArray, H, I.tok _, ⟨_, rfl⟩, h⟩
theorem op_add_str : OpR X (binaryOp .Add) (fun x y H Q => ∃ i j, x = .str i ∧ y = .str j ∧ i.length + j.length ≤ sizeLine ∧ Q (.str (i ++ j)) H) := by
  intro pins s σ H x y v u Q I rx ry h
  obtain ⟨i, j, rfl, rfl, hz, q⟩ := h
  obtain ⟨t, rfl⟩ := rx
  obtain ⟨t', rfl⟩ := ry
  exact add_str (fun t' tk => ⟨.str (i ++ j), H, I.tok _, ⟨_, rfl⟩, q⟩) hz
theorem iop_add_str : OpR X (inplaceOp .Add) (fun x y H Q => ∃ i j, x = .str i ∧ y = .str j ∧ i.length + j.length ≤ sizeLine ∧ Q (.str (i ++ j)) H) := by
  intro pins s σ H x y v u Q I rx ry h
  obtain ⟨i, j, rfl, rfl, hz, q⟩ := h
  obtain ⟨t, rfl⟩ := rx
  obtain ⟨t', rfl⟩ := ry
  exact iadd_str (fun t' tk => ⟨.str (i ++ j), H, I.tok _, ⟨_, rfl⟩, q⟩) hz
theorem op_add_byt : OpR X (binaryOp .Add) (fun x y H Q => ∃ i j, x = .byt i ∧ y = .byt j ∧ i.size + j.size ≤ 16777216 ∧ Q (.byt (i ++ j)) H) := by
  intro pins s σ H x y v u Q I rx ry h
  obtain ⟨i, j, rfl, rfl, hz, q⟩ := h
  obtain ⟨t, rfl⟩ := rx
  obtain ⟨t', rfl⟩ := ry
  exact PySem.W.KBy.add_bytes hz (fun t' tk => ⟨.byt (i ++ j), H, I.tok _, ⟨_, rfl⟩, q⟩)

def PlainIxT (b : Expr) : Prop := ∀ o i, subscripted b false o i = operate [o, i] (getItem o i)
/-- s[i], 0 ≤ i < len -/
theorem pe_item_str (ha : PE X a ta) (hb : PE X b tb) (hs : PlainIxT b) :
    PE X (.Subscript a b pos) (tOp (fun x y H Q => ∃ z i c, x = .str z ∧ y = .int i ∧ 0 ≤ i ∧ i < 2 ^ 63 ∧ i < z.length ∧ z.cps[i.toNat]? = some c ∧ Q (.str ⟨#[c]⟩) H) ta tb) := by
  intro pins s σ H Q I h
  refine Subscript_ (binT ha hb I h fun v u s2 x y H2 I2 rx ry q => ?_)
  obtain ⟨z, i, c, rfl, rfl, h0, h63, h1, hc, q⟩ := q
  obtain ⟨t, rfl⟩ := rx
  obtain ⟨t', rfl⟩ := ry
  have e : seqIndex? i z.length = some i.toNat := PySem.StrLaws.seqIndex_nonneg h0 h1
  exact tail_any (typeIs_str s2 z t) slot_str_getitem.lookup (getItem_str (c := c) (by
    have e1 : decide (i < -(2 ^ 63 : Int)) = false := decide_eq_false (by omega)
    have e2 : decide (i ≥ 2 ^ 63) = false := decide_eq_false (by omega)
    rw [e1, e2] <;> rfl) (by rw [e]; exact hc) ⟨.str ⟨#[c]⟩, H2, I2.tok _, ⟨_, rfl⟩, q⟩) (hs _ _)
/-- b[i], 0 ≤ i < len -/
theorem pe_item_byt (ha : PE X a ta) (hb : PE X b tb) (hs : PlainIxT b) :
    PE X (.Subscript a b pos) (tOp (fun x y H Q => ∃ (z : List UInt8) (i : Int), x = .byt z.toArray ∧ y = .int i ∧ z.length ≤ sizeLine ∧ 0 ≤ i ∧ i < z.length ∧ Q (.int ((z.getD i.toNat 0).toNat : Nat)) H) ta tb) := by
  intro pins s σ H Q I h
  refine Subscript_ (binT ha hb I h fun v u s2 x y H2 I2 rx ry q => ?_)
  obtain ⟨z, i, rfl, rfl, hz, h0, h1, q⟩ := q
  obtain ⟨t, rfl⟩ := rx
  obtain ⟨t', rfl⟩ := ry
  have hl : sizeLine = 16777216 := sizeLine_eq
  exact tail_any (PySem.W.typeIs_bytes s2 z.toArray t) PySem.W.FB.slot_bytes_getitem.lookup (PySem.W.getItem_bytes (by omega) h0 h1 ⟨.int ((z.getD i.toNat 0).toNat : Nat), H2, I2.tok _, ⟨_, rfl⟩, q⟩) (hs _ _)

/-! ### scalar builtins, by CallR -/
theorem vals1 {x : V} {us : List Value} (r : Vals [x] us) : ∃ u, us = [u] ∧ RelV x u := by
  cases r with
  | cons r1 r2 => cases r2; exact ⟨_, rfl, r1⟩
theorem vals2 {x y : V} {us : List Value} (r : Vals [x, y] us) : ∃ u w', us = [u, w'] ∧ RelV x u ∧ RelV y w' := by
  cases r with
  | cons r1 r2 =>
    cases r2 with
    | cons r3 r4 => cases r4; exact ⟨_, _, rfl, r1, r3⟩
theorem call_abs : CallR X (.builtin "abs") (fun xs H Q => ∃ i, xs = [.int i] ∧ Q (.int (if i < 0 then -i else i)) H) := by
  intro pins s σ H xs us Q I r h
  obtain ⟨i, rfl, q⟩ := h
  obtain ⟨u, rfl, t, rfl⟩ := vals1 r
  exact call_abs_int fun u tk => ⟨.int (if i < 0 then -i else i), H, I.tok _, ⟨_, rfl⟩, q⟩
theorem call_max2 (hc : X.calm = true) : CallR X (.builtin "max") (fun xs H Q => ∃ i j, xs = [.int i, .int j] ∧ Q (.int (if j > i then j else i)) H) := by
  intro pins s σ H xs us Q I r h
  obtain ⟨i, j, rfl, q⟩ := h
  obtain ⟨u, w', rfl, ⟨t, rfl⟩, ⟨t', rfl⟩⟩ := vals2 r
  refine max_two_ints (I.ok.hd hc) fun h' tk k => ⟨_, H, I.kept k, ?_, q⟩
  by_cases hj : j > i
  · rw [if_pos hj, if_pos hj]; exact ⟨_, rfl⟩
  · rw [if_neg hj, if_neg hj]; exact ⟨_, rfl⟩
theorem call_min2 (hc : X.calm = true) : CallR X (.builtin "min") (fun xs H Q => ∃ i j, xs = [.int i, .int j] ∧ Q (.int (if j < i then j else i)) H) := by
  intro pins s σ H xs us Q I r h
  obtain ⟨i, j, rfl, q⟩ := h
  obtain ⟨u, w', rfl, ⟨t, rfl⟩, ⟨t', rfl⟩⟩ := vals2 r
  refine min_two_ints (I.ok.hd hc) fun h' tk k => ⟨_, H, I.kept k, ?_, q⟩
  by_cases hj : j < i
  · rw [if_pos hj, if_pos hj]; exact ⟨_, rfl⟩
  · rw [if_neg hj, if_neg hj]; exact ⟨_, rfl⟩
theorem call_int1 : CallR X (.type "int") (fun xs H Q => (∃ i, xs = [.int i] ∧ Q (.int i) H) ∨ ∃ k, xs = [.bl k] ∧ Q (.int (if k then 1 else 0)) H) := by
  intro pins s σ H xs us Q I r h
  rcases h with ⟨i, rfl, q⟩ | ⟨k, rfl, q⟩
  · obtain ⟨u, rfl, t, rfl⟩ := vals1 r
    exact call_int_int ⟨.int i, H, I, ⟨_, rfl⟩, q⟩
  · obtain ⟨u, rfl, r1⟩ := vals1 r
    cases r1
    exact call_int_bool ⟨.int (if k then 1 else 0), H, I.tok _, ⟨_, rfl⟩, q⟩
theorem call_bool1 : CallR X (.type "bool") (fun xs H Q => (∃ i, xs = [.int i] ∧ Q (.bl (i != 0)) H) ∨ ∃ k, xs = [.bl k] ∧ Q (.bl k) H) := by
  intro pins s σ H xs us Q I r h
  rcases h with ⟨i, rfl, q⟩ | ⟨k, rfl, q⟩
  · obtain ⟨u, rfl, t, rfl⟩ := vals1 r
    exact call_bool_int ⟨.bl (i != 0), H, I, rfl, q⟩
  · obtain ⟨u, rfl, r1⟩ := vals1 r
    cases r1
    exact call_bool_bool ⟨.bl k, H, I, rfl, q⟩
theorem call_str_int : CallR X (.type "str") (fun xs H Q => ∃ i, xs = [.int i] ∧ i.natAbs.log2 < 1920 ∧ Q (.str (toString i)) H) := by
  intro pins s σ H xs us Q I r h
  obtain ⟨i, rfl, hz, q⟩ := h
  obtain ⟨u, rfl, t, rfl⟩ := vals1 r
  exact PySem.P.str_of_int hz ⟨.str _, H, I.tok _, ⟨_, rfl⟩, q⟩
theorem call_ord : CallR X (.builtin "ord") (fun xs H Q => ∃ x, xs = [.str x] ∧ x.length = 1 ∧ Q (.int (x.cps.getD 0 0 : Nat)) H) := by
  intro pins s σ H xs us Q I r h
  obtain ⟨x, rfl, hz, q⟩ := h
  obtain ⟨u, rfl, t, rfl⟩ := vals1 r
  exact ord_of_one hz ⟨.int _, H, I.tok _, ⟨_, rfl⟩, q⟩
theorem call_chr : CallR X (.builtin "chr") (fun xs H Q => ∃ i, xs = [.int i] ∧ 0 ≤ i ∧ i ≤ 1114111 ∧ Q (.str ⟨#[i.toNat]⟩) H) := by
  intro pins s σ H xs us Q I r h
  obtain ⟨i, rfl, h0, h1, q⟩ := h
  obtain ⟨u, rfl, t, rfl⟩ := vals1 r
  exact chr_of_range h0 h1 ⟨.str _, H, I.tok _, ⟨_, rfl⟩, q⟩
/-- len of a str, a bytes, a list, a tuple -/
def LenV (K : PySem.W.Frag) (x : V) (H : Hp) (n : Nat) : Prop :=
  match x with
  | .str y => y.length ≤ sizeLine ∧ n = y.length
  | .byt y => y.size ≤ sizeLine ∧ n = y.size
  | .ref p => (∃ xs, SqL K H p xs ∧ n = xs.length) ∨ ∃ xs, SqT K H p xs ∧ n = xs.length
  | _ => False
theorem call_len : CallR X (.builtin "len") (fun xs H Q => ∃ x n, xs = [x] ∧ LenV X.K x H n ∧ Q (.int n) H) := by
  intro pins s σ H xs us Q I r h
  obtain ⟨x, n, rfl, e, q⟩ := h
  obtain ⟨u, rfl, rx⟩ := vals1 r
  have hl := line63
  have hs : sizeLine = 16777216 := sizeLine_eq
  cases x with
  | str y =>
    obtain ⟨t, rfl⟩ := rx
    obtain ⟨hy, e'⟩ : y.length ≤ sizeLine ∧ n = y.length := e
    subst e'
    exact len_str (by omega) ⟨.int _, H, I.tok _, ⟨_, rfl⟩, q⟩
  | byt y =>
    obtain ⟨t, rfl⟩ := rx
    obtain ⟨hy, e'⟩ : y.size ≤ sizeLine ∧ n = y.size := e
    subst e'
    exact PySem.W.len_bytes (by omega) ⟨.int _, H, I.tok _, ⟨_, rfl⟩, q⟩
  | ref p =>
    cases rx
    have e' : (∃ xs, SqL X.K H p xs ∧ n = xs.length) ∨ ∃ xs, SqT X.K H p xs ∧ n = xs.length := e
    rcases e' with ⟨xs, hx, e'⟩ | ⟨xs, hx, e'⟩
    · subst e'
      obtain ⟨its, r', pl, hz⟩ := I.list hx
      have hlen := r'.length
      exact Calls.call_len_list pl.isList (by simp only [List.size_toArray]; omega) ⟨.int xs.length, H, I.tok _, ⟨_, by simp only [List.size_toArray]; rw [hlen]⟩, q⟩
    · subst e'
      obtain ⟨its, r', pl, hz⟩ := I.tuple hx
      have hlen := r'.length
      exact len_tuple pl (by simp only [List.size_toArray]; omega) ⟨.int xs.length, H, I.tok _, ⟨_, by simp only [List.size_toArray]; rw [hlen]⟩, q⟩
  | _ => exact (show False from e).elim
/-- divmod: a new tuple -/
theorem call_divmod : CallR X (.builtin "divmod") (fun xs H Q => ∃ i j, xs = [.int i, .int j] ∧ CDiv i j ∧ ∀ p, H p = none → Q (.ref p) (upd H p (.tup [.int (i / j), .int (i % j)]))) := by
  intro pins s σ H xs us Q I r h
  obtain ⟨i, j, rfl, ⟨h1, h2⟩, q⟩ := h
  obtain ⟨u, w', rfl, ⟨t, rfl⟩, ⟨t', rfl⟩⟩ := vals2 r
  refine divmod_int (by omega) ?_ (.inl (PyProof.noPylong_small (by omega)))
  rw [Int.fdiv_eq_ediv_of_nonneg i (by omega), Int.fmod_eq_emod_of_nonneg i (by omega)]
  have hn : H s.heap.objs.size = none := I.hok.fresh (Nat.le_refl _)
  refine ⟨.ref s.heap.objs.size, _, ?_, rfl, q _ hn⟩
  refine I.laid (fun b o e => Heap.get?_push_of_some _ e) (Nat.le_refl _) ⟨by simp only [List.length_cons, List.length_nil]; rw [sizeLine_eq]; decide, [.int (i / j) s.toks, .int (i % j) (s.toks + 1)], .cons ⟨_, rfl⟩ (.cons ⟨_, rfl⟩ .nil), ?_⟩
  exact ⟨_, Heap.get?_push_size s.heap rfl, rfl, 0, rfl⟩
end
end L2

namespace L2
open PySem PySem.Spec PyProof.Rows

/-! ### an instance, its attributes a map -/
structure ObjM (h : Heap) (x dx C : Addr) (mA : Str → Option Value) : Prop where
  obj : h.get? x = some (PySem.W.instObj C dx)
  ns : h.Ns1 dx mA
  ne : dx ≠ x

theorem lookIn_ns {h : Heap} {dx : Addr} {mA : Str → Option Value} (n : h.Ns1 dx mA) : ∃ od, h.get? dx = some od ∧ ∀ name, PySem.W.lookIn name od = some (mA name) := by
  obtain ⟨o, es, ep, ho, hd, hk, _, hm⟩ := n
  refine ⟨o, ho, fun name => ?_⟩
  have e := hm name
  unfold nsFind findBy at e
  rw [← Array.find?_toList] at e
  unfold PySem.W.lookIn
  rw [hd]
  dsimp only
  split
  · rename_i y q
    rw [q] at e
    exact congrArg some e
  · rename_i q
    rw [q] at e
    have a : es.toList.any (·.refKey) = false := by
      rw [List.any_eq_false]
      intro y hy
      obtain ⟨z, t, hkey⟩ := hk y (Array.mem_toList_iff.mp hy)
      simp [DictEntry.refKey, hkey]
    have a' : ¬ es.toList.any (·.refKey) = true := by rw [a]; exact Bool.false_ne_true
    rw [if_neg a']
    exact congrArg some e

theorem ObjM.look {h : Heap} {x dx C : Addr} {mA : Str → Option Value} (I : ObjM h x dx C mA) : ∃ od, PySem.W.InstAt h x (PySem.W.instObj C dx) C (some od) ∧ ∀ name, PySem.W.lookIn name od = some (mA name) :=
  let ⟨od, ho, hl⟩ := lookIn_ns I.ns
  ⟨od, ⟨I.obj, rfl, rfl, ho⟩, hl⟩

section
variable {prog : Program} {w : World} {A : Around} {E : Value → Shared → Prop} {s : Shared} {K : PySem.W.Frag} {x dx C f : Addr} {mA : Str → Option Value} {name : Str} {v : Value}

theorem get_map {expr : Bool} {Q : Value → Shared → Prop} (X : K.In s.heap) (I : ObjM s.heap x dx C mA) (hg : PySem.W.plainGet K C name = true) (hh : PySem.W.hasDictIn K C = true)
    (ha : PySem.W.findIn K (.ref C) name = some none) (hv : mA name = some v) (hv' : PySem.W.handedIn v = true) (h : Q v { s with toks := s.toks + 1 }) :
    wpAny (model prog w) A (getAttr (.ref x) name expr) Q E s := by
  obtain ⟨od, J, hl⟩ := I.look
  exact PySem.W.get_value X J (PySem.W.plainGet_of hg).1 (PySem.W.findObj_own hh ha rfl (by rw [hl, hv])) hv' h

theorem get_const {expr : Bool} {a : Value} {Q : Value → Shared → Prop} (X : K.In s.heap) (I : ObjM s.heap x dx C mA) (hg : PySem.W.plainGet K C name = true) (hh : PySem.W.hasDictIn K C = true)
    (ha : PySem.W.findIn K (.ref C) name = some (some a)) (hn : PySem.W.specialIn K a "__get__" = some none) (hc : PySem.W.copiedNames.contains name = false) (hv : mA name = none) (hv' : PySem.W.handedIn a = true)
    (h : Q a { s with toks := s.toks + 1 }) : wpAny (model prog w) A (getAttr (.ref x) name expr) Q E s := by
  obtain ⟨od, J, hl⟩ := I.look
  exact PySem.W.get_value X J (PySem.W.plainGet_of hg).1 (PySem.W.findObj_cls hh ha hn hv' hc (by rw [hl, hv])) hv' h

theorem get_meth {pl : Sem Bool} {Q : Value × List Value → Shared → Prop} (X : K.In s.heap) (I : ObjM s.heap x dx C mA) (hg : PySem.W.plainGet K C name = true)
    (hf : PySem.W.findIn K (.ref C) name = some (some (.ref f))) (ht : PySem.W.isFn K (.ref f) = true) (hv : mA name = none) (h : Q (.ref f, [.ref x]) s) :
    wpAny (model prog w) A (getMethod (.ref x) name pl) Q E s := by
  obtain ⟨od, J, hl⟩ := I.look
  exact PySem.W.method_fn X J (PySem.W.plainGet_of hg).1 (PySem.W.plainGet_of hg).2 hf (beq_iff_eq.mp ht) (by show (PySem.W.lookIn name od).map (·.isSome) = some false; rw [hl, hv]; rfl) h

theorem set_map {ns : List Str} {Q : Unit → Shared → Prop} (X : K.In s.heap) (I : ObjM s.heap x dx C mA)
    (hs : PySem.W.findIn K (.ref C) "__setattr__" = some (some (.builtin "object.__setattr__"))) (hp : PySem.W.plainOver K C = true) (ht : PySem.W.takerIn K C name = some none) (hh : PySem.W.hasDictIn K C = true)
    (hw : PySem.Within mA ns) (hsz : ns.length ≤ sizeLine)
    (h : ∀ h', ObjM h' x dx C (fun y => if y = name then some v else mA y) → Heap.SameBut dx s.heap h' → Q () { s with heap := h', toks := s.toks + 2 }) :
    wpAny (model prog w) A (setAttr (.ref x) name v) Q E s := by
  obtain ⟨od, J, hl⟩ := I.look
  refine PySem.W.set_plain X J hs (PySem.W.osa_open (s := { s with toks := s.toks + 1 }) (r := none) X J hp ht fun b => ?_)
  obtain ⟨cd, hc, hd'⟩ := PySem.W.any_some hh
  have hx : s.heap.get? x = some ⟨.ref C, some dx, .plain, #[]⟩ := I.obj
  refine wpAny_bind (wpAny_pure (wpAny_bind (wpAny_bind (wpAny_loadPart hx (wpAny_bind (PySem.W.Looks.here (s := { s with toks := s.toks + 1 }) (PySem.W.looks_clsIn X hc) ?_))))))
  rw [hd']
  refine wpAny_pure (a := some dx) (wpAny_bind (wpAny_pure (wpAny_bind ?_)))
  refine wpAny_nsSet1 (s := { s with toks := s.toks + 1 }) I.ns fun h' hn2 hs2 => ?_
  obtain ⟨oD, esD, epD, hoD, hdD, hcD⟩ := hn2.count (PySem.Within.cons name v hw)
  refine wpAny_bind (wpAny_lookBehind hoD (by rw [hdD]; exact pastItsLine_dict (Nat.le_trans hcD (by rw [List.length_cons]; omega))) ?_)
  exact wpAny_pure (h _ ⟨(hs2.2 _ (Ne.symm I.ne)).trans I.obj, hn2, I.ne⟩ hs2)

/-- C(..): the dict at the heap's end, the instance behind it; then its __init__ -/
theorem make_map {R : Result → Shared → Prop} {vs : List Value} {kw : List (Str × Value)} (X : K.In s.heap) (hm : PySem.W.makesIn K C = true)
    (hi : PySem.W.findIn K (.ref C) "__init__" = some (some (.ref f))) (hf : PySem.W.typeIn K (.ref f) = some (.type "function"))
    (h : codeAny (model prog w) (A.under (.builtin "type.__call__" ⟨.ref C :: vs, kw⟩)) (.call (.ref f) ⟨.ref (s.heap.objs.size + 1) :: vs, kw⟩) (PySem.W.InitBack (s.heap.objs.size + 1) R)
      { s with heap := (s.heap.push PySem.W.emptyDict).push (PySem.W.instObj C s.heap.objs.size) }) :
    codeAny (model prog w) A (.call (.ref C) ⟨vs, kw⟩) R s := by
  obtain ⟨hh, g, d, t, os⟩ := s
  exact PySem.W.make_core (PySem.W.makes_of X hm) (PySem.W.looks_findIn X hi) (fun self => PySem.W.bind_fn X self hf) (.inl rfl) h
/-- C() where there is no __init__ but object's -/
theorem make_map0 {R : Result → Shared → Prop} (X : K.In s.heap) (hm : PySem.W.makesIn K C = true)
    (hi : PySem.W.findIn K (.ref C) "__init__" = some (some (.builtin "object.__init__")))
    (hb : ∀ self, PySem.W.Looks (model prog w) s.heap (bindSpecial (.builtin "object.__init__") self) (.builtin "object.__init__", [self]))
    (h : codeAny (model prog w) (A.under (.builtin "type.__call__" ⟨[.ref C], []⟩)) (.call (.builtin "object.__init__") ⟨[.ref (s.heap.objs.size + 1)], []⟩) (PySem.W.InitBack (s.heap.objs.size + 1) R)
      { s with heap := (s.heap.push PySem.W.emptyDict).push (PySem.W.instObj C s.heap.objs.size) }) :
    codeAny (model prog w) A (.call (.ref C) ⟨[], []⟩) R s := by
  obtain ⟨hh, g, d, t, os⟩ := s
  exact PySem.W.make_core (PySem.W.makes_of X hm) (PySem.W.looks_findIn X hi) hb (.inr ⟨rfl, rfl⟩) h
end

/-! ### the attributes as a list of pairs -/
def putF (f : Str) (v : V) : List (Str × V) → List (Str × V)
  | [] => [(f, v)]
  | (g, x) :: r => if g = f then (g, v) :: r else (g, x) :: putF f v r
theorem lookup_putF (f g : Str) (v : V) : ∀ fs : List (Str × V), (putF f v fs).lookup g = if g = f then some v else fs.lookup g
  | [] => by
    show List.lookup g [(f, v)] = _
    by_cases h : g = f
    · have hb : (g == f) = true := beq_iff_eq.mpr h
      simp only [List.lookup, hb, if_pos h]
    · have hb : (g == f) = false := beq_eq_false_iff_ne.mpr h
      simp only [List.lookup, hb, if_neg h]
  | (k, x) :: r => by
    have ih := lookup_putF f g v r
    rw [show putF f v ((k, x) :: r) = (if k = f then (k, v) :: r else (k, x) :: putF f v r) from rfl]
    by_cases hk : k = f
    · rw [if_pos hk]
      by_cases h : g = k
      · have hb : (g == k) = true := beq_iff_eq.mpr h
        simp only [List.lookup, hb, if_pos (h.trans hk)]
      · have hb : (g == k) = false := beq_eq_false_iff_ne.mpr h
        simp only [List.lookup, hb, if_neg (fun e : g = f => h (e.trans hk.symm))]
    · rw [if_neg hk]
      by_cases h : g = k
      · have hb : (g == k) = true := beq_iff_eq.mpr h
        simp only [List.lookup, hb, if_neg (fun e : g = f => hk (h.symm.trans e))]
      · have hb : (g == k) = false := beq_eq_false_iff_ne.mpr h
        simp only [List.lookup, hb]
        exact ih
theorem keys_putF (f : Str) (v : V) : ∀ fs : List (Str × V), f ∈ (putF f v fs).map (·.1) ∧ ∀ g, g ∈ fs.map (·.1) → g ∈ (putF f v fs).map (·.1)
  | [] => ⟨by simp [putF], fun g h => by simp at h⟩
  | (k, x) :: r => by
    obtain ⟨i1, i2⟩ := keys_putF f v r
    rw [show putF f v ((k, x) :: r) = (if k = f then (k, v) :: r else (k, x) :: putF f v r) from rfl]
    by_cases hk : k = f
    · rw [if_pos hk]
      subst hk
      exact ⟨by simp, fun g h => by simpa using h⟩
    · rw [if_neg hk]
      refine ⟨?_, fun g h => ?_⟩
      · rw [List.map_cons]
        exact List.mem_cons_of_mem _ i1
      · rw [List.map_cons] at h ⊢
        rcases List.mem_cons.mp h with e | e
        · exact List.mem_cons.mpr (.inl e)
        · exact List.mem_cons_of_mem _ (i2 g e)
theorem length_putF (f : Str) (v : V) : ∀ fs : List (Str × V), (putF f v fs).length ≤ fs.length + 1
  | [] => by simp [putF]
  | (k, x) :: r => by
    have ih := length_putF f v r
    rw [show putF f v ((k, x) :: r) = (if k = f then (k, v) :: r else (k, x) :: putF f v r) from rfl]
    by_cases hk : k = f
    · rw [if_pos hk, List.length_cons, List.length_cons]; omega
    · rw [if_neg hk, List.length_cons, List.length_cons]; omega

theorem RelO.some_of {v : V} {o : Option Value} (r : RelO (some v) o) : ∃ u, o = some u ∧ RelV v u := by
  cases o with
  | none => exact (show False from r).elim
  | some u => exact ⟨u, rfl, r⟩
theorem RelO.none_of {o : Option Value} (r : RelO none o) : o = none := by
  cases o with
  | none => rfl
  | some u => exact (show False from r).elim
theorem handed_of {v : V} {u : Value} (r : RelV v u) : PySem.W.handedIn u = true := by
  cases v with
  | non => cases (show u = Value.none from r); rfl
  | bl b => cases (show u = Value.bool b from r); rfl
  | int i => obtain ⟨t, e⟩ := (show ∃ t, u = Value.int i t from r); cases e; rfl
  | str x => obtain ⟨t, e⟩ := (show ∃ t, u = Value.str x t from r); cases e; rfl
  | byt b => obtain ⟨t, e⟩ := (show ∃ t, u = Value.bytes b t from r); cases e; rfl
  | flt b => obtain ⟨t, e⟩ := (show ∃ t, u = Value.float b t from r); cases e; rfl
  | ref a => cases (show u = Value.ref a from r); rfl
  | ty n => cases (show u = Value.type n from r); rfl

section
variable {P : Program} {w : World} {H H' : Hp} {h h' : Heap} {a C dx : Addr} {fs fs' : List (Str × V)}
theorem ins_get (hok : HOk P w H h) (e : H a = some (.ins C dx fs)) : ∃ mA, ObjM h a dx C mA ∧ (∀ f, RelO (fs.lookup f) (mA f)) ∧ PySem.Within mA (fs.map (·.1)) ∧ fs.length ≤ 1000 ∧ H dx = some (.own a) := by
  obtain ⟨d, z, ne, ob, mA, n, r, q⟩ := (show ObjOk P w H h a (.ins C dx fs) from hok a _ e)
  exact ⟨mA, ⟨ob, n, ne⟩, r, q, z, d⟩
end

/-! ### what of the text a class must have -/
structure Cls (K : PySem.W.Frag) (C : Addr) : Prop where
  pg : PySem.W.plainGet K C Str.empty = true
  hd : PySem.W.hasDictIn K C = true
  po : PySem.W.plainOver K C = true
  sa : PySem.W.findIn K (.ref C) "__setattr__" = some (some (.builtin "object.__setattr__"))
theorem Cls.get {K : PySem.W.Frag} {C : Addr} (c : Cls K C) (f : Str) : PySem.W.plainGet K C f = true := c.pg
/-- no class of it has the name -/
def NoAttr (K : PySem.W.Frag) (C : Addr) (f : Str) : Prop := PySem.W.findIn K (.ref C) f = some none
theorem NoAttr.taker {K : PySem.W.Frag} {C : Addr} {f : Str} (n : NoAttr K C f) : PySem.W.takerIn K C f = some none := by
  unfold PySem.W.takerIn
  rw [show PySem.W.findIn K (.ref C) f = some none from n]
  rfl
/-- a constant of the class -/
structure Con (K : PySem.W.Frag) (C : Addr) (f : Str) (v : V) (u : Value) : Prop where
  at_ : PySem.W.findIn K (.ref C) f = some (some u)
  rel : RelV v u
  get : PySem.W.specialIn K u "__get__" = some none
  cp : PySem.W.copiedNames.contains f = false
/-- a method: a plain def of the class or of one above it -/
structure Meth (K : PySem.W.Frag) (C : Addr) (m : Str) (f : Addr) : Prop where
  at_ : PySem.W.findIn K (.ref C) m = some (some (.ref f))
  fn : PySem.W.isFn K (.ref f) = true
  kp : PySem.W.keepIn K (.ref f) = true

section
variable {X : Cx} {pins : List (Addr × Obj)} {σ : St} {H : Hp} {s : Shared} {a C dx : Addr} {fs : List (Str × V)} {f : Str} {v : V} {A : Around} {E : Value → Shared → Prop}

theorem getattr_ok {b : Bool} {Q : Value → Shared → Prop} (I : Inv X pins σ H s) (e : H a = some (.ins C dx fs)) (c : Cls X.K C) (n : NoAttr X.K C f) (l : fs.lookup f = some v)
    (h : ∀ u s', Inv X pins σ H s' → RelV v u → Q u s') : wpAny (model X.prog X.w) A (getAttr (.ref a) f b) Q E s := by
  obtain ⟨mA, O, r, _, _, _⟩ := ins_get I.hok e
  obtain ⟨u, hu, ru⟩ := RelO.some_of (v := v) (o := mA f) (by rw [← l]; exact r f)
  exact get_map I.kIn O (c.get f) c.hd n hu (handed_of ru) (h u _ (I.tok _) ru)

theorem getcon_ok {b : Bool} {u : Value} {Q : Value → Shared → Prop} (I : Inv X pins σ H s) (e : H a = some (.ins C dx fs)) (c : Cls X.K C) (k : Con X.K C f v u) (l : fs.lookup f = none)
    (h : ∀ s', Inv X pins σ H s' → Q u s') : wpAny (model X.prog X.w) A (getAttr (.ref a) f b) Q E s := by
  obtain ⟨mA, O, r, _, _, _⟩ := ins_get I.hok e
  have hn : mA f = none := RelO.none_of (by rw [← l]; exact r f)
  exact get_const I.kIn O (c.get f) c.hd k.at_ k.get k.cp hn (handed_of k.rel) (h _ (I.tok _))

theorem getmeth_ok {m : Str} {g : Addr} {pl : Sem Bool} {Q : Value × List Value → Shared → Prop} (I : Inv X pins σ H s) (e : H a = some (.ins C dx fs)) (c : Cls X.K C) (k : Meth X.K C m g) (l : fs.lookup m = none)
    (h : Q (.ref g, [.ref a]) s) : wpAny (model X.prog X.w) A (getMethod (.ref a) m pl) Q E s := by
  obtain ⟨mA, O, r, _, _, _⟩ := ins_get I.hok e
  have hn : mA m = none := RelO.none_of (by rw [← l]; exact r m)
  exact get_meth I.kIn O (c.get m) k.at_ k.fn hn h

theorem setattr_ok {y : V} {u : Value} {Q : Unit → Shared → Prop} (I : Inv X pins σ H s) (e : H a = some (.ins C dx fs)) (c : Cls X.K C) (n : NoAttr X.K C f) (hl : fs.length < 1000) (ry : RelV y u)
    (h : ∀ s', Inv X pins σ (upd H a (.ins C dx (putF f y fs))) s' → Q () s') : wpAny (model X.prog X.w) A (setAttr (.ref a) f u) Q E s := by
  obtain ⟨mA, O, r, wi, _, ho⟩ := ins_get I.hok e
  have hz : (fs.map (·.1)).length ≤ sizeLine := by rw [List.length_map, sizeLine_eq]; omega
  refine set_map I.kIn O c.sa c.po n.taker c.hd wi hz fun h' O' sb => h _ ?_
  have hd : ∃ o, h'.get? dx = some o := let ⟨o, _, _, e', _⟩ := O'.ns; ⟨o, e'⟩
  refine I.write (x := a) (e := dx) (by rw [e]; exact True.intro) (.inr ho) (fun b q hb z => (sb.2 b hb).trans z) hd ?_
  refine ⟨by rw [upd_ne O.ne]; exact ho, ?_, O.ne, O'.obj, _, O'.ns, fun g => ?_, fun g hg => ?_⟩
  · have := length_putF f y fs; omega
  · show RelO ((putF f y fs).lookup g) (if g = f then some u else mA g)
    rw [lookup_putF]
    by_cases q : g = f
    · rw [if_pos q, if_pos q]; exact ry
    · rw [if_neg q, if_neg q]; exact r g
  · by_cases q : g = f
    · rw [q]; exact (keys_putF f y fs).1
    · refine (keys_putF f y fs).2 g (wi g fun z => hg ?_)
      show (if g = f then some u else mA g) = none
      rw [if_neg q]; exact z

/-- a new instance, tracked, without attributes -/
theorem Inv.made (I : Inv X pins σ H s) : Inv X pins σ (upd (upd H s.heap.objs.size (.own (s.heap.objs.size + 1))) (s.heap.objs.size + 1) (.ins C s.heap.objs.size []))
    { s with heap := (s.heap.push PySem.W.emptyDict).push (PySem.W.instObj C s.heap.objs.size) } := by
  have e1 : (s.heap.push PySem.W.emptyDict).get? s.heap.objs.size = some PySem.W.emptyDict := Heap.get?_push_size s.heap rfl
  have e2 : ((s.heap.push PySem.W.emptyDict).push (PySem.W.instObj C s.heap.objs.size)).get? (s.heap.objs.size + 1) = some (PySem.W.instObj C s.heap.objs.size) := by
    have := Heap.get?_push_size (s.heap.push PySem.W.emptyDict) (o := PySem.W.instObj C s.heap.objs.size) rfl
    rwa [Heap.size_push] at this
  have e3 : (s.heap.push PySem.W.emptyDict).Ns s.heap.objs.size (fun _ => none) := ⟨PySem.W.emptyDict, #[], _, e1, rfl, (fun e he => absurd he (by simp)), fun _ => rfl⟩
  have I1 := I.laid (a := s.heap.objs.size) (o := .own (s.heap.objs.size + 1)) (h' := s.heap.push PySem.W.emptyDict) (t' := s.toks) (fun b u q => Heap.get?_push_of_some _ q) (Nat.le_refl _) ⟨_, e1⟩
  refine I1.laid (a := s.heap.objs.size + 1) (o := .ins C s.heap.objs.size []) (t' := s.toks) (fun b u q => Heap.get?_push_of_some _ q) (Nat.le_of_eq (Heap.size_push _ _)) ?_
  have ne : s.heap.objs.size ≠ s.heap.objs.size + 1 := Nat.ne_of_lt (Nat.lt_succ_self _)
  refine ⟨by rw [upd_ne ne, upd_same], Nat.zero_le _, ne, e2, fun _ => none, (Heap.Ns1.of_empty e3).at fun o q => Heap.get?_push_of_some _ q, fun _ => True.intro, fun y hy => absurd rfl hy⟩

/-- e.f where nothing but the object is asked: through attributeBase (super) and the last hold -/
theorem attr_of {prog : Program} {w : World} {env : Env} {e : Expr} {f : Str} {pos : Pos} {s : Shared} {Q : Value → Shared → Prop} (hb : attributeBase e f env (eval e env) = eval e env)
    (h : wpAny (model prog w) A (eval e env) (fun o s₁ => wpAny (model prog w) A (getAttr o f true) Q E s₁) E s) : wpAny (model prog w) A (eval (.Attribute e f pos) env) Q E s :=
  Attribute_any_ h (by rw [arm_eval_Attribute, hb])
end

/-! ### readings and rules -/
/-- e.f, an attribute of the instance -/
def tFld (K : PySem.W.Frag) (ta : TE) (f : Str) : TE := fun σ H Q => ta σ H fun x H1 => ∃ a C dx fs v, x = .ref a ∧ H1 a = some (.ins C dx fs) ∧ Cls K C ∧ NoAttr K C f ∧ fs.lookup f = some v ∧ Q v H1
/-- e.f, a constant of the class -/
def tCon (K : PySem.W.Frag) (ta : TE) (f : Str) : TE := fun σ H Q => ta σ H fun x H1 => ∃ a C dx fs v u, x = .ref a ∧ H1 a = some (.ins C dx fs) ∧ Cls K C ∧ Con K C f v u ∧ fs.lookup f = none ∧ Q v H1
/-- e.f = value -/
def sFld (K : PySem.W.Frag) (ta tv : TE) (f : Str) : TS := fun D σ H => tv σ H fun y H1 => ta σ H1 fun x H2 => ∃ a C dx fs, x = .ref a ∧ H2 a = some (.ins C dx fs) ∧ Cls K C ∧ NoAttr K C f ∧ fs.length < 1000 ∧
  D.nx σ (upd H2 a (.ins C dx (putF f y fs)))
/-- an augmented operator on two values -/
def InOp (X : Cx) (op : Operator) (rd : V → V → Hp → VK → Prop) : Prop :=
  ∀ (pins : List (Addr × Obj)) (s : Shared) (σ : St) (H : Hp) (x y : V) (u v : Value) (Q : VK), Inv X pins σ H s → RelV x u → RelV y v → rd x y H Q → wpAny (model X.prog X.w) X.A (inplaceOp op u v) (EP X pins σ Q) X.xe s
/-- e.f op= value -/
def sFldAug (K : PySem.W.Frag) (ta tv : TE) (rd : V → V → Hp → VK → Prop) (f : Str) : TS := fun D σ H => ta σ H fun x H1 => ∃ a C dx fs v, x = .ref a ∧ H1 a = some (.ins C dx fs) ∧ Cls K C ∧ NoAttr K C f ∧ fs.lookup f = some v ∧
  tv σ H1 fun y H2 => rd v y H2 fun z H3 => ∃ dx' fs', H3 a = some (.ins C dx' fs') ∧ fs'.length < 1000 ∧ D.nx σ (upd H3 a (.ins C dx' (putF f z fs')))

section
variable {X : Cx} {o e value : Expr} {f : Str} {pos pos' tpos : Pos} {ta tv : TE}
theorem pe_fld (he : PE X e ta) (hb : attributeBase e f X.env (eval e X.env) = eval e X.env) : PE X (.Attribute e f pos) (tFld X.K ta f) := by
  intro pins s σ H Q I h
  refine attr_of hb (thn (he pins s σ H _ I h) fun u s1 ⟨x, H1, I1, rx, a, C, dx, fs, v, ex, ea, c, n, l, q⟩ => ?_)
  subst ex
  obtain rfl : u = Value.ref a := rx
  exact getattr_ok I1 ea c n l fun u' s2 I2 ru => ⟨v, H1, I2, ru, q⟩
theorem pe_con (he : PE X e ta) (hb : attributeBase e f X.env (eval e X.env) = eval e X.env) : PE X (.Attribute e f pos) (tCon X.K ta f) := by
  intro pins s σ H Q I h
  refine attr_of hb (thn (he pins s σ H _ I h) fun u s1 ⟨x, H1, I1, rx, a, C, dx, fs, v, u0, ex, ea, c, k, l, q⟩ => ?_)
  subst ex
  obtain rfl : u = Value.ref a := rx
  exact getcon_ok I1 ea c k l fun s2 I2 => ⟨v, H1, I2, k.rel, q⟩
theorem ps_fld (ha : PE X o ta) (hv : PE X value tv) (hs : swapsWith value (some (.Attribute o f pos')) pos.line X.env = pure false) : PS X (.Assign [.Attribute o f pos'] value pos) (sFld X.K ta tv f) := by
  intro pins s σ H D I h
  refine plainObj_wpAny_Assign_Attribute (thn (hv pins s σ H _ I h) fun u s1 ⟨y, H1, I1, ry, q⟩ => thn (ha pins s1 σ H1 _ I1 q) fun ov s2 ⟨x, H2, I2, rx, a, C, dx, fs, ex, ea, c, n, l, q2⟩ => ?_) hs
  subst ex
  obtain rfl : ov = Value.ref a := rx
  exact setattr_ok I2 ea c n l ry fun s3 I3 => ⟨σ, _, I3, q2⟩
theorem ps_fldaug {op : Operator} {rd : V → V → Hp → VK → Prop} (ha : PE X o ta) (hv : PE X value tv) (hop : InOp X op rd) : PS X (.AugAssign (.Attribute o f tpos) op value pos) (sFldAug X.K ta tv rd f) := by
  intro pins s σ H D I h
  refine wpAny_AugAssign_AttributeAny (thn (ha pins s σ H _ I h) fun ov s1 ⟨x, H1, I1, rx, a, C, dx, fs, v, ex, ea, c, n, l, q⟩ => ?_)
  subst ex
  obtain rfl : ov = Value.ref a := rx
  refine getattr_ok I1 ea c n l fun u s2 I2 ru => thn (hv pins s2 σ H1 _ I2 q) fun w3 s3 ⟨y, H2, I3, ry, q3⟩ => thn (hop pins s3 σ H2 v y u w3 _ I3 ru ry q3) fun w4 s4 ⟨z, H3, I4, rz, dx', fs', ea', l', q4⟩ => ?_
  exact setattr_ok I4 ea' c n l' rz fun s5 I5 => ⟨σ, _, I5, q4⟩
def rAdd : V → V → Hp → VK → Prop := fun x y H Q => ∃ i j, x = .int i ∧ y = .int j ∧ Q (.int (i + j)) H
def rSub : V → V → Hp → VK → Prop := fun x y H Q => ∃ i j, x = .int i ∧ y = .int j ∧ Q (.int (i - j)) H
theorem in_add : InOp X .Add rAdd := by
  rintro pins s σ H x y u v Q I rx ry ⟨i, j, rfl, rfl, q⟩
  obtain ⟨t, rfl⟩ := (show ∃ t, u = Value.int i t from rx)
  obtain ⟨t', rfl⟩ := (show ∃ t', v = Value.int j t' from ry)
  exact PyProof.Rows.iadd_int ⟨.int (i + j), H, I.tok _, ⟨_, rfl⟩, q⟩
theorem in_sub : InOp X .Sub rSub := by
  rintro pins s σ H x y u v Q I rx ry ⟨i, j, rfl, rfl, q⟩
  obtain ⟨t, rfl⟩ := (show ∃ t, u = Value.int i t from rx)
  obtain ⟨t', rfl⟩ := (show ∃ t', v = Value.int j t' from ry)
  exact PyProof.Rows.isub_int ⟨.int (i - j), H, I.tok _, ⟨_, rfl⟩, q⟩

/-- what is between an instance and its method: the tree of a method call -/
theorem methcall_of {pl : Sem Bool} {m : Str} {apos : Pos} {args : List Expr} {pins : List (Addr × Obj)} {s : Shared} {σ : St} {H : Hp} {Q : Value → Shared → Prop} {te : TE} (he : PE X e te) (I : Inv X pins σ H s)
    (h : te σ H fun x H1 => ∃ a C dx fs g, x = .ref a ∧ H1 a = some (.ins C dx fs) ∧ Cls X.K C ∧ Meth X.K C m g ∧ fs.lookup m = none ∧
      ∀ s1, Inv X pins σ H1 s1 → wpAny (model X.prog X.w) X.A (callWith pos (.ref g) [.ref a] (backTo pos (starEach args X.env)) (backToKw pos (keywordEach [] X.env))) Q X.xe s1)
    (ht : eval (.Call (.Attribute e m apos) args [] pos) X.env = (do
      let ov ← eval e X.env
      standAt apos.atName
      let (f, first) ← holding [ov] (getMethod ov m pl)
      callWith pos f first (backTo pos (starEach args X.env)) (backToKw pos (keywordEach [] X.env)))) :
    wpAny (model X.prog X.w) X.A (eval (.Call (.Attribute e m apos) args [] pos) X.env) Q X.xe s := by
  refine PySem.W.methodCall_KW (pl := pl) (thn (he pins s σ H _ I h) fun u s1 ⟨x, H1, I1, rx, a, C, dx, fs, g, ex, ea, c, k, l, q⟩ => ?_) ht
  subst ex
  obtain rfl : u = Value.ref a := rx
  exact getmeth_ok I1 ea c k l (q s1 I1)
end

/-! ### isinstance -/
section
variable {X : Cx} {pins : List (Addr × Obj)} {σ : St} {H : Hp} {s : Shared} {A : Around} {E : Value → Shared → Prop} {Q : Value → Shared → Prop} {c : Value} {b : Bool}
/-- the type of a value, as the fragment's deciders take it; for an instance its class -/
inductive TyOf (K : PySem.W.Frag) (H : Hp) : V → Value → Prop where
  | non : TyOf K H .non (.type "NoneType")
  | bl (x : Bool) : TyOf K H (.bl x) (.type "bool")
  | int (i : Int) : TyOf K H (.int i) (.type "int")
  | str (x : Str) : TyOf K H (.str x) (.type "str")
  | flt (x : UInt64) : TyOf K H (.flt x) (.type "float")
  | lst {a : Addr} {xs : List V} (e : H a = some (.lst xs)) : TyOf K H (.ref a) (.type "list")
  | frz {a : Addr} {o : Obj} {xs : List V} (e : H a = some (.frz o (.lst xs))) : TyOf K H (.ref a) (.type "list")
  | tup {a : Addr} {xs : List V} (e : H a = some (.tup xs)) : TyOf K H (.ref a) (.type "tuple")
  | dK {a : Addr} {kvs : List (Key × V)} (e : H a = some (.dK kvs)) : TyOf K H (.ref a) (.type "dict")
  | dT {a : Addr} {kvs : List (List Key × V)} (e : H a = some (.dT kvs)) : TyOf K H (.ref a) (.type "dict")
  | ins {a C dx : Addr} {fs : List (Str × V)} (e : H a = some (.ins C dx fs)) (cl : Cls K C) (ha : PySem.W.findIn K (.ref C) "__class__" = some (some (.builtin "object.__class__")))
      (hn : PySem.W.specialIn K (.builtin "object.__class__") "__get__" = some (some (.builtin "getset_descriptor.__get__"))) (htk : PySem.W.takesIn K (.builtin "object.__class__") = some true)
      (hm : PySem.W.mroIn K C (.type "object") = some true) : TyOf K H (.ref a) (.ref C)
/-- isinstance(x, c) for one class c, a built-in or an own one: kitOne's answer -/
theorem isinst_ok {x : V} {u t : Value} (I : Inv X pins σ H s) (rx : RelV x u) (ty : TyOf X.K H x t) (e : PySem.W.kitOne X.K t c = some b) (h : ∀ tk, Q (.bool b) { s with toks := tk }) :
    wpAny (model X.prog X.w) A (call (.builtin "isinstance") [u, c]) Q E s := by
  cases ty with
  | non => cases (show u = Value.none from rx); exact PySem.W.kia_one PySem.W.kitx_none I.kIn True.intro e (fun z => nomatch z) h
  | bl y => cases (show u = Value.bool y from rx); exact PySem.W.kia_one PySem.W.kitx_bool I.kIn True.intro e (fun z => nomatch z) h
  | int i => obtain ⟨t, q⟩ := (show ∃ t, u = Value.int i t from rx); cases q; exact PySem.W.kia_one PySem.W.kitx_int I.kIn True.intro e (fun z => nomatch z) h
  | str y => obtain ⟨t, q⟩ := (show ∃ t, u = Value.str y t from rx); cases q; exact PySem.W.kia_one PySem.W.kitx_str I.kIn True.intro e (fun z => nomatch z) h
  | flt y => obtain ⟨t, q⟩ := (show ∃ t, u = Value.float y t from rx); cases q; exact PySem.W.kia_one PySem.W.kitx_float I.kIn True.intro e (fun z => nomatch z) h
  | @lst a xs ea =>
    cases (show u = Value.ref a from rx)
    obtain ⟨_, _, n, _, h1⟩ := (show ObjOk X.prog X.w H s.heap a (.lst xs) from I.hok a _ ea)
    exact PySem.W.kia_one PySem.W.kitx_list I.kIn ⟨_, h1, rfl⟩ e (fun z => nomatch z) h
  | @frz a ob xs ea =>
    cases (show u = Value.ref a from rx)
    obtain ⟨_, _, _, n, _, h1⟩ := (show ObjOk X.prog X.w H s.heap a (.frz ob (.lst xs)) from I.hok a _ ea)
    exact PySem.W.kia_one PySem.W.kitx_list I.kIn ⟨_, h1, rfl⟩ e (fun z => nomatch z) h
  | @tup a xs ea =>
    cases (show u = Value.ref a from rx)
    obtain ⟨_, _, _, p⟩ := (show ObjOk X.prog X.w H s.heap a (.tup xs) from I.hok a _ ea)
    obtain ⟨o, h1, h2, _⟩ := p
    exact PySem.W.kia_one PySem.W.kitx_tuple I.kIn ⟨o, h1, h2⟩ e (fun z => nomatch z) h
  | @dK a kvs ea =>
    cases (show u = Value.ref a from rx)
    obtain ⟨_, _, vs, _, p⟩ := (show ObjOk X.prog X.w H s.heap a (.dK kvs) from I.hok a _ ea)
    obtain ⟨o, es, ep, h1, h2, _⟩ := p
    exact PySem.W.kia_one PySem.W.kitx_dict I.kIn ⟨o, h1, h2.1⟩ e (fun z => nomatch z) h
  | @dT a kvs ea =>
    cases (show u = Value.ref a from rx)
    obtain ⟨_, _, xs, _, o, es, ep, h1, h2, _⟩ := (show ObjOk X.prog X.w H s.heap a (.dT kvs) from I.hok a _ ea)
    exact PySem.W.kia_one PySem.W.kitx_dict I.kIn ⟨o, h1, h2.1⟩ e (fun z => nomatch z) h
  | @ins a C dx fs ea cl ha hn htk hm =>
    cases (show u = Value.ref a from rx)
    obtain ⟨mA, O, _⟩ := ins_get I.hok ea
    obtain ⟨od, J, _⟩ := O.look
    exact PySem.W.kia_one (PySem.W.kitx_own (cl.get _) cl.hd ha hn htk hm) I.kIn J e (fun z => nomatch z) h
end
end L2

namespace L2
open PySem PySem.Spec PyProof.Rows

/-! ### room -/
structure Room (k : Nat) (A : Around) : Prop where
  hd : A.handled = none
  dp : A.depth + 3 * k + 5 < recursionLimit
  un : A.units + 16 * k + 200 < cLine
  gd : A.guards = some []
theorem Room.mono {j k : Nat} {A : Around} (r : Room k A) (h : j ≤ k) : Room j A := ⟨r.hd, by have := r.dp; omega, by have := r.un; omega, r.gd⟩
theorem Room.deeper {k : Nat} {A : Around} (r : Room (k + 1) A) (env : Env) : Room k (A.deeper env) :=
  ⟨r.hd, by have := r.dp; show A.depth + 1 + 3 * k + 5 < _; omega, by have := r.un; show A.units + 3 + 16 * k + 200 < _; omega, r.gd⟩
theorem Room.in1 {k : Nat} {A : Around} (r : Room (k + 1) A) : Room k A.in1 :=
  ⟨r.hd, by have := r.dp; show A.depth + 3 * k + 5 < _; omega, by have := r.un; show A.units + 1 + 16 * k + 200 < _; omega, r.gd⟩
theorem make_depth {A : Around} {C : Addr} {us : List Value} {kw : List (Str × Value)} : (A.under (.builtin "type.__call__" ⟨.ref C :: us, kw⟩)).depth = A.depth + 1 := by
  first | rfl | simp [Around.under, Code.weight, Code.isCreation, Code.isGuard, Code.isCaller, Code.frames, Code.isFrame, guardIds]
theorem make_units {A : Around} {C : Addr} {us : List Value} {kw : List (Str × Value)} : (A.under (.builtin "type.__call__" ⟨.ref C :: us, kw⟩)).units = A.units + 1 := by
  first | rfl | simp [Around.under, Code.cUnits, Code.frames, Code.isFrame]
theorem Room.make {k : Nat} {A : Around} (r : Room (k + 1) A) (C : Addr) (us : List Value) (kw : List (Str × Value)) : Room k (A.under (.builtin "type.__call__" ⟨.ref C :: us, kw⟩)) :=
  ⟨r.hd, by have := r.dp; rw [make_depth]; omega, by have := r.un; rw [make_units]; omega, by first | exact r.gd | (simpa [Around.under, Code.guards, pushGuards, Code.isGuard, guardIds] using r.gd)⟩
theorem Room.depth {k : Nat} {A : Around} (r : Room k A) : A.depth < recursionLimit := by have := r.dp; omega
theorem Room.units {k : Nat} {A : Around} (r : Room k A) : A.units + 64 < cLine := by have := r.un; omega
theorem Room.units0 {k : Nat} {A : Around} (r : Room k A) : A.units < cLine := by have := r.un; omega

/-! ### argument lists and displays -/
def tNil : TA := fun _ H Q => Q [] H
def tCons (ta : TE) (tr : TA) : TA := fun σ H Q => ta σ H fun x H1 => tr σ H1 fun xs H2 => Q (x :: xs) H2
section
variable {X : Cx} {e : Expr} {es : List Expr} {te : TE} {t : TA} {pos : Pos}
theorem pa_nil : PA X [] tNil := fun _ _ _ _ H Q I h => Calls.spliced_nil ⟨[], H, I, .nil, h⟩
theorem pa_cons (ha : PE X e te) (hr : PA X es t) (hs : starEach (e :: es) X.env = (false, eval e X.env) :: starEach es X.env := by rfl) : PA X (e :: es) (tCons te t) := by
  intro pos pins s σ H Q I h
  rw [hs]
  show wpAny _ _ (spliced ((false, eval e X.env) :: backTo pos (starEach es X.env))) _ _ s
  refine Calls.spliced_cons (thn (ha pins s σ H _ I h) fun u s1 ⟨x, H1, I1, r1, q1⟩ => ?_)
  exact thn (hr pos pins s1 σ H1 _ I1 q1) fun us s2 ⟨xs, H2, I2, r2, q2⟩ => ⟨x :: xs, H2, I2, .cons r1 r2, q2⟩

/-- a tuple, a list of written items -/
def tTup (t : TA) : TE := fun σ H Q => t σ H fun xs H1 => xs.length ≤ sizeLine ∧ ∀ p, H1 p = none → Q (.ref p) (upd H1 p (.tup xs))
def tLst (t : TA) : TE := fun σ H Q => t σ H fun xs H1 => xs.length ≤ sizeLine ∧ ∀ p, H1 p = none → Q (.ref p) (upd H1 p (.lst xs))
theorem pe_tup {x1} (h : PA X es t) : PE X (.Tuple es x1 pos) (tTup t) := by
  intro pins s σ H Q I hq
  refine wpAny_Tuple_spliced (thn (h pos pins s σ H _ I hq) fun us s1 ⟨xs, H1, I1, r, z, q⟩ => ⟨by rw [← r.length]; exact z, ?_⟩)
  have hf : H1 s1.heap.objs.size = none := I1.hok.fresh (Nat.le_refl _)
  refine ⟨.ref s1.heap.objs.size, upd H1 s1.heap.objs.size (.tup xs), I1.laid (t' := s1.toks) (fun b u e => Heap.get?_push_of_some _ e) (Nat.le_refl _) ?_, rfl, q _ hf⟩
  exact ⟨z, us, r, ⟨_, Heap.get?_push_size _ rfl, rfl, _, rfl⟩⟩
theorem pe_lst (h : PA X es t) : PE X (.List es pos) (tLst t) := by
  intro pins s σ H Q I hq
  refine wpAny_List_spliced (thn (h pos pins s σ H _ I hq) fun us s1 ⟨xs, H1, I1, r, z, q⟩ => ⟨by rw [← r.length]; exact z, ?_⟩)
  have hf : H1 s1.heap.objs.size = none := I1.hok.fresh (Nat.le_refl _)
  refine ⟨.ref s1.heap.objs.size, upd H1 s1.heap.objs.size (.lst xs), I1.laid (t' := s1.toks) (fun b u e => Heap.get?_push_of_some _ e) (Nat.le_refl _) ?_, rfl, q _ hf⟩
  exact ⟨z, us, 0, r, Heap.get?_push_size _ rfl⟩
end

/-! ### what a def promises -/
/-- a def's promise: the bound arguments in the parameters' order, the heap, the wanted end, the wanted exception -/
abbrev Sp := List V → Hp → VK → XK → Prop
/-- how an exception lies behind a call (file 08 gives it): the callers' frames, abstract heap and state ahead of the call, the wish, the exception, the state -/
abbrev CXT := List Env → Hp → Shared → XK → Value → Shared → Prop

/-- the state at a call -/
structure Env0 (P : Program) (w : World) (K : PySem.W.Frag) (mg : Str → Option Value) (base : Heap) (A : Around) (outer : List Env) (s : Shared) (H : Hp) : Prop where
  frames : A.frames = some outer
  mod : Mod K mg base
  bs : ∀ b o, base.get? b = some o → s.heap.get? b = some o ∧ H b = none
  bsz : base.objs.size ≤ s.heap.objs.size
  funs : s.heap.FunFrames base outer
  frf : ∀ b ∈ frs outer, H b = none
  hok : HOk P w H s.heap
  bare : AllBare s.gens
/-- a call's end -/
def CE (outer : List Env) (P : Program) (w : World) (H : Hp) (s : Shared) (Q : VK) (u : Value) (s' : Shared) : Prop :=
  ∃ v H', s'.os = s.os ∧ AllBare s'.gens ∧ Un (frs outer) [] H H' s.heap s'.heap ∧ HOk P w H' s'.heap ∧ RelV v u ∧ Q v H'
def CR (CX : CXT) (outer : List Env) (P : Program) (w : World) (H : Hp) (s : Shared) (Q : VK) (E : XK) (r : Result) (s' : Shared) : Prop :=
  match r with
  | .ok (.ret u) => CE outer P w H s Q u s'
  | .ok _ => False
  | .error e => CX outer H s E e s'
structure FnOk (P : Program) (w : World) (K : PySem.W.Frag) (mg : Str → Option Value) (base : Heap) (CX : CXT) (k : Nat) (f : Addr) (fd : FuncData) (ps : List Str) (sp : Sp) : Prop where
  len : ∀ vs H Q E, sp vs H Q E → vs.length = ps.length
  run : ∀ (A : Around) (outer : List Env) (s : Shared) (H : Hp) (args : Args) (us : List Value) (vs : List V) (Q : VK) (E : XK), Room k A → Env0 P w K mg base A outer s H → BindsTo s fd args (ps.zip us) → Vals vs us → sp vs H Q E →
    codeAny (model P w) A (.call (.ref f) args) (CR CX outer P w H s Q E) s
theorem FnOk.mono {P : Program} {w : World} {K : PySem.W.Frag} {mg : Str → Option Value} {base : Heap} {CX : CXT} {j k : Nat} {f : Addr} {fd : FuncData} {ps : List Str} {sp : Sp} (F : FnOk P w K mg base CX j f fd ps sp) (h : j ≤ k) :
    FnOk P w K mg base CX k f fd ps sp := ⟨F.len, fun A outer s H args us vs Q E hr => F.run A outer s H args us vs Q E (hr.mono h)⟩
/-- a weaker promise -/
theorem FnOk.imp {P : Program} {w : World} {K : PySem.W.Frag} {mg : Str → Option Value} {base : Heap} {CX : CXT} {k : Nat} {f : Addr} {fd : FuncData} {ps : List Str} {sp sp' : Sp} (F : FnOk P w K mg base CX k f fd ps sp)
    (h : ∀ vs H Q E, sp' vs H Q E → sp vs H Q E) : FnOk P w K mg base CX k f fd ps sp' :=
  ⟨fun vs H Q E q => F.len vs H Q E (h _ _ _ _ q), fun A outer s H args us vs Q E hr he hb hv hs => F.run A outer s H args us vs Q E hr he hb hv (h _ _ _ _ hs)⟩

theorem Env0.make {P : Program} {w : World} {K : PySem.W.Frag} {mg : Str → Option Value} {base : Heap} {A : Around} {outer : List Env} {s : Shared} {H : Hp} (e : Env0 P w K mg base A outer s H) (C : Addr) (us : List Value) (kw : List (Str × Value)) :
    Env0 P w K mg base (A.under (.builtin "type.__call__" ⟨.ref C :: us, kw⟩)) outer s H := ⟨by first | exact e.frames | (simpa [Around.under, Code.envs, Code.isFrame, pushEnvs] using e.frames), e.mod, e.bs, e.bsz, e.funs, e.frf, e.hok, e.bare⟩
theorem Env0.in1 {P : Program} {w : World} {K : PySem.W.Frag} {mg : Str → Option Value} {base : Heap} {A : Around} {outer : List Env} {s : Shared} {H : Hp} (e : Env0 P w K mg base A outer s H) :
    Env0 P w K mg base A.in1 outer s H := ⟨e.frames, e.mod, e.bs, e.bsz, e.funs, e.frf, e.hok, e.bare⟩

section
variable {X : Cx} {pins : List (Addr × Obj)} {σ : St} {H : Hp} {s s' : Shared}
/-- from a body: what a callee wants -/
theorem Inv.env0 (I : Inv X pins σ H s) : Env0 X.prog X.w X.K X.mg X.base X.A X.stack s H :=
  ⟨I.ok.frames, I.ok.mod, I.bs, Nat.le_trans I.ok.bsz I.sz, I.stack, I.stkFree, I.hok, I.bare⟩
/-- behind a call -/
theorem Inv.after {Q : VK} {u : Value} (I : Inv X pins σ H s) (h : CE X.stack X.prog X.w H s Q u s') : EP X pins σ Q u s' := by
  obtain ⟨v, H', os, bare, un, hok, r, q⟩ := h
  obtain ⟨hh, g, d, t, os'⟩ := s'
  obtain rfl : os' = s.os := os
  exact ⟨v, H', I.call (h' := hh) (g' := g) (d' := d) (t' := t) (ch := []) un hok bare (fun b z => absurd z (by simp)), r, q⟩
end

/-! ### calls -/
/-- f(..): the written arguments, then the defaults dvs; E: what is wanted of an exception -/
def tCall (sp : Sp) (dvs : List V) (E : XK) (t : TA) : TE := fun σ H Q => t σ H fun vs H1 => sp (vs ++ dvs) H1 Q E
/-- o.m(..) of an instance of the class at C -/
def tMeth (C : Addr) (m : Str) (sp : Sp) (dvs : List V) (E : XK) (ta : TE) (t : TA) : TE := fun σ H Q => ta σ H fun x H1 => ∃ a dx fs, x = .ref a ∧ H1 a = some (.ins C dx fs) ∧ fs.lookup m = none ∧
  t σ H1 fun vs H2 => sp (x :: (vs ++ dvs)) H2 Q E
/-- C(..): a new instance and its dict, then __init__ -/
def tMake (C : Addr) (sp : Sp) (dvs : List V) (E : XK) (t : TA) : TE := fun σ H Q => t σ H fun vs H1 => ∀ x dx, H1 x = none → H1 dx = none → dx ≠ x →
  sp (.ref x :: (vs ++ dvs)) (upd (upd H1 dx (.own x)) x (.ins C dx [])) (fun v H2 => v = .non ∧ Q (.ref x) H2) E

/-- how the parameters are bound: us the positional arguments, kw the keywords' values by name, ds the defaults that fill up -/
def Binds (K : PySem.W.Frag) (fd : FuncData) (ps : List Str) (ds : List Value) : Prop :=
  ∀ (s : Shared) (us : List Value), K.In s.heap → (us ++ ds).length = ps.length → BindsTo s fd ⟨us, []⟩ (ps.zip (us ++ ds))
/-- every parameter is given -/
theorem Binds.all {K : PySem.W.Frag} {fd : FuncData} {ps : List Str} (h : ∀ us : List Value, us.length = ps.length → bindArgs fd ⟨us, []⟩ = pure (ps.zip us)) : Binds K fd ps [] := fun s us _ hl => by
  rw [List.append_nil] at hl ⊢
  exact .of_eq (h us hl)

/-- an exception of a callee reaches what this body wants of exceptions -/
def Passes (CX : CXT) (X : Cx) (E : XK) : Prop := ∀ (pins : List (Addr × Obj)) (σ : St) (H : Hp) (s : Shared) (e : Value) (s' : Shared), Inv X pins σ H s → CX X.stack H s E e s' → X.xe e s'

section
variable {X : Cx} {CX : CXT} {k : Nat} {f C : Addr} {fd : FuncData} {ps : List Str} {sp : Sp} {dvs : List V} {ds : List Value} {E : XK} {x m : Str} {p pos apos : Pos} {e o : Expr} {es : List Expr} {ta : TE} {t : TA}

/-- the callee runs -/
theorem run_fn {pins : List (Addr × Obj)} {σ : St} {H : Hp} {s : Shared} {Q : VK} {us : List Value} {vs : List V} (F : FnOk X.prog X.w X.K X.mg X.base CX k f fd ps sp) (hr : Room k X.A) (hb : Binds X.K fd ps ds) (hd : Vals dvs ds) (hx : Passes CX X E)
    (I : Inv X pins σ H s) (r : Vals vs us) (h : sp (vs ++ dvs) H Q E) : wpAny (model X.prog X.w) X.A (call (.ref f) us) (EP X pins σ Q) X.xe s := by
  have r2 : Vals (vs ++ dvs) (us ++ ds) := r.append hd
  have hl : (us ++ ds).length = ps.length := by rw [← r2.length]; exact F.len _ _ _ _ h
  refine wpAny_call (codeAny_mono (F.run X.A X.stack s H ⟨us, []⟩ (us ++ ds) (vs ++ dvs) Q E hr I.env0 (hb s us I.kIn hl) r2 h) fun r s' hq => ?_)
  cases r with
  | error e => exact hx pins σ H s e s' I hq
  | ok fl =>
    cases fl with
    | ret u => exact I.after hq
    | next => exact False.elim hq
    | brk => exact False.elim hq
    | cont => exact False.elim hq

theorem pe_call (F : FnOk X.prog X.w X.K X.mg X.base CX k f fd ps sp) (hr : Room k X.A) (hg : Gl X x) (hm : X.mg x = some (.ref f)) (hk : PySem.W.keepIn X.K (.ref f) = true) (hb : Binds X.K fd ps ds) (hd : Vals dvs ds) (hx : Passes CX X E)
    (ha : PA X (e :: es) t) (hdb : (x == ("__debug__" : Str)) = false := by decide) (he : starEach (e :: es) X.env = (false, eval e X.env) :: starEach es X.env := by rfl) (hpl : (backTo pos (starEach es X.env)).any (·.1) = false := by rfl) :
    PE X (.Call (.Name x p) (e :: es) [] pos) (tCall sp dvs E t) := by
  intro pins s σ H Q I h
  refine wpAny_Call_Name_kw (ld_glob I hg hm ?_ hdb)
  refine PySem.W.callWith_K (h₀ := X.base) I.ok.mod.kin hk (thn (ha pos pins s σ H _ I h) fun us s1 ⟨vs, H1, I1, r, q⟩ => ⟨I1.kIn, ?_⟩) he hpl
  exact run_fn F hr hb hd hx I1 r q
theorem pe_call0 (F : FnOk X.prog X.w X.K X.mg X.base CX k f fd ps sp) (hr : Room k X.A) (hg : Gl X x) (hm : X.mg x = some (.ref f)) (hk : PySem.W.keepIn X.K (.ref f) = true) (hb : Binds X.K fd ps ds) (hd : Vals dvs ds) (hx : Passes CX X E)
    (hdb : (x == ("__debug__" : Str)) = false := by decide) : PE X (.Call (.Name x p) [] [] pos) (tCall sp dvs E tNil) := by
  intro pins s σ H Q I h
  refine wpAny_Call_Name_kw (ld_glob I hg hm ?_ hdb)
  exact PySem.W.callWith_K0 I.kIn hk (run_fn (us := []) F hr hb hd hx I .nil h)

/-- o.m(e, ..) -/
theorem pe_meth {pl : Sem Bool} (he : PE X o ta) (c : Cls X.K C) (hm : Meth X.K C m f) (F : FnOk X.prog X.w X.K X.mg X.base CX k f fd ps sp) (hr : Room k X.A) (hb : Binds X.K fd ps ds) (hd : Vals dvs ds) (hx : Passes CX X E) (ha : PA X (e :: es) t)
    (hst : starEach (e :: es) X.env = (false, eval e X.env) :: starEach es X.env := by rfl) (hpl : (backTo pos (starEach es X.env)).any (·.1) = false := by rfl)
    (ht : eval (.Call (.Attribute o m apos) (e :: es) [] pos) X.env = (do
      let ov ← eval o X.env
      standAt apos.atName
      let (f, first) ← holding [ov] (getMethod ov m pl)
      callWith pos f first (backTo pos (starEach (e :: es) X.env)) (backToKw pos (keywordEach [] X.env))) := by rfl) :
    PE X (.Call (.Attribute o m apos) (e :: es) [] pos) (tMeth C m sp dvs E ta t) := by
  intro pins s σ H Q I h
  refine PySem.W.methodCall_KW (pl := pl) (thn (he pins s σ H _ I h) fun u s1 ⟨x, H1, I1, rx, a, dx, fs, ex, ea, l, q⟩ => ?_) ht
  subst ex
  obtain rfl : u = Value.ref a := rx
  refine getmeth_ok I1 ea c hm l ?_
  refine PySem.W.callWith_K (first := [.ref a]) (h₀ := X.base) I.ok.mod.kin hm.kp (thn (ha pos pins s1 σ H1 _ I1 q) fun us s2 ⟨vs, H2, I2, r, q2⟩ => ⟨I2.kIn, ?_⟩) hst hpl
  exact run_fn (us := .ref a :: us) (vs := .ref a :: vs) F hr hb hd hx I2 (.cons rfl r) q2
/-- o.m() -/
theorem pe_meth0 {pl : Sem Bool} (he : PE X o ta) (c : Cls X.K C) (hm : Meth X.K C m f) (F : FnOk X.prog X.w X.K X.mg X.base CX k f fd ps sp) (hr : Room k X.A) (hb : Binds X.K fd ps ds) (hd : Vals dvs ds) (hx : Passes CX X E)
    (ht : eval (.Call (.Attribute o m apos) [] [] pos) X.env = (do
      let ov ← eval o X.env
      standAt apos.atName
      let (f, first) ← holding [ov] (getMethod ov m pl)
      callWith pos f first (backTo pos (starEach [] X.env)) (backToKw pos (keywordEach [] X.env))) := by rfl) :
    PE X (.Call (.Attribute o m apos) [] [] pos) (tMeth C m sp dvs E ta tNil) := by
  intro pins s σ H Q I h
  refine PySem.W.methodCall_KW (pl := pl) (thn (he pins s σ H _ I h) fun u s1 ⟨x, H1, I1, rx, a, dx, fs, ex, ea, l, q⟩ => ?_) ht
  subst ex
  obtain rfl : u = Value.ref a := rx
  refine getmeth_ok I1 ea c hm l ?_
  exact PySem.W.callWith_K0 (first := [.ref a]) I1.kIn hm.kp (run_fn (us := [.ref a]) (vs := [.ref a]) F hr hb hd hx I1 (.cons rfl .nil) q)

/-- what a class must have to be made -/
structure Mk (K : PySem.W.Frag) (C f : Addr) : Prop where
  makes : PySem.W.makesIn K C = true
  init : PySem.W.findIn K (.ref C) "__init__" = some (some (.ref f))
  fn : PySem.W.isFn K (.ref f) = true
  kp : PySem.W.keepIn K (.ref C) = true

theorem run_make {pins : List (Addr × Obj)} {σ : St} {H : Hp} {s : Shared} {Q : VK} {us : List Value} {vs : List V} (M : Mk X.K C f) (F : FnOk X.prog X.w X.K X.mg X.base CX k f fd ps sp) (hr : Room (k + 1) X.A) (hb : Binds X.K fd ps ds) (hd : Vals dvs ds)
    (hx : Passes CX X E) (I : Inv X pins σ H s) (r : Vals vs us)
    (h : ∀ x dx, H x = none → H dx = none → dx ≠ x → sp (.ref x :: (vs ++ dvs)) (upd (upd H dx (.own x)) x (.ins C dx [])) (fun v H2 => v = .non ∧ Q (.ref x) H2) E) :
    wpAny (model X.prog X.w) X.A (call (.ref C) us) (EP X pins σ Q) X.xe s := by
  have hq := h (s.heap.objs.size + 1) s.heap.objs.size (I.hok.fresh (Nat.le_succ _)) (I.hok.fresh (Nat.le_refl _)) (Nat.ne_of_lt (Nat.lt_succ_self _))
  have I2 := Inv.made (C := C) I
  have r2 : Vals (V.ref (s.heap.objs.size + 1) :: (vs ++ dvs)) (Value.ref (s.heap.objs.size + 1) :: (us ++ ds)) := .cons rfl (r.append hd)
  have hl : (Value.ref (s.heap.objs.size + 1) :: us ++ ds).length = ps.length := by
    have e := r2.length
    rw [F.len _ _ _ _ hq] at e
    exact e.symm
  refine wpAny_call (make_map (f := f) I.kIn M.makes M.init (beq_iff_eq.mp M.fn) (codeAny_mono (F.run _ X.stack _ _ ⟨Value.ref (s.heap.objs.size + 1) :: us, []⟩ (Value.ref (s.heap.objs.size + 1) :: (us ++ ds)) _ _ E (hr.make C us [])
    (I2.env0.make C us []) (hb _ (Value.ref (s.heap.objs.size + 1) :: us) I2.kIn hl) r2 hq) fun r s' hq' => ?_))
  cases r with
  | error e => exact hx pins σ _ _ e s' I2 hq'
  | ok fl =>
    cases fl with
    | ret u =>
      obtain ⟨v, H', I3, rv, ev, q3⟩ := I2.after hq'
      subst ev
      exact ⟨rv, ⟨V.ref (s.heap.objs.size + 1), H', I3, rfl, q3⟩⟩
    | next => exact False.elim hq'
    | brk => exact False.elim hq'
    | cont => exact False.elim hq'
theorem pe_make (M : Mk X.K C f) (F : FnOk X.prog X.w X.K X.mg X.base CX k f fd ps sp) (hr : Room (k + 1) X.A) (hg : Gl X x) (hm : X.mg x = some (.ref C)) (hb : Binds X.K fd ps ds) (hd : Vals dvs ds) (hx : Passes CX X E)
    (ha : PA X (e :: es) t) (hdb : (x == ("__debug__" : Str)) = false := by decide) (he : starEach (e :: es) X.env = (false, eval e X.env) :: starEach es X.env := by rfl) (hpl : (backTo pos (starEach es X.env)).any (·.1) = false := by rfl) :
    PE X (.Call (.Name x p) (e :: es) [] pos) (tMake C sp dvs E t) := by
  intro pins s σ H Q I h
  refine wpAny_Call_Name_kw (ld_glob I hg hm ?_ hdb)
  refine PySem.W.callWith_K (h₀ := X.base) I.ok.mod.kin M.kp (thn (ha pos pins s σ H _ I h) fun us s1 ⟨vs, H1, I1, r, q⟩ => ⟨I1.kIn, ?_⟩) he hpl
  exact run_make M F hr hb hd hx I1 r q
theorem pe_make0 (M : Mk X.K C f) (F : FnOk X.prog X.w X.K X.mg X.base CX k f fd ps sp) (hr : Room (k + 1) X.A) (hg : Gl X x) (hm : X.mg x = some (.ref C)) (hb : Binds X.K fd ps ds) (hd : Vals dvs ds) (hx : Passes CX X E)
    (hdb : (x == ("__debug__" : Str)) = false := by decide) : PE X (.Call (.Name x p) [] [] pos) (tMake C sp dvs E tNil) := by
  intro pins s σ H Q I h
  refine wpAny_Call_Name_kw (ld_glob I hg hm ?_ hdb)
  exact PySem.W.callWith_K0 I.kIn M.kp (run_make (us := []) M F hr hb hd hx I .nil h)
end

/-! ### keywords -/
/-- the values of the keywords, from the left -/
def PK (X : Cx) (kws : List Keyword) (t : TA) : Prop :=
  ∀ (pos : Pos) (pins : List (Addr × Obj)) (s : Shared) (σ : St) (H : Hp) (Q : List V → Hp → Prop), Inv X pins σ H s → t σ H Q → wpAny (model X.prog X.w) X.A (evalAll ((backToKw pos (keywordEach kws X.env)).map (·.2))) (AP X pins σ Q) X.xe s
section
variable {X : Cx} {CX : CXT} {k : Nat} {f C : Addr} {fd : FuncData} {ps ks : List Str} {sp : Sp} {E : XK} {x m : Str} {p pos apos kpos : Pos} {e o : Expr} {es : List Expr} {kws : List Keyword} {te ta : TE} {t tk : TA} {nm : Option Str}
theorem pk_nil : PK X [] tNil := fun _ _ _ _ H Q I h => wpAny_evalAll_nil ⟨[], H, I, .nil, h⟩
theorem pk_cons (ha : PE X e te) (hr : PK X kws t) : PK X (⟨nm, e, kpos⟩ :: kws) (tCons te t) := by
  intro pos pins s σ H Q I h
  show wpAny _ _ (evalAll ((do let v ← eval e X.env; standAt pos; pure v) :: (backToKw pos (keywordEach kws X.env)).map (·.2))) _ _ s
  refine wpAny_evalAll_cons (wpAny_bind (thn (ha pins s σ H _ I h) fun u s1 ⟨x, H1, I1, r1, q1⟩ => wpAny_bind (wpAny_standAt (wpAny_pure ?_))))
  exact thn (hr pos pins s1 σ H1 _ I1 q1) fun us s2 ⟨xs, H2, I2, r2, q2⟩ => ⟨x :: xs, H2, I2, .cons r1 r2, q2⟩

/-- how a call with keywords binds: g puts the positional values us and the keywords' values ws (names ks) in the parameters' order, defaults among them -/
structure KBinds (K : PySem.W.Frag) (fd : FuncData) (ps ks : List Str) (g : List Value → List Value → List Value) (gV : List V → List V → List V) : Prop where
  to : ∀ (s : Shared) (us ws : List Value), K.In s.heap → (g us ws).length = ps.length → BindsTo s fd ⟨us, ks.zip ws⟩ (ps.zip (g us ws))
  rel : ∀ {vs : List V} {us : List Value} {zs : List V} {ws : List Value}, Vals vs us → Vals zs ws → Vals (gV vs zs) (g us ws)
def tCallK (sp : Sp) (gV : List V → List V → List V) (E : XK) (t tk : TA) : TE := fun σ H Q => t σ H fun vs H1 => tk σ H1 fun zs H2 => sp (gV vs zs) H2 Q E
variable {g : List Value → List Value → List Value} {gV : List V → List V → List V}
theorem run_fnk {pins : List (Addr × Obj)} {σ : St} {H : Hp} {s : Shared} {Q : VK} {us ws : List Value} {vs zs : List V} (F : FnOk X.prog X.w X.K X.mg X.base CX k f fd ps sp) (hr : Room k X.A) (hb : KBinds X.K fd ps ks g gV) (hx : Passes CX X E)
    (I : Inv X pins σ H s) (r : Vals vs us) (rz : Vals zs ws) (h : sp (gV vs zs) H Q E) : wpAny (model X.prog X.w) X.A (call (.ref f) us (ks.zip ws)) (EP X pins σ Q) X.xe s := by
  have r2 := hb.rel r rz
  have hl : (g us ws).length = ps.length := by rw [← r2.length]; exact F.len _ _ _ _ h
  refine wpAny_call (codeAny_mono (F.run X.A X.stack s H ⟨us, ks.zip ws⟩ (g us ws) (gV vs zs) Q E hr I.env0 (hb.to s us ws I.kIn hl) r2 h) fun r s' hq => ?_)
  cases r with
  | error e => exact hx pins σ H s e s' I hq
  | ok fl =>
    cases fl with
    | ret u => exact I.after hq
    | next => exact False.elim hq
    | brk => exact False.elim hq
    | cont => exact False.elim hq
/-- f(e, .., k = v, ..) -/
theorem pe_callK (F : FnOk X.prog X.w X.K X.mg X.base CX k f fd ps sp) (hr : Room k X.A) (hg : Gl X x) (hm : X.mg x = some (.ref f)) (hk : PySem.W.keepIn X.K (.ref f) = true) (hb : KBinds X.K fd ps ks g gV) (hx : Passes CX X E)
    (ha : PA X (e :: es) t) (hkw : PK X kws tk) (hall : (backToKw pos (keywordEach kws X.env)).all (·.1.isSome) = true := by rfl) (hks : (backToKw pos (keywordEach kws X.env)).filterMap (·.1) = ks := by rfl)
    (hdb : (x == ("__debug__" : Str)) = false := by decide) (he : starEach (e :: es) X.env = (false, eval e X.env) :: starEach es X.env := by rfl)
    (hpl : ((backTo pos (starEach (e :: es) X.env)).any (·.1) || (backToKw pos (keywordEach kws X.env)).any (·.1.isNone)) = false := by rfl) :
    PE X (.Call (.Name x p) (e :: es) kws pos) (tCallK sp gV E t tk) := by
  intro pins s σ H Q I h
  refine wpAny_Call_Name_kw (ld_glob I hg hm ?_ hdb)
  refine PySem.W.callWith_KW (h₀ := X.base) I.ok.mod.kin hk hall (thn (ha pos pins s σ H _ I h) fun us s1 ⟨vs, H1, I1, r, q⟩ => ?_) hpl he
  refine thn (hkw pos pins s1 σ H1 _ I1 q) fun ws s2 ⟨zs, H2, I2, rz, q2⟩ => ⟨I2.kIn, ?_⟩
  rw [hks]
  exact run_fnk F hr hb hx I2 r rz q2
end

/-! ### a def's body keeps its promise -/
/-- names: the parameters first -/
structure FnScope (N P : List Str) (sc : Scope) : Prop where
  kind : sc.kind = .function
  co : sc.isCoroutine = false
  gen : sc.isGenerator = false
  nd : N.Nodup
  pre : N.take P.length = P
  par : ∀ x ∈ P, sc.names.lookup x = some .local ∨ sc.names.lookup x = some .cell
  nofree : ∀ y ∈ sc.names, y.2 ≠ .free

theorem bindL_out {kindOf : Str → Option NameKind} {x : Str} : ∀ {binds : List (Str × Value)} {m : Str → Option Value}, (∀ v, (x, v) ∉ binds) → bindL kindOf binds m x = m x
  | [], _, _ => rfl
  | (n, v) :: r, m, h => by
    unfold bindL
    rw [bindL_out fun w hw => h w (List.mem_cons_of_mem _ hw)]
    split
    · have : x ≠ n := by rintro rfl; exact h v List.mem_cons_self
      simp [this]
    · rfl
theorem bindC_out {kindOf : Str → Option NameKind} {x : Str} : ∀ {binds : List (Str × Value)} {m : Str → Option Value}, (∀ v, (x, v) ∉ binds) → bindC kindOf binds m x = m x
  | [], _, _ => rfl
  | (n, v) :: r, m, h => by
    unfold bindC
    rw [bindC_out fun w hw => h w (List.mem_cons_of_mem _ hw)]
    split
    · rfl
    · have : x ≠ n := by rintro rfl; exact h v List.mem_cons_self
      simp [this]
theorem bindL_get {kindOf : Str → Option NameKind} {x : Str} {v : Value} : ∀ {P : List Str} {vs : List Value} {i : Nat} {m : Str → Option Value}, P.Nodup → P[i]? = some x → vs[i]? = some v → kindOf x = some .local →
    bindL kindOf (P.zip vs) m x = some v
  | [], _, _, _, _, h, _, _ => by simp at h
  | _ :: _, [], _, _, _, _, h, _ => by simp at h
  | p :: P, w :: vs, 0, m, nd, h1, h2, hk => by
    simp at h1 h2; subst h1; subst h2
    show bindL kindOf ((p, w) :: P.zip vs) m p = _
    unfold bindL
    rw [bindL_out fun v hv => (List.nodup_cons.mp nd).1 (List.of_mem_zip hv).1, if_pos hk]
    simp
  | p :: P, w :: vs, i + 1, m, nd, h1, h2, hk => by
    show bindL kindOf ((p, w) :: P.zip vs) m x = _
    unfold bindL
    exact bindL_get (i := i) (List.nodup_cons.mp nd).2 (by simpa using h1) (by simpa using h2) hk
theorem bindC_get {kindOf : Str → Option NameKind} {x : Str} {v : Value} : ∀ {P : List Str} {vs : List Value} {i : Nat} {m : Str → Option Value}, P.Nodup → P[i]? = some x → vs[i]? = some v → kindOf x ≠ some .local →
    bindC kindOf (P.zip vs) m x = some v
  | [], _, _, _, _, h, _, _ => by simp at h
  | _ :: _, [], _, _, _, _, h, _ => by simp at h
  | p :: P, w :: vs, 0, m, nd, h1, h2, hk => by
    simp at h1 h2; subst h1; subst h2
    show bindC kindOf ((p, w) :: P.zip vs) m p = _
    unfold bindC
    rw [bindC_out fun v hv => (List.nodup_cons.mp nd).1 (List.of_mem_zip hv).1, if_neg hk]
    simp
  | p :: P, w :: vs, i + 1, m, nd, h1, h2, hk => by
    show bindC kindOf ((p, w) :: P.zip vs) m x = _
    unfold bindC
    exact bindC_get (i := i) (List.nodup_cons.mp nd).2 (by simpa using h1) (by simpa using h2) hk

/-- the names' values at the entry -/
def start (N : List Str) (vs : List V) : St := vs.map some ++ List.replicate (N.length - vs.length) none

/-- the context of a def's body, at its entry; an exception leaves the frame, then lies as CX says -/
def cxOf (CX : CXT) (P : Program) (w : World) (K : PySem.W.Frag) (mg : Str → Option Value) (base : Heap) (N : List Str) (qual : Str) (scope : Scope) (f : Addr) (cd : Value) (A : Around) (outer : List Env) (s : Shared) (H : Hp) (E : XK) : Cx where
  prog := P
  w := w
  K := K
  mg := mg
  base := base
  A := A.deeper (envOfC qual scope s.heap.objs.size f cd)
  N := N
  s₀ := s
  H₀ := H
  env := envOfC qual scope s.heap.objs.size f cd
  outer := outer
  stack := envOfC qual scope s.heap.objs.size f cd :: outer
  ex := []
  calm := true
  fn := fun _ => true
  pn := []
  xe := fun e s' => wpAny (model P w) (A.deeper (envOfC qual scope s.heap.objs.size f cd)) (leaving (envOfC qual scope s.heap.objs.size f cd) e) (fun _ s'' => CX outer H s E e s'') (fun e' s'' => CX outer H s E e' s'') s'

theorem cell_has {sc : Scope} {n : Nat} {x : Str} (h : sc.names.lookup x = some .cell) : ∃ c, (cellsFrom n sc.names []).lookup x = some c := by
  have q := PySem.W.cellsFrom_some sc.names n [] (.inl h)
  exact Option.isSome_iff_exists.mp q

theorem inv_start {CX : CXT} {P : Program} {w : World} {K : PySem.W.Frag} {mg : Str → Option Value} {base : Heap} {N ps : List Str} {qual : Str} {scope : Scope} {f : Addr} {cd : Value} {A : Around} {outer : List Env} {s s1 : Shared} {H : Hp} {E : XK} {us : List Value} {vs : List V}
    (S : FnScope N ps scope) (hd : A.handled = none) (e0 : Env0 P w K mg base A outer s H) (hl : vs.length = ps.length) (r : Vals vs us)
    (x : InCallC s s.heap.objs.size (bindL (envOfC qual scope s.heap.objs.size f cd).kindOf (ps.zip us) fun _ => none) (cellsFrom (s.heap.objs.size + 1) scope.names []) (bindC (envOfC qual scope s.heap.objs.size f cd).kindOf (ps.zip us) fun _ => none) s1) :
    Inv (cxOf CX P w K mg base N qual scope f cd A outer s H E) [] (start N vs) H s1 := by
  have hpl : ps.length ≤ N.length := by have := congrArg List.length S.pre; rw [List.length_take] at this; omega
  obtain ⟨h1, tk, rfl, hk⟩ := x.done
  have noA : ∀ b : Addr, b ∉ (cxOf CX P w K mg base N qual scope f cd A outer s H E).ex := fun b z => absurd (show b ∈ ([] : List Addr) from z) (by simp)
  refine ⟨⟨e0.mod, S.kind, rfl, rfl, Nat.le_refl _, fun y z c h1 h2 => ?_, fun y hy => ?_, fun y c _ h => ?_, fun _ => hd, Around.frames_deeper e0.frames, .inr ⟨rfl, rfl⟩, fun b z => absurd z (noA b), e0.bs, e0.bsz, fun b _ _ => noA b, fun b z => absurd z (noA b), e0.funs, e0.frf⟩,
    rfl, e0.bare, Un.kept hk, ⟨_, x.toInCall.ns, fun i y v h1 h2 h3 => ?_⟩, fun y c h => ⟨_, x.cell y c h⟩, e0.hok.fresh (Nat.le_refl _), fun y c h => ?_, fun p hp => absurd (show p ∈ ([] : List (Addr × Obj)) from hp) (by simp), e0.hok.kept hk, ?_⟩
  · exact name_of_addr x.apart (PySem.mem_of_lookup h1) (PySem.mem_of_lookup h2)
  · have hy : scope.names.lookup y = some .cell ∨ scope.names.lookup y = some .free := hy
    rcases hy with hy | hy
    · exact cell_has hy
    · exact absurd rfl (S.nofree _ (PySem.mem_of_lookup hy))
  · exact Nat.le_of_lt (x.above y c (PySem.mem_of_lookup h))
  · have hi : i < vs.length := by
      unfold start at h2
      by_cases hi : i < vs.length
      · exact hi
      · rw [List.getElem?_append_right (by simpa using hi)] at h2
        rw [List.getElem?_replicate] at h2
        split at h2 <;> cases h2
    have ha : vs[i]? = some v := by
      unfold start at h2
      rw [List.getElem?_append_left (by simpa using hi), List.getElem?_map] at h2
      cases e : vs[i]? with
      | none => rw [e] at h2; cases h2
      | some a => rw [e] at h2; cases h2; rfl
    obtain ⟨u, hu, rv⟩ := r.get ha
    have hp : ps[i]? = some y := by
      rw [← S.pre, List.getElem?_take_of_lt (by omega)]; exact h1
    have ndP : ps.Nodup := by rw [← S.pre]; exact S.nd.sublist (List.take_sublist _ _)
    refine ⟨u, rv, ?_⟩
    rcases S.par y (List.mem_of_getElem? hp) with k | k
    · exact .inl ⟨k, bindL_get ndP hp hu k⟩
    · obtain ⟨c, e⟩ := cell_has (n := s.heap.objs.size + 1) k
      refine .inr ⟨.inl k, c, e, ?_⟩
      have q := x.cell y c e
      rw [bindC_get ndP hp hu (by show scope.names.lookup y ≠ _; rw [k]; decide)] at q
      exact q
  · exact e0.hok.fresh (Nat.le_of_lt (x.above y c (PySem.mem_of_lookup h)))
  · unfold start
    show _ = N.length
    rw [List.length_append, List.length_map, List.length_replicate]
    omega

/-- THE RULE: a def (or a method) of the text, by its body. The body's reading t is chosen for each entry; it is run at the parameters' values -/
theorem fn_of {CX : CXT} {P : Program} {w : World} {K : PySem.W.Frag} {mg : Str → Option Value} {base : Heap} {k : Nat} {f : Addr} {name qual : Str} {params : Arguments} {body : List Stmt} {scope : Scope} {dV kV doc pm cdv ct oc : Value} {an od : Option Addr}
    {osl : Array (Option Value)} {N ps : List Str} {sp : Sp} (lk : K.lookup f = some ⟨oc, od, .func (PySem.W.fnOf name qual params body scope dV kV doc pm an cdv ct), osl⟩) (hcd : PySem.W.codeIn K cdv qual = true) (S : FnScope N ps scope)
    (len : ∀ vs H Q E, sp vs H Q E → vs.length = ps.length)
    (hbody : ∀ (A : Around) (outer : List Env) (s : Shared) (H : Hp) (vs : List V) (Q : VK) (E : XK), Room k (A.deeper (envOfC qual scope s.heap.objs.size f cdv)) → sp vs H Q E →
      ∃ t, PSs (cxOf CX P w K mg base N qual scope f cdv A outer s H E) body t ∧ t { nx := fun _ H' => Q .non H', rt := Q } (start N vs) H) :
    FnOk P w K mg base CX (k + 1) f (PySem.W.fnOf name qual params body scope dV kV doc pm an cdv ct) ps sp := by
  refine ⟨len, fun A outer s H args us vs Q E hr e0 hb r hsp => ?_⟩
  have hl := len _ _ _ _ hsp
  have KX : K.In s.heap := e0.mod.kin.keeps fun b o e => (e0.bs b o e).1
  have lim : s.heap.NoLimit := e0.mod.nolimit.keeps fun b o e => (e0.bs b o e).1
  have hkind : ∀ y ∈ ps.zip us, scope.names.lookup y.1 = some .local ∨ (scope.names.lookup y.1 = some .cell ∧ ((cellsFrom (s.heap.objs.size + 1) scope.names []).lookup y.1).isSome = true) := fun ⟨n, v⟩ hy => by
    rcases S.par n (List.of_mem_zip hy).1 with q | q
    · exact .inl q
    · exact .inr ⟨q, PySem.W.cellsFrom_some _ _ _ (.inl q)⟩
  refine codeAny_call_function hr.depth (KX _ _ lk) rfl S.co S.gen rfl (PySem.W.codeRec_of KX hcd) (hb _ _ _ _ ?_)
  refine wpAny_newFunctionEnv_cells S.kind hkind fun env he s1 x => ?_
  subst he
  refine ⟨lim.keeps x.toInCall.keep, codeAny_func ?_⟩
  obtain ⟨t, ht, hq⟩ := hbody A outer s H vs Q E (hr.deeper _) hsp
  have I : Inv (cxOf CX P w K mg base N qual scope f cdv A outer s H E) [] (start N vs) H s1 := inv_start S hr.hd e0 hl r x
  refine wpAny_mono (ht [] s1 (start N vs) H _ I hq) (fun fl s' hs => ?_) fun e s' hs => hs
  have fin : ∀ {σ' : St} {H' : Hp} {v : V} {u : Value}, Inv (cxOf CX P w K mg base N qual scope f cdv A outer s H E) [] σ' H' s' → RelV v u → Q v H' → CE outer P w H s Q u s' :=
    fun {σ' H' v u} J rv q => ⟨v, H', J.os, J.bare, J.base, J.hok, rv, q⟩
  cases fl with
  | ret u =>
    obtain ⟨v, σ', H', J, rv, q⟩ := hs
    exact fin J rv q
  | next =>
    obtain ⟨σ', H', J, q⟩ := hs
    exact fin (v := V.non) (u := Value.none) J rfl q
  | brk =>
    obtain ⟨_, _, _, q⟩ := hs
    exact False.elim q
  | cont =>
    obtain ⟨_, _, _, q⟩ := hs
    exact False.elim q
end L2

namespace L2
open PySem PySem.Spec PyProof.Rows
section
variable {X : Cx} {x : Str} {p pos : Pos} {e : Expr} {es : List Expr} {t : TA} {id T : String} {r : List V → Hp → VK → Prop}

def tCB (r : List V → Hp → VK → Prop) (t : TA) : TE := fun σ H Q => t σ H fun vs H1 => r vs H1 Q
/-- f(e, ..), f a built-in function -/
theorem pe_callB (hc : CallR X (.builtin id) r) (hg : Gl X x) (hm : X.mg x = none) (hv : bootBuiltins x = some (.builtin id)) (ha : PA X (e :: es) t) (hn : x ≠ "__name__" := by decide) (hdb : (x == ("__debug__" : Str)) = false := by decide)
    (he : starEach (e :: es) X.env = (false, eval e X.env) :: starEach es X.env := by rfl) (hpl : (backTo pos (starEach es X.env)).any (·.1) = false := by rfl) : PE X (.Call (.Name x p) (e :: es) [] pos) (tCB r t) := by
  intro pins s σ H Q I h
  refine wpAny_Call_Name_kw (ld_blt I hg hm hv ?_ hn hdb)
  exact PyProof.Rows.callWith_builtin1 (thn (ha pos pins s σ H _ I h) fun us s1 ⟨vs, H1, I1, r1, q1⟩ => hc pins s1 σ H1 vs us Q I1 r1 q1) he hpl
/-- T(e, ..), T a built-in type -/
theorem pe_callTy (hc : CallR X (.type T) r) (hg : Gl X x) (hm : X.mg x = none) (hv : bootBuiltins x = some (.type T)) (ha : PA X (e :: es) t) (hn : x ≠ "__name__" := by decide) (hdb : (x == ("__debug__" : Str)) = false := by decide)
    (he : starEach (e :: es) X.env = (false, eval e X.env) :: starEach es X.env := by rfl) (hpl : (backTo pos (starEach es X.env)).any (·.1) = false := by rfl) : PE X (.Call (.Name x p) (e :: es) [] pos) (tCB r t) := by
  intro pins s σ H Q I h
  refine wpAny_Call_Name_kw (ld_blt I hg hm hv ?_ hn hdb)
  exact PyProof.Rows.callWith_type1 (thn (ha pos pins s σ H _ I h) fun us s1 ⟨vs, H1, I1, r1, q1⟩ => hc pins s1 σ H1 vs us Q I1 r1 q1) he hpl
/-- T() -/
theorem pe_callTy0 (hc : CallR X (.type T) r) (hg : Gl X x) (hm : X.mg x = none) (hv : bootBuiltins x = some (.type T)) (hn : x ≠ "__name__" := by decide) (hdb : (x == ("__debug__" : Str)) = false := by decide) :
    PE X (.Call (.Name x p) [] [] pos) (tCB r tNil) := by
  intro pins s σ H Q I h
  refine wpAny_Call_Name_kw (ld_blt I hg hm hv ?_ hn hdb)
  exact PyProof.Rows.callWith_type0 (hc pins s σ H [] [] Q I .nil h)
end
end L2

namespace HT
open PySem PyProof.Rows

/-- t < u of tuples of ints -/
def lexLt : List Int → List Int → Bool
  | [], [] => false
  | [], _ :: _ => true
  | _ :: _, [] => false
  | x :: xs, y :: ys => if x = y then lexLt xs ys else decide (x < y)
theorem lexLt_cons (x y : Int) (xs ys : List Int) : lexLt (x :: xs) (y :: ys) = if x = y then lexLt xs ys else decide (x < y) := rfl
theorem lexLt_nil_nil : lexLt [] [] = false := rfl
theorem lexLt_nil_cons (y : Int) (ys : List Int) : lexLt [] (y :: ys) = true := rfl
theorem lexLt_cons_nil (x : Int) (xs : List Int) : lexLt (x :: xs) [] = false := rfl

theorem eqAt_int (A : Around) (s : Shared) (a : Int) (t : Tok) (c : Int) (u : Tok) : ∃ e, SeqAt.EqAt A s (.int a t) (.int c u) e ∧ (e = true ↔ a = c) :=
  ⟨(a == c), SeqAt.EqAt.int_int a t c u, by simp⟩
theorem rcLt_int (A : Around) (s : Shared) (a : Int) (t : Tok) (c : Int) (u : Tok) (prog : Program) (w : World) (E : Value → Shared → Prop) (Q : Value → Shared → Prop) (h : Q (.bool (decide (a < c))) s) :
    wpAny (model prog w) A (richCompare .Lt (.int a t) (.int c u)) Q E s :=
  (PyProof.Rows.lt_int h : wpAny (model prog w) A (compareOp .Lt (.int a t) (.int c u)) Q E s)

section
open PySem.SeqAt
open PySem.AutoSeq1 (wpAny_loadPart')
open PySem.MeetsSeq PySem.MeetsSeq2 PySem.MeetsSeq3

theorem tuple_lt_ints (l b : Addr) (items items2 : Array Value) (n n2 : Nat) (dd dd2 : Option Addr) (sl sl2 : Array (Option Value)) (ns ms : List Int) (hi : IntsAre items.toList ns) (hj : IntsAre items2.toList ms) :
    Meets (Builtin.«tuple.__lt__» ⟨[.ref l, .ref b], []⟩)
      (fun _ R s => s.heap.get? l = some { cls := .type "tuple", dict := dd, data := .seq items n, slots := sl } ∧ s.heap.get? b = some { cls := .type "tuple", dict := dd2, data := .seq items2 n2, slots := sl2 } ∧
        R (.ok (.ret (.bool (lexLt ns ms)))) s) :=
  .of_wp fun prog w A R s h => by
    obtain ⟨hp, g, d, tk, os⟩ := s; obtain ⟨hl, hb, h⟩ := h
    have f2 := AutoSeq1.sub_tuple_tuple
    have z1 : items.size = ns.length := by rw [← hi.length]; simp
    have z2 : items2.size = ms.length := by rw [← hj.length]; simp
    wp_walk using wpAny_loadPart' hl, wpAny_loadPart' hb, wpAny_forIn_list _ (fun rest b s' => b.1 = none ∧ s' = ⟨hp, g, d, tk, os⟩ ∧ ∃ (vs ws : List Value) (ns' ms' : List Int), rest = vs.zip ws ∧
      IntsAre vs ns' ∧ IntsAre ws ms' ∧ ns'.length + items2.size = ms'.length + items.size ∧ R (.ok (.ret (.bool (lexLt ns' ms')))) ⟨hp, g, d, tk, os⟩) _
    case turn =>
      rintro ⟨y, x⟩ rest b s' ⟨hb', rfl, vs, ws, ns', ms', hz, hvi, hwi, hlen, hR⟩
      cases hvi with
      | nil => rw [List.zip_nil_left] at hz; cases hz
      | cons a t hvi' =>
        cases hwi with
        | nil => rw [List.zip_nil_right] at hz; cases hz
        | cons c u hwi' =>
          rw [List.zip_cons_cons] at hz
          injection hz with hyx hrest
          injection hyx with hy hx
          subst hy hx
          rw [lexLt_cons] at hR
          simp only [List.length_cons] at hlen
          obtain ⟨e, he, hiff⟩ := eqAt_int A.in1 ⟨hp, g, d, tk, os⟩ a t c u
          refine wpAny_bind (he prog w _ _ ?_)
          cases e with
          | true =>
            rw [if_pos (hiff.mp rfl)] at hR
            wp_walk
            exact ⟨rfl, rfl, _, _, _, _, hrest, hvi', hwi', by omega, hR⟩
          | false =>
            rw [if_neg (fun q => absurd (hiff.mpr q) Bool.false_ne_true)] at hR
            have hri := rcLt_int A.in1 ⟨hp, g, d, tk, os⟩ a t c u prog w
            wp_walk using hri
            exact ⟨_, rfl, by simpa using hR⟩
    case fin =>
      rintro ⟨b1, b2⟩ s' ⟨hb', rfl, vs, ws, ns', ms', hz, hvi, hwi, hlen, hR⟩
      simp only at hb'
      subst hb'
      have hv : lexLt ns' ms' = decide (items.size < items2.size) := by
        cases hvi with
        | nil =>
          cases hwi with
          | nil =>
            simp only [List.length_nil] at hlen
            rw [lexLt_nil_nil]
            exact (decide_eq_false (by omega)).symm
          | cons c u hw =>
            simp only [List.length_nil, List.length_cons] at hlen
            rw [lexLt_nil_cons]
            exact (decide_eq_true (by omega)).symm
        | cons a t hv =>
          cases hwi with
          | nil =>
            simp only [List.length_nil, List.length_cons] at hlen
            rw [lexLt_cons_nil]
            exact (decide_eq_false (by omega)).symm
          | cons c u hw =>
            rw [List.zip_cons_cons] at hz
            cases hz
      rw [hv] at hR
      wp_walk
      exact ⟨_, rfl, by simpa [Builtin.Tuple.tupleCompareSizes] using hR⟩
    case h =>
      exact ⟨rfl, rfl, items.toList, items2.toList, ns, ms, rfl, hi, hj, by omega, h⟩
end

section
variable {prog : Program} {w : World} {A : Around} {E : Value → Shared → Prop} {s : Shared}

theorem lt_tupInts {l b : Addr} {items items2 : Array Value} {ns ms : List Int} {Q : Value → Shared → Prop} (hl : IsTup s.heap l items) (hb : IsTup s.heap b items2) (hi : IntsAre items.toList ns) (hj : IntsAre items2.toList ms)
    (hu : A.units < cLine) (h : Q (.bool (lexLt ns ms)) s) : wpAny (model prog w) A (compareOp .Lt (.ref l) (.ref b)) Q E s := by
  obtain ⟨⟨cls, dd, data, sl⟩, ho, hc, n, hd⟩ := id hl
  obtain ⟨⟨cls2, dd2, data2, sl2⟩, ho2, hc2, n2, hd2⟩ := id hb
  simp only at hc hd hc2 hd2
  subst hc hd hc2 hd2
  exact richCompare_meets_room (op := .Lt) ⟨_, ho, rfl⟩ ⟨_, ho2, rfl⟩ PySem.F.slot_tuple_lt PySem.F.entry_tuple_lt (PySem.F.args_tuple_lt_2 _ _) (tuple_lt_ints l b items items2 n n2 dd dd2 sl sl2 ns ms hi hj)
    ⟨ho, ho2, show Value.bool (lexLt ns ms) ≠ Value.notImplemented ∧ Q (.bool (lexLt ns ms)) s from ⟨(fun x => nomatch x), h⟩⟩ hu

/-- t + u, t not empty -/
theorem cat_tup {t b : Addr} {vs ws : List Value} {Q : Value → Shared → Prop} (ht : IsTup s.heap t vs.toArray) (hb : IsTup s.heap b ws.toArray) (hv : vs ≠ [])
    (h1 : ws = [] → Q (.ref t) s) (h2 : ws ≠ [] → Q (.ref s.heap.objs.size) { s with heap := s.heap.push { cls := .type "tuple", data := .seq (vs ++ ws).toArray } })
    (hsz : vs.length + ws.length ≤ sizeLine) : wpAny (model prog w) A (binaryOp .Add (.ref t) (.ref b)) Q E s := by
  obtain ⟨⟨cls, dd, data, sl⟩, ho, hc, n, hd⟩ := id ht
  obtain ⟨⟨cls2, dd2, data2, sl2⟩, ho2, hc2, n2, hd2⟩ := id hb
  simp only at hc hd hc2 hd2
  subst hc hd hc2 hd2
  have e : vs.toArray ++ ws.toArray = (vs ++ ws).toArray := by simp
  by_cases hw : ws = []
  · exact concat_meets ⟨_, ho, rfl⟩ ⟨_, ho2, rfl⟩ noFill_tuple_add seq_tuple_add PySem.F.slot_tuple_add PySem.F.entry_tuple_add (PySem.F.args_tuple_add_2 _ _)
      (tuple_addW1 t b vs.toArray ws.toArray n n2 dd dd2 sl sl2 (by simpa using hv) (by simp [hw])) ⟨ho, ho2, h1 hw⟩
  · refine concat_meets ⟨_, ho, rfl⟩ ⟨_, ho2, rfl⟩ noFill_tuple_add seq_tuple_add PySem.F.slot_tuple_add PySem.F.entry_tuple_add (PySem.F.args_tuple_add_2 _ _)
      (tuple_addW2 t b vs.toArray ws.toArray n n2 dd dd2 sl sl2 (by simpa using hv) (by simpa using hw) (by rw [List.size_toArray, List.size_toArray]; exact hsz)) ⟨ho, ho2, ?_⟩
    rw [e]
    exact h2 hw

/-! ### t[a:b], not the whole -/
/-- a slice's bound as a place among n (d where it is left out) -/
def sIx (n d : Nat) : Option Int → Nat
  | none => d
  | some v => if v < 0 then (v + (n : Int)).toNat else min v.toNat n
theorem sIx_none (n d : Nat) : sIx n d none = d := rfl
theorem sIx_nat (n d k : Nat) : sIx n d (some (k : Int)) = min k n := by
  show (if (k : Int) < 0 then ((k : Int) + (n : Int)).toNat else min (k : Int).toNat n) = min k n
  rw [if_neg (by omega), Int.toNat_natCast]
theorem sIx_le (n d : Nat) (hd : d ≤ n) (o : Option Int) : sIx n d o ≤ n := by
  cases o with
  | none => exact hd
  | some v =>
    show (if v < 0 then (v + (n : Int)).toNat else min v.toNat n) ≤ n
    by_cases hv : v < 0
    · rw [if_pos hv]; omega
    · rw [if_neg hv]; exact Nat.min_le_right _ _
theorem clip_eq (v : Int) (n d : Nat) : (if v < 0 then max (v + (n : Int)) 0 else min v (n : Int)) = ((sIx n d (some v) : Nat) : Int) := by
  show (if v < 0 then max (v + (n : Int)) 0 else min v (n : Int)) = (((if v < 0 then (v + (n : Int)).toNat else min v.toNat n) : Nat) : Int)
  by_cases hv : v < 0
  · simp only [if_pos hv]; omega
  · simp only [if_neg hv]; omega
theorem adjust_gen (lo hi : Option Int) (n : Nat) : Builtin.Slice.sliceAdjust lo hi 1 (n : Int) = (((sIx n 0 lo : Nat) : Int), ((sIx n n hi : Nat) : Int)) := by
  have h1 : ¬ ((1 : Int) < 0) := by omega
  unfold Builtin.Slice.sliceAdjust
  simp only [h1, if_false]
  refine Prod.ext ?_ ?_
  · cases lo with
    | none => rfl
    | some v => exact clip_eq v n 0
  · cases hi with
    | none => rfl
    | some v => exact clip_eq v n n
theorem places_gen (i j : Nat) : Builtin.Slice.slicePlaces (i : Int) (j : Int) 1 = j - i := by
  unfold Builtin.Slice.slicePlaces
  have h1 : (1 : Int) > 0 := by omega
  simp only [h1, if_true, Int.ediv_one]
  split <;> omega
theorem slicePart_ {v : Value} {o : Option Int} {Q : Option Int → Shared → Prop} (p : IsPart v o) (h : Q o s) : wpAny (model prog w) A (Builtin.Slice.slicePartIndex v) Q E s := by
  cases p with
  | none => exact slicePart_none h
  | int i t => exact slicePart_int h
theorem sliceApplied_gen {sl : Addr} {vl vu : Value} {lo hi : Option Int} {n : Nat} {Q : Int × Int × Nat → Shared → Prop} (hs : s.heap.IsSliceOf sl vl vu .none) (pl : IsPart vl lo) (pu : IsPart vu hi)
    (h : Q (((sIx n 0 lo : Nat) : Int), 1, sIx n n hi - sIx n 0 lo) s) : wpAny (model prog w) A (Builtin.Slice.sliceApplied (.ref sl) (pure (n : Int))) Q E s := by
  obtain ⟨os, hos, hcs, hds⟩ := id hs
  unfold Builtin.Slice.sliceApplied Builtin.Slice.sliceFields
  refine wpAny_bind (wpAny_bind (wpAny_field hos hds (x := vl) rfl (wpAny_bind (wpAny_field hos hds (x := vu) rfl (wpAny_bind (wpAny_field hos hds (x := .none) rfl (wpAny_pure ?_)))))))
  refine wpAny_bind (slicePart_none ?_)
  show wpAny _ _ (if ((1 : Int) == 0) = true then _ else _) _ _ s
  rw [if_neg (by decide)]
  refine wpAny_bind (slicePart_ pl (wpAny_bind (slicePart_ pu (wpAny_bind (wpAny_pure ?_)))))
  show wpAny _ _ (match Builtin.Slice.sliceAdjust lo hi 1 (n : Int) with | (lo, hi) => pure (lo, (1 : Int), Builtin.Slice.slicePlaces lo hi 1)) _ _ s
  rw [adjust_gen lo hi n]
  show wpAny _ _ (pure (((sIx n 0 lo : Nat) : Int), (1 : Int), Builtin.Slice.slicePlaces ((sIx n 0 lo : Nat) : Int) ((sIx n n hi : Nat) : Int) 1)) _ _ s
  rw [places_gen]
  exact wpAny_pure h
theorem pick_gen (xs : Array Value) (i k : Nat) : ((List.range k).filterMap fun (m : Nat) => xs[((i : Int) + (m : Int) * 1).toNat]?).toArray = ((xs.toList.drop i).take k).toArray := by
  have e : (fun (m : Nat) => xs[((i : Int) + (m : Int) * 1).toNat]?) = fun m => xs[i + m]? := by
    funext m
    have : ((i : Int) + (m : Int) * 1).toNat = i + m := by omega
    rw [this]
  rw [e]
  have := pick_run xs i k
  rw [List.filterMap_map] at this
  have e2 : ((fun x => xs[x]?) ∘ fun x => i + x) = fun m => xs[i + m]? := rfl
  rw [e2] at this
  rw [this]

theorem getItem_tuple_cut {t sl : Addr} {items : Array Value} {vl vu : Value} {lo hi : Option Int} {Q : Value → Shared → Prop} (ht : IsTup s.heap t items) (hs : s.heap.IsSliceOf sl vl vu .none) (pl : IsPart vl lo) (pu : IsPart vu hi)
    (hw : ¬ (sIx items.size 0 lo = 0 ∧ sIx items.size items.size hi = items.size))
    (h : Q (.ref s.heap.objs.size) { s with heap := s.heap.push { cls := .type "tuple", data := .seq ((items.toList.drop (sIx items.size 0 lo)).take (sIx items.size items.size hi - sIx items.size 0 lo)).toArray } })
    (hsz : items.size ≤ sizeLine) : wpAny (model prog w) A (getItem (.ref t) (.ref sl)) Q E s := by
  have htake : sizeOk (.seq ((items.toList.drop (sIx items.size 0 lo)).take (sIx items.size items.size hi - sIx items.size 0 lo)).toArray) := by
    show ((items.toList.drop (sIx items.size 0 lo)).take (sIx items.size items.size hi - sIx items.size 0 lo)).toArray.size ≤ sizeLine
    rw [List.size_toArray, List.length_take, List.length_drop, Array.length_toList]
    omega
  have hj : sIx items.size items.size hi ≤ items.size := sIx_le _ _ (Nat.le_refl _) hi
  obtain ⟨os, hos, hcs, hds⟩ := id hs
  have hTs : s.TypeIs (.ref sl) "slice" := ⟨os, hos, hcs⟩
  unfold getItem
  try with_reducible refine wpAny_holding ?_
  first | refine wpAny_bind (wpAny_pure ?_) | skip
  refine wpAny_bind (wpAny_sequenceKey ht.typeIs (by decide) ?_)
  refine wpAny_bind (wpAny_callSpecial?_slot (name := Str.ofString "__getitem__") ht.typeIs PyProof.Rows.slot_tuple_getitem
    (wpAny_call_entry PyProof.Rows.slot_tuple_getitem ht.typeIs entry_tuple_getitem ?_ (args_tuple_getitem _ _)))
  show wpAny _ _ (Builtin.Tuple.tupleItemsOf (.ref t) >>= _) _ _ s
  refine wpAny_bind (tupleItemsOf_ ht ?_)
  refine wpAny_bind (wpAny_typeOf hTs ?_)
  rw [if_pos (by decide)]
  refine wpAny_bind (sliceApplied_gen hs pl pu ?_)
  have hno : ¬ ((((sIx items.size 0 lo : Nat) : Int) == 0 && (1 : Int) == 1 && (sIx items.size items.size hi - sIx items.size 0 lo) == items.size) = true) := by
    intro q
    rw [Bool.and_eq_true, Bool.and_eq_true] at q
    have q1 : ((sIx items.size 0 lo : Nat) : Int) = 0 := eq_of_beq q.1.1
    have q2 : sIx items.size items.size hi - sIx items.size 0 lo = items.size := eq_of_beq q.2
    exact hw ⟨by omega, by omega⟩
  show wpAny _ _ (if (((sIx items.size 0 lo : Nat) : Int) == 0 && (1 : Int) == 1 && (sIx items.size items.size hi - sIx items.size 0 lo) == items.size) = true then _ else _) _ _ s
  rw [if_neg hno, pick_gen]
  first
    | exact wpAny_bind (m := Builtin.Tuple.tupleExact _) (wpAny_newObj_type (wpAny_pure ⟨_, rfl, wpAny_pure h⟩) htake)
    | exact wpAny_bind (m := Builtin.Tuple.tupleExact _) (wpAny_newObj_type (wpAny_bind (wpAny_pure (wpAny_pure ⟨_, rfl, wpAny_pure h⟩))) htake)
    | exact wpAny_bind (wpAny_bind (m := Builtin.Tuple.tupleExact _) (wpAny_newObj_type (wpAny_pure (wpAny_pure ⟨_, rfl, wpAny_pure h⟩)) htake))
    | exact wpAny_bind (wpAny_bind (m := Builtin.Tuple.tupleExact _) (wpAny_newObj_type (wpAny_pure ⟨_, rfl, wpAny_pure h⟩) htake))
end
end HT

namespace L2
open PySem PySem.Spec PyProof.Rows

/-! ### the parts of a slice -/
abbrev TO := St → Hp → (Option Int → Hp → Prop) → Prop
/-- a slice's part (left out, or an int) -/
def PO (X : Cx) (e : Option Expr) (t : TO) : Prop :=
  ∀ (pins : List (Addr × Obj)) (s : Shared) (σ : St) (H : Hp) (Q : Option Int → Hp → Prop), Inv X pins σ H s → t σ H Q →
    wpAny (model X.prog X.w) X.A (evalPart e X.env) (fun u s' => ∃ o H', Inv X pins σ H' s' ∧ IsPart u o ∧ Q o H') X.xe s
def tNoPart : TO := fun _ H Q => Q none H
def tPart (t : TE) : TO := fun σ H Q => t σ H fun x H1 => ∃ i, x = .int i ∧ Q (some i) H1

theorem intsAre_of {ns : List Int} : ∀ {us : List Value}, Vals (ns.map V.int) us → IntsAre us ns := by
  induction ns with
  | nil => intro us r; rw [List.map_nil] at r; cases r; exact .nil
  | cons n ns ih =>
    intro us r
    rw [List.map_cons] at r
    cases r with
    | cons r1 r2 =>
      obtain ⟨t, e⟩ := r1
      subst e
      exact .cons n t (ih r2)

section
variable {X : Cx} {e : Expr} {te : TE} {lo hi : Option Expr} {tl th : TO} {pos p2 : Pos}

theorem po_none : PO X none tNoPart := by
  intro pins s σ H Q I h
  rw [evalPart_none]
  exact wpAny_pure ⟨none, H, I, .none, h⟩
theorem po_some (h : PE X e te) : PO X (some e) (tPart te) := by
  intro pins s σ H Q I hw
  rw [evalPart_some]
  refine thn (h pins s σ H _ I hw) fun u s1 ⟨x, H1, I1, r1, q1⟩ => ?_
  obtain ⟨i, rfl, q⟩ := q1
  obtain ⟨t, rfl⟩ := r1
  exact ⟨some i, H1, I1, .int i t, q⟩

/-- what a slice of a value is, by values: the slice object stands at sl -/
def SlR (X : Cx) (r : V → Option Int → Option Int → Hp → VK → Prop) : Prop :=
  ∀ (pins : List (Addr × Obj)) (s : Shared) (σ : St) (H : Hp) (x : V) (v vl vu : Value) (lo hi : Option Int) (sl : Addr) (Q : VK), Inv X pins σ H s → RelV x v → s.heap.IsSliceOf sl vl vu .none → IsPart vl lo → IsPart vu hi → r x lo hi H Q →
    ∃ T id, typeLookup (.type T) "__getitem__" = pure (some (.builtin id)) ∧ s.TypeIs v T ∧ wpAny (model X.prog X.w) X.A (getItem v (.ref sl)) (EP X pins σ Q) X.xe s
theorem SlR.or {r r' : V → Option Int → Option Int → Hp → VK → Prop} (h : SlR X r) (h' : SlR X r') : SlR X (fun x lo hi H Q => r x lo hi H Q ∨ r' x lo hi H Q) := by
  intro pins s σ H x v vl vu lo hi sl Q I rx hs pl pu q
  rcases q with q | q
  · exact h pins s σ H x v vl vu lo hi sl Q I rx hs pl pu q
  · exact h' pins s σ H x v vl vu lo hi sl Q I rx hs pl pu q
def tSl (r : V → Option Int → Option Int → Hp → VK → Prop) (te : TE) (tl th : TO) : TE := fun σ H Q => te σ H fun x H1 => tl σ H1 fun l H2 => th σ H2 fun u H3 => r x l u H3 Q
/-- a[lo:hi], any a -/
theorem pe_slice {r : V → Option Int → Option Int → Hp → VK → Prop} (hr : SlR X r) (he : PE X e te) (hl : PO X lo tl) (hu : PO X hi th) : PE X (.Subscript e (.Slice lo hi none p2) pos) (tSl r te tl th) := by
  intro pins s σ H Q I h
  refine Subscript_ (thn (he pins s σ H _ I h) fun v s1 ⟨x, H1, I1, r1, q1⟩ => ?_)
  refine wpAny_Slice (thn (hl pins s1 σ H1 _ I1 q1) fun vl s2 ⟨l, H2, I2, pl, q2⟩ => thn (hu pins s2 σ H2 _ I2 q2) fun vu s3 ⟨u, H3, I3, pu, q3⟩ => ?_)
  rw [evalPart_none]
  refine wpAny_pure ?_
  have I4 : Inv X pins σ H3 { s3 with heap := s3.heap.push { cls := .type "slice", data := .fields #[vl, vu, .none] } } := I3.kept (t' := s3.toks) fun b ob q => Heap.get?_push_of_some _ q
  obtain ⟨T, id, hT, ht, hg⟩ := hr pins { s3 with heap := s3.heap.push { cls := .type "slice", data := .fields #[vl, vu, .none] } } σ H3 x v vl vu l u s3.heap.objs.size Q I4 r1 (Heap.IsSliceOf.new ..) pl pu q3
  show wpAny (model X.prog X.w) X.A (subscriptTail e (.Slice lo hi none p2) v (.ref s3.heap.objs.size)) (EP X pins σ Q) X.xe { s3 with heap := s3.heap.push { cls := .type "slice", data := .fields #[vl, vu, .none] } }
  exact tail_any (ops := [.ref s3.heap.objs.size, v]) ht hT hg (by with_unfolding_all rfl)

/-- the items of xs[lo:hi] -/
def cutV (xs : List V) (lo hi : Option Int) : List V := (xs.drop (HT.sIx xs.length 0 lo)).take (HT.sIx xs.length xs.length hi - HT.sIx xs.length 0 lo)
theorem cutV_length (xs : List V) (lo hi : Option Int) : (cutV xs lo hi).length ≤ xs.length := by
  unfold cutV
  rw [List.length_take, List.length_drop]
  omega
/-- t[lo:hi], not the whole of it (the whole would be t itself) -/
def rSlT (K : PySem.W.Frag) : V → Option Int → Option Int → Hp → VK → Prop := fun x lo hi H Q => ∃ a xs, x = .ref a ∧ SqT K H a xs ∧
  ¬ (HT.sIx xs.length 0 lo = 0 ∧ HT.sIx xs.length xs.length hi = xs.length) ∧ ∀ p, H p = none → Q (.ref p) (upd H p (.tup (cutV xs lo hi)))
theorem sl_tup : SlR X (rSlT X.K) := by
  intro pins s σ H x v vl vu lo hi sl Q I rx hs pl pu h
  obtain ⟨a, xs, rfl, hx, hw, q⟩ := h
  cases rx
  obtain ⟨its, r, ht, hz⟩ := I.tuple hx
  have hlen : its.toArray.size = xs.length := by rw [List.size_toArray]; exact r.length.symm
  refine ⟨"tuple", _, PyProof.Rows.slot_tuple_getitem.lookup, ht.typeIs, ?_⟩
  refine HT.getItem_tuple_cut ht hs pl pu (by rw [hlen]; exact hw) ?_ (by rw [hlen]; exact hz)
  rw [hlen]
  refine ⟨.ref s.heap.objs.size, _, I.laid (t' := s.toks) (o := .tup (cutV xs lo hi)) (fun b ob q => Heap.get?_push_of_some _ q) (Nat.le_refl _) ?_, rfl, q _ (I.hok.fresh (Nat.le_refl _))⟩
  exact ⟨Nat.le_trans (cutV_length xs lo hi) hz, _, (r.drop (HT.sIx xs.length 0 lo)).take (HT.sIx xs.length xs.length hi - HT.sIx xs.length 0 lo), IsTup.new _ _⟩

/-! ### t < u, t + u -/
def rLtT (K : PySem.W.Frag) : R2 := fun x y H Q => ∃ a b ns ms, x = .ref a ∧ y = .ref b ∧ SqT K H a (ns.map V.int) ∧ SqT K H b (ms.map V.int) ∧ Q (.bl (HT.lexLt ns ms)) H
theorem op_ltT (hu : X.A.units < cLine) : OpR X (compareOp .Lt) (rLtT X.K) := by
  intro pins s σ H x y v u Q I rx ry h
  obtain ⟨a, b, ns, ms, rfl, rfl, ha, hb, q⟩ := h
  cases rx
  cases ry
  obtain ⟨its, r1, p1, _⟩ := I.tuple ha
  obtain ⟨its2, r2, p2, _⟩ := I.tuple hb
  have i1 : IntsAre its.toArray.toList ns := intsAre_of r1
  have i2 : IntsAre its2.toArray.toList ms := intsAre_of r2
  exact HT.lt_tupInts p1 p2 i1 i2 hu ⟨.bl (HT.lexLt ns ms), H, I, rfl, q⟩
/-- t + u, t not empty: u empty gives t itself -/
def rCatT (K : PySem.W.Frag) : R2 := fun x y H Q => ∃ a b xs ys, x = .ref a ∧ y = .ref b ∧ SqT K H a xs ∧ SqT K H b ys ∧ xs ≠ [] ∧ xs.length + ys.length ≤ sizeLine ∧
  (ys = [] → Q (.ref a) H) ∧ (ys ≠ [] → ∀ p, H p = none → Q (.ref p) (upd H p (.tup (xs ++ ys))))
theorem Vals.nil_iff {xs : List V} {us : List Value} (r : Vals xs us) : us = [] ↔ xs = [] := by
  cases r with
  | nil => simp
  | cons _ _ => simp
theorem op_catT : OpR X (binaryOp .Add) (rCatT X.K) := by
  intro pins s σ H x y v u Q I rx ry h
  obtain ⟨a, b, xs, ys, rfl, rfl, ha, hb, hx, hz, q1, q2⟩ := h
  cases rx
  cases ry
  obtain ⟨its, r1, p1, _⟩ := I.tuple ha
  obtain ⟨its2, r2, p2, _⟩ := I.tuple hb
  refine HT.cat_tup p1 p2 (fun z => hx (r1.nil_iff.mp z)) (fun z => ⟨.ref a, H, I, rfl, q1 (r2.nil_iff.mp z)⟩) (fun z => ?_) (by rw [← r1.length, ← r2.length]; exact hz)
  refine ⟨.ref s.heap.objs.size, _, I.laid (t' := s.toks) (o := .tup (xs ++ ys)) (fun b ob q => Heap.get?_push_of_some _ q) (Nat.le_refl _) ?_, rfl, q2 (fun w => z (r2.nil_iff.mpr w)) _ (I.hok.fresh (Nat.le_refl _))⟩
  exact ⟨by rw [List.length_append]; exact hz, _, r1.append r2, IsTup.new _ _⟩
/-- tuple(t) -/
theorem call_tupleT : CallR X (.type "tuple") (fun xs H Q => ∃ a ys, xs = [.ref a] ∧ SqT X.K H a ys ∧ Q (.ref a) H) := by
  intro pins s σ H xs us Q I r h
  obtain ⟨a, ys, rfl, ha, q⟩ := h
  obtain ⟨u, rfl, ru⟩ := vals1 r
  cases ru
  obtain ⟨its, _, p1, _⟩ := I.tuple ha
  exact call_tuple_same (items := its.toArray) p1 ⟨.ref a, H, I, rfl, q⟩
end
end L2

namespace L2
open PySem PySem.Spec PyProof.Rows

/-! ### places -/
/-- the place that an index of any sign means -/
def ixN (n : Nat) (i : Int) : Option Nat := if 0 ≤ i then (if i < n then some i.toNat else none) else if -(n : Int) ≤ i then some (i + n).toNat else none
def atI {α : Type} (xs : List α) (i : Int) : Option α := (ixN xs.length i).bind fun j => xs[j]?
theorem ixN_seq {n : Nat} {i : Int} {j : Nat} (h : ixN n i = some j) : seqIndex? i n = some j ∧ j < n ∧ -(n : Int) ≤ i ∧ i < n := by
  unfold ixN at h
  by_cases h0 : 0 ≤ i
  · rw [if_pos h0] at h
    by_cases h1 : i < n
    · rw [if_pos h1] at h
      have e : i.toNat = j := Option.some.inj h
      exact ⟨by rw [seqIndex_of h0 h1, e], by omega, by omega, h1⟩
    · rw [if_neg h1] at h; cases h
  · rw [if_neg h0] at h
    by_cases h1 : -(n : Int) ≤ i
    · rw [if_pos h1] at h
      have e : (i + n).toNat = j := Option.some.inj h
      exact ⟨by rw [seqIndex_neg (by omega) h1, e], by omega, h1, by omega⟩
    · rw [if_neg h1] at h; cases h
theorem atI_get {α : Type} {xs : List α} {i : Int} {v : α} (h : atI xs i = some v) : ∃ j, seqIndex? i xs.length = some j ∧ xs[j]? = some v ∧ j < xs.length ∧ -(xs.length : Int) ≤ i ∧ i < xs.length := by
  unfold atI at h
  cases e : ixN xs.length i with
  | none => rw [e] at h; cases h
  | some j =>
    rw [e] at h
    obtain ⟨h1, h2, h3, h4⟩ := ixN_seq e
    exact ⟨j, h1, h, h2, h3, h4⟩
theorem atI_nat {α : Type} {xs : List α} {j : Nat} {v : α} (h : xs[j]? = some v) : atI xs (j : Int) = some v := by
  have hj : j < xs.length := (List.getElem?_eq_some_iff.mp h).1
  have e : ixN xs.length (j : Int) = some j := by
    unfold ixN
    rw [if_pos (by omega), if_pos (by omega)]; simp
  unfold atI; rw [e]; exact h
theorem atI_last {α : Type} (xs : List α) (v : α) : atI (xs ++ [v]) (-1) = some v := by
  have hl : (xs ++ [v]).length = xs.length + 1 := by simp
  have e : ixN (xs ++ [v]).length (-1) = some xs.length := by
    unfold ixN
    rw [hl, if_neg (by decide), if_pos (by omega)]
    congr 1
    omega
  unfold atI
  rw [e]
  show (xs ++ [v])[xs.length]? = some v
  simp

/-! ### what may be subscripted -/
/-- what stands as an index of a plain subscript -/
def PlainIx (b : Expr) : Prop := ∀ o i, subscripted b false o i = operate [o, i] (getItem o i)
/-- a subscript by values -/
def IxR (X : Cx) (r : R2) : Prop :=
  ∀ (value slice : Expr) (pins : List (Addr × Obj)) (s : Shared) (σ : St) (H : Hp) (x y : V) (v u : Value) (Q : VK), Inv X pins σ H s → RelV x v → RelV y u → r x y H Q →
    subscripted slice false v u = operate [v, u] (getItem v u) → wpAny (model X.prog X.w) X.A (subscriptTail value slice v u) (EP X pins σ Q) X.xe s
/-- a call of a builtin's method by values: the receiver, the arguments -/
def MtR (X : Cx) (id : String) (r : V → List V → Hp → VK → Prop) : Prop :=
  ∀ (pins : List (Addr × Obj)) (s : Shared) (σ : St) (H : Hp) (x : V) (xs : List V) (v : Value) (us : List Value) (Q : VK), Inv X pins σ H s → RelV x v → Vals xs us → r x xs H Q →
    wpAny (model X.prog X.w) X.A (call (.builtin id) (v :: us)) (EP X pins σ Q) X.xe s
section
variable {X : Cx} {a b : Expr} {ta tb : TE} {pos : Pos}
theorem IxR.or {r r' : R2} (h : IxR X r) (h' : IxR X r') : IxR X (fun x y H Q => r x y H Q ∨ r' x y H Q) := by
  intro value slice pins s σ H x y v u Q I rx ry q hs
  rcases q with q | q
  · exact h value slice pins s σ H x y v u Q I rx ry q hs
  · exact h' value slice pins s σ H x y v u Q I rx ry q hs
theorem MtR.or {id : String} {r r' : V → List V → Hp → VK → Prop} (h : MtR X id r) (h' : MtR X id r') : MtR X id (fun x xs H Q => r x xs H Q ∨ r' x xs H Q) := by
  intro pins s σ H x xs v us Q I rx rs q
  rcases q with q | q
  · exact h pins s σ H x xs v us Q I rx rs q
  · exact h' pins s σ H x xs v us Q I rx rs q
/-- a[b] -/
theorem pe_ix {r : R2} (hr : IxR X r) (ha : PE X a ta) (hb : PE X b tb) (hs : PlainIx b) : PE X (.Subscript a b pos) (tOp r ta tb) := by
  intro pins s σ H Q I h
  exact Subscript_ (binT ha hb I h fun v u s2 x y H2 I2 rx ry q => hr a b pins s2 σ H2 x y v u Q I2 rx ry q (hs _ _))

def rIxL (K : PySem.W.Frag) : R2 := fun x y H Q => ∃ p xs i v, x = .ref p ∧ y = .int i ∧ SqL K H p xs ∧ atI xs i = some v ∧ Q v H
def rIxT (K : PySem.W.Frag) : R2 := fun x y H Q => ∃ p xs i v, x = .ref p ∧ y = .int i ∧ SqT K H p xs ∧ atI xs i = some v ∧ Q v H
def rIxS : R2 := fun x y H Q => ∃ z i c, x = .str z ∧ y = .int i ∧ z.length ≤ sizeLine ∧ atI z.cps.toList i = some c ∧ Q (.str ⟨#[c]⟩) H
theorem ix_list : IxR X (rIxL X.K) := by
  intro value slice pins s σ H x y v u Q I rx ry h hs
  obtain ⟨p, xs, i, z, rfl, rfl, hq, he, q⟩ := h
  cases rx
  obtain ⟨t, rfl⟩ := ry
  obtain ⟨its, r, pl, hz⟩ := I.list hq
  obtain ⟨j, h1, h2, h3, h4, h5⟩ := atI_get he
  obtain ⟨w, ew, rw'⟩ := r.get h2
  have hl := r.length
  have hn := line63
  have fin : EP X pins σ Q w s := ⟨z, H, I, rw', q⟩
  by_cases h0 : 0 ≤ i
  · have hj : i.toNat = j := by
      rw [seqIndex_of h0 h5] at h1
      exact Option.some.inj h1
    exact item_listR pl.isList h0 (by omega) (by rw [hj]; simpa using ew) fin hs
  · have hj : (i + (its.toArray.size : Int)).toNat = j := by
      rw [seqIndex_neg (by omega) h4] at h1
      rw [List.size_toArray, ← hl]
      exact Option.some.inj h1
    exact subscriptTail_builtinR (x := w) pl.isList.typeIs slot_list_getitem.lookup
      (wpAny_getItem_list_neg (Q := fun r s' => r = w ∧ EP X pins σ Q r s') pl.isList (by omega) (by rw [List.size_toArray] <;> omega) (by omega) (by rw [hj]; simpa using ew) ⟨rfl, fin⟩) hs
theorem ix_tup : IxR X (rIxT X.K) := by
  intro value slice pins s σ H x y v u Q I rx ry h hs
  obtain ⟨p, xs, i, z, rfl, rfl, hq, he, q⟩ := h
  cases rx
  obtain ⟨t, rfl⟩ := ry
  obtain ⟨its, r, pl, hz⟩ := I.tuple hq
  obtain ⟨j, h1, h2, h3, h4, h5⟩ := atI_get he
  obtain ⟨w, ew, rw'⟩ := r.get h2
  have hl := r.length
  have hn := line63
  have fin : EP X pins σ Q w s := ⟨z, H, I, rw', q⟩
  exact subscriptTail_builtinR (x := w) pl.typeIs slot_tuple_getitem.lookup
    (getItem_tuple (j := j) (Q := fun r s' => r = w ∧ EP X pins σ Q r s') pl (by omega) (by omega) (by rw [List.size_toArray, ← hl]; exact h1) (by simpa using ew) ⟨rfl, fin⟩) hs
theorem ix_str : IxR X rIxS := by
  intro value slice pins s σ H x y v u Q I rx ry h hs
  obtain ⟨z, i, c, rfl, rfl, hz, he, q⟩ := h
  obtain ⟨t, rfl⟩ := rx
  obtain ⟨t', rfl⟩ := ry
  obtain ⟨j, h1, h2, h3, h4, h5⟩ := atI_get he
  have hl : z.cps.toList.length = z.length := by simp [Str.length]
  rw [hl] at h1 h4 h5
  have hn := line63
  exact tail_any (typeIs_str s z t) slot_str_getitem.lookup (getItem_str (c := c) (by
    have e1 : decide (i < -(2 ^ 63 : Int)) = false := decide_eq_false (by omega)
    have e2 : decide (i ≥ 2 ^ 63) = false := decide_eq_false (by omega)
    rw [e1, e2, Bool.or_false]) (by rw [h1]; simpa using h2) ⟨.str ⟨#[c]⟩, H, I.tok _, ⟨_, rfl⟩, q⟩) hs
/-- list, tuple or str -/
def rIx (K : PySem.W.Frag) : R2 := fun x y H Q => rIxL K x y H Q ∨ rIxT K x y H Q ∨ rIxS x y H Q
theorem ix_seq : IxR X (rIx X.K) := ix_list.or (ix_tup.or ix_str)

/-! ### xs[i] = v, any sign -/
/-- the list's object behind a store -/
theorem mapSeq_set (its : List Value) (n j : Nat) (u : Value) : Obj.mapSeq (·.setIfInBounds j u) { cls := .type "list", data := .seq its.toArray n } = { cls := .type "list", data := .seq (its.set j u).toArray n } := by
  simp [Obj.mapSeq]
theorem Inv.lst {pins : List (Addr × Obj)} {σ : St} {H : Hp} {s : Shared} {p : Addr} {xs : List V} (I : Inv X pins σ H s) (h : H p = some (.lst xs)) :
    ∃ (its : List Value) (n : Nat), Vals xs its ∧ s.heap.get? p = some { cls := .type "list", data := .seq its.toArray n } ∧ xs.length ≤ sizeLine := by
  obtain ⟨z, its, n, r, e⟩ := I.hok p _ h
  exact ⟨its, n, r, e, z⟩
/-- the list at p is written by an update of its object -/
theorem Inv.lstUpd {pins : List (Addr × Obj)} {σ : St} {H : Hp} {s : Shared} {p : Addr} {xs ys : List V} {its its' : List Value} {n n' : Nat} {f : Obj → Obj} (I : Inv X pins σ H s) (h : H p = some (.lst xs))
    (ho : s.heap.get? p = some { cls := .type "list", data := .seq its.toArray n }) (hf : f { cls := .type "list", data := .seq its.toArray n } = { cls := .type "list", data := .seq its'.toArray n' }) (r : Vals ys its') (hz : ys.length ≤ sizeLine) (t : Nat) :
    Inv X pins σ (upd H p (.lst ys)) { s with heap := s.heap.update p f, toks := t } := by
  have e : (s.heap.update p f).get? p = some { cls := .type "list", data := .seq its'.toArray n' } := by
    rw [Heap.get?_update_self f ho (by rw [hf] <;> rfl), hf]
  refine I.write (x := p) (e := p) (by rw [h]; trivial) (.inl rfl) (fun b u hb q => (Heap.get?_update_other _ _ (Ne.symm hb)).trans q) ⟨_, e⟩ ?_
  exact ⟨hz, its', n', r, e⟩
def rSetL : V → V → V → Hp → (Hp → Prop) → Prop := fun o i v H Q => ∃ p xs k j, o = .ref p ∧ i = .int k ∧ H p = some (.lst xs) ∧ ixN xs.length k = some j ∧ Q (upd H p (.lst (xs.set j v)))
theorem set_list : PSet X rSetL := by
  intro pins s σ H o i v ov iv u Q I ro ri rv h
  obtain ⟨p, xs, k, j, rfl, rfl, hp, hj, q⟩ := h
  cases ro
  obtain ⟨t, rfl⟩ := ri
  obtain ⟨its, n, r, ho, hz⟩ := I.lst hp
  obtain ⟨h1, h2, h3, h4⟩ := ixN_seq hj
  have hl := r.length
  have hn := line63
  have I' : Inv X pins σ (upd H p (.lst (xs.set j v))) { s with heap := s.heap.update p (Obj.mapSeq (·.setIfInBounds j u)) } :=
    I.lstUpd hp ho (mapSeq_set its n j u) (r.set rv j) (by rw [List.length_set]; exact hz) s.toks
  by_cases h0 : 0 ≤ k
  · have hk : k.toNat = j := by
      rw [seqIndex_of h0 h4] at h1
      exact Option.some.inj h1
    exact PySem.W.ki_setAt ho h0 (by omega) (by rw [List.size_toArray, ← hl]; exact h4) (by rw [hk]; exact ⟨_, I', q⟩)
  · have hk : (k + (its.toArray.size : Int)).toNat = j := by
      rw [seqIndex_neg (by omega) h3] at h1
      rw [List.size_toArray, ← hl]
      exact Option.some.inj h1
    exact PySem.W.ki_setBack ho (by omega) (by rw [List.size_toArray, ← hl]; exact h3) (by omega) (by rw [hk]; exact ⟨_, I', q⟩)

/-! ### slices -/
theorem slice_bounds (lo hi : Option Int) (n : Nat) : (sliceBounds lo hi none n).1 = ((HT.sIx n 0 lo : Nat) : Int) ∧ (sliceBounds lo hi none n).2.1 = ((HT.sIx n n hi : Nat) : Int) ∧ (sliceBounds lo hi none n).2.2 = 1 := by
  refine ⟨?_, ?_, rfl⟩
  · cases lo with
    | none => simp [sliceBounds, HT.sIx]
    | some i =>
      simp only [sliceBounds, HT.sIx, Option.getD_none, show (1 : Int) > 0 by decide, if_true]
      by_cases h : i < 0
      · simp only [h, if_true] <;> omega
      · simp only [h, if_false] <;> omega
  · cases hi with
    | none => simp [sliceBounds, HT.sIx]
    | some i =>
      simp only [sliceBounds, HT.sIx, Option.getD_none, show (1 : Int) > 0 by decide, if_true]
      by_cases h : i < 0
      · simp only [h, if_true] <;> omega
      · simp only [h, if_false] <;> omega
theorem slicePick_cut (its : List Value) (lo hi : Option Int) : slicePick its.toArray lo hi none = ((its.drop (HT.sIx its.length 0 lo)).take (HT.sIx its.length its.length hi - HT.sIx its.length 0 lo)).toArray := by
  obtain ⟨h1, h2, h3⟩ := slice_bounds lo hi its.toArray.size
  unfold slicePick
  rw [h1, h2, h3]
  simp only [sliceRange_one, pick_run, List.size_toArray] <;> rfl
/-- xs[lo:hi] of a list: a new list -/
def rSlL (K : PySem.W.Frag) : V → Option Int → Option Int → Hp → VK → Prop := fun x lo hi H Q => ∃ a xs, x = .ref a ∧ SqL K H a xs ∧ ∀ p, H p = none → Q (.ref p) (upd H p (.lst (cutV xs lo hi)))
theorem sl_list : SlR X (rSlL X.K) := by
  intro pins s σ H x v vl vu lo hi sl Q I rx hs pl pu h
  obtain ⟨a, xs, rfl, hx, q⟩ := h
  cases rx
  obtain ⟨its, r, ht, hz⟩ := I.list hx
  have hlen := r.length
  refine ⟨"list", _, slot_list_getitem.lookup, ht.isList.typeIs, ?_⟩
  refine wpAny_getItem_list_slice ht.isList hs pl pu .none (by simp) ?_ (by rw [List.size_toArray] <;> omega)
  rw [slicePick_cut, ← hlen]
  refine ⟨.ref s.heap.objs.size, _, I.laid (t' := s.toks) (o := .lst (cutV xs lo hi)) (fun b ob q => Heap.get?_push_of_some _ q) (Nat.le_refl _) ?_, rfl, q _ (I.hok.fresh (Nat.le_refl _))⟩
  exact ⟨Nat.le_trans (cutV_length xs lo hi) hz, _, 0, (r.drop (HT.sIx xs.length 0 lo)).take (HT.sIx xs.length xs.length hi - HT.sIx xs.length 0 lo), Heap.get?_push_size _ rfl⟩

/-! ### in, not in: flat items -/
def flatV : V → Bool
  | .non => true
  | .bl _ => true
  | .int _ => true
  | .str _ => true
  | _ => false
/-- == of flat values -/
def eqV : V → V → Bool
  | .non, .non => true
  | .bl a, .bl b => a == b
  | .bl a, .int b => (if a then 1 else 0) == b
  | .int a, .bl b => a == (if b then 1 else 0)
  | .int a, .int b => a == b
  | .str a, .str b => a == b
  | _, _ => false
theorem eqAt_V {A : Around} {s : Shared} {y x : V} {u v : Value} (ry : RelV y u) (rx : RelV x v) (fy : flatV y = true) (fx : flatV x = true) : SeqAt.EqAt A s u v (eqV y x) := by
  cases y with
  | non =>
    cases ry
    cases x with
    | non => cases rx; exact SeqAt.EqAt.same _
    | bl b => cases rx; exact SeqAt.EqAt.none_bool b
    | int b => obtain ⟨t, rfl⟩ := rx; exact SeqAt.EqAt.none_int b t
    | str b => obtain ⟨t, rfl⟩ := rx; exact SeqAt.EqAt.none_str b t
    | _ => exact absurd (show false = true from fx) Bool.false_ne_true
  | bl a =>
    cases ry
    cases x with
    | non => cases rx; exact SeqAt.EqAt.bool_none a
    | bl b => cases rx; exact SeqAt.EqAt.bool_bool a b
    | int b => obtain ⟨t, rfl⟩ := rx; exact SeqAt.EqAt.bool_int a b t
    | str b => obtain ⟨t, rfl⟩ := rx; exact SeqAt.EqAt.bool_str a b t
    | _ => exact absurd (show false = true from fx) Bool.false_ne_true
  | int a =>
    obtain ⟨t', rfl⟩ := ry
    cases x with
    | non => cases rx; exact SeqAt.EqAt.int_none a t'
    | bl b => cases rx; exact SeqAt.EqAt.int_bool a t' b
    | int b => obtain ⟨t, rfl⟩ := rx; exact SeqAt.EqAt.int_int a t' b t
    | str b => obtain ⟨t, rfl⟩ := rx; exact SeqAt.EqAt.int_str a t' b t
    | _ => exact absurd (show false = true from fx) Bool.false_ne_true
  | str a =>
    obtain ⟨t', rfl⟩ := ry
    cases x with
    | non => cases rx; exact SeqAt.EqAt.str_none a t'
    | bl b => cases rx; exact SeqAt.EqAt.str_bool a t' b
    | int b => obtain ⟨t, rfl⟩ := rx; exact SeqAt.EqAt.str_int a t' b t
    | str b => obtain ⟨t, rfl⟩ := rx; exact SeqAt.EqAt.str_str a t' b t
    | _ => exact absurd (show false = true from fx) Bool.false_ne_true
  | _ => exact absurd (show false = true from fy) Bool.false_ne_true
/-- the items' answers, read off the values (a value's own answer does not lean on its token) -/
def eqU (x : V) (u : Value) : Bool := match u with
  | .none => eqV .non x
  | .bool b => eqV (.bl b) x
  | .int i _ => eqV (.int i) x
  | .str z _ => eqV (.str z) x
  | _ => false
theorem eqU_of {x y : V} {u : Value} (r : RelV y u) (f : flatV y = true) : eqU x u = eqV y x := by
  cases y with
  | non => cases r; rfl
  | bl b => cases r; rfl
  | int i => obtain ⟨t, rfl⟩ := r; rfl
  | str z => obtain ⟨t, rfl⟩ := r; rfl
  | _ => exact absurd (show false = true from f) Bool.false_ne_true
theorem any_eqU {x : V} : ∀ {xs : List V} {us : List Value}, Vals xs us → xs.all flatV = true → us.any (eqU x) = xs.any fun y => eqV y x
  | _, _, .nil, _ => rfl
  | y :: xs, u :: us, .cons r t, f => by
    rw [List.all_cons, Bool.and_eq_true] at f
    rw [List.any_cons, List.any_cons, eqU_of r f.1, any_eqU t f.2]
theorem mem_eqAt {A : Around} {s : Shared} {x : V} {v : Value} (rx : RelV x v) (fx : flatV x = true) : ∀ {xs : List V} {us : List Value}, Vals xs us → xs.all flatV = true → ∀ u ∈ us, SeqAt.EqAt A s u v (eqU x u)
  | _, _, .nil, _ => fun u hu => by cases hu
  | y :: xs, u :: us, .cons r t, f => fun u' hu => by
    rw [List.all_cons, Bool.and_eq_true] at f
    rcases List.mem_cons.mp hu with rfl | hu
    · rw [eqU_of r f.1]; exact eqAt_V r rx f.1 fx
    · exact mem_eqAt rx fx t f.2 u' hu
def inV (x : V) (xs : List V) : Bool := xs.any fun y => eqV y x
/-- x in a list or tuple of flat items -/
def rIn (K : PySem.W.Frag) (neg : Bool) : R2 := fun x y H Q => ∃ p xs, y = .ref p ∧ (SqL K H p xs ∨ SqT K H p xs) ∧ flatV x = true ∧ xs.all flatV = true ∧ Q (.bl (if neg then !inV x xs else inV x xs)) H
theorem op_in_seq : OpR X (compareOp .In) (rIn X.K false) := by
  intro pins s σ H x y v u Q I rx ry h
  obtain ⟨p, xs, rfl, hq, fx, fs, q⟩ := h
  cases ry
  rcases hq with hq | hq
  · obtain ⟨its, r, pl, hz⟩ := I.list hq
    refine SeqAt.in_listAt (eqU x) pl.isList (fun w hw => mem_eqAt rx fx r fs w (by simpa using hw)) ⟨.bl _, H, I, rfl, ?_⟩
    rw [show its.toArray.any (eqU x) = its.any (eqU x) by simp, any_eqU r fs]
    exact q
  · obtain ⟨its, r, pl, hz⟩ := I.tuple hq
    refine SeqAt.in_tupleAt (eqU x) pl (fun w hw => mem_eqAt rx fx r fs w (by simpa using hw)) ⟨.bl _, H, I, rfl, ?_⟩
    rw [show its.toArray.any (eqU x) = its.any (eqU x) by simp, any_eqU r fs]
    exact q
theorem op_notIn_seq : OpR X (compareOp .NotIn) (rIn X.K true) := by
  intro pins s σ H x y v u Q I rx ry h
  obtain ⟨p, xs, rfl, hq, fx, fs, q⟩ := h
  cases ry
  rcases hq with hq | hq
  · obtain ⟨its, r, pl, hz⟩ := I.list hq
    refine SeqAt.notIn_listAt (eqU x) pl.isList (fun w hw => mem_eqAt rx fx r fs w (by simpa using hw)) ⟨.bl _, H, I, rfl, ?_⟩
    rw [show its.toArray.any (eqU x) = its.any (eqU x) by simp, any_eqU r fs]
    exact q
  · obtain ⟨its, r, pl, hz⟩ := I.tuple hq
    refine SeqAt.notIn_tupleAt (eqU x) pl (fun w hw => mem_eqAt rx fx r fs w (by simpa using hw)) ⟨.bl _, H, I, rfl, ?_⟩
    rw [show its.toArray.any (eqU x) = its.any (eqU x) by simp, any_eqU r fs]
    exact q
theorem op_notIn_str : OpR X (compareOp .NotIn) (fun x y H Q => ∃ i j, x = .str i ∧ y = .str j ∧ Q (.bl (!(!(Builtin.Str.occurrences j i 0 j.length 1).isEmpty))) H) := by
  intro pins s σ H x y v u Q I rx ry h
  obtain ⟨i, j, rfl, rfl, q⟩ := h
  obtain ⟨t, rfl⟩ := rx
  obtain ⟨t', rfl⟩ := ry
  exact notIn_str ⟨.bl _, H, I, rfl, q⟩

/-! ### len, list(x), tuple(x) of any list or tuple that is read -/
theorem call_len_seq : CallR X (.builtin "len") (fun xs H Q => ∃ p ys, xs = [.ref p] ∧ (SqL X.K H p ys ∨ SqT X.K H p ys) ∧ Q (.int ys.length) H) := by
  intro pins s σ H xs us Q I r h
  obtain ⟨p, ys, rfl, hq, q⟩ := h
  obtain ⟨u, rfl, rx⟩ := vals1 r
  cases rx
  have hn := line63
  rcases hq with hq | hq
  · obtain ⟨its, r', pl, hz⟩ := I.list hq
    have hlen := r'.length
    exact Calls.call_len_list pl.isList (by simp only [List.size_toArray] <;> omega) ⟨.int ys.length, H, I.tok _, ⟨s.toks + 1, by rw [List.size_toArray, hlen]⟩, q⟩
  · obtain ⟨its, r', pl, hz⟩ := I.tuple hq
    have hlen := r'.length
    exact len_tuple pl (by simp only [List.size_toArray] <;> omega) ⟨.int ys.length, H, I.tok _, ⟨s.toks + 1, by rw [List.size_toArray, hlen]⟩, q⟩
theorem call_len_str : CallR X (.builtin "len") (fun xs H Q => ∃ z, xs = [.str z] ∧ z.length ≤ sizeLine ∧ Q (.int z.length) H) := by
  intro pins s σ H xs us Q I r h
  obtain ⟨z, rfl, hz, q⟩ := h
  obtain ⟨u, rfl, t, rfl⟩ := vals1 r
  have hn := line63
  exact len_str (by omega) ⟨.int z.length, H, I.tok _, ⟨_, rfl⟩, q⟩
theorem CallR.or {f : Value} {r r' : List V → Hp → VK → Prop} (h : CallR X f r) (h' : CallR X f r') : CallR X f (fun xs H Q => r xs H Q ∨ r' xs H Q) := by
  intro pins s σ H xs us Q I rs q
  rcases q with q | q
  · exact h pins s σ H xs us Q I rs q
  · exact h' pins s σ H xs us Q I rs q
theorem call_list_of : CallR X (.type "list") (fun xs H Q => ∃ p ys, xs = [.ref p] ∧ (SqL X.K H p ys ∨ SqT X.K H p ys) ∧ ∀ l, H l = none → Q (.ref l) (upd H l (.lst ys))) := by
  intro pins s σ H xs us Q I r h
  obtain ⟨p, ys, rfl, hq, q⟩ := h
  obtain ⟨u, rfl, rx⟩ := vals1 r
  cases rx
  have fin : ∀ (its : List Value), Vals ys its → ys.length ≤ sizeLine → ∀ (h' : Heap) (c' : Nat), (∀ b o', s.heap.get? b = some o' → h'.get? b = some o') →
      h'.get? s.heap.objs.size = some { cls := .type "list", dict := none, data := .seq its.toArray c', slots := #[] } → EP X pins σ Q (.ref s.heap.objs.size) { s with heap := h' } := fun its r' hz h' c' kp e =>
    ⟨.ref s.heap.objs.size, _, I.laid (t' := s.toks) kp (Nat.le_refl _) (show ObjOk X.prog X.w _ h' _ (.lst ys) from ⟨hz, its, c', r', e⟩), rfl, q _ (I.hok.fresh (Nat.le_refl _))⟩
  rcases hq with hq | hq
  · obtain ⟨its, r', pl, hz⟩ := I.list hq
    have hlen := r'.length
    obtain ⟨o, ho, hc, n, hd⟩ := pl.isList
    exact call_list_seq p (.inl rfl) ho hc hd (fun h' c' kp e => fin its r' hz h' c' kp e) (by simp only [List.size_toArray] <;> omega)
  · obtain ⟨its, r', pl, hz⟩ := I.tuple hq
    have hlen := r'.length
    obtain ⟨o, ho, hc, n, hd⟩ := pl
    exact call_list_seq p (.inr rfl) ho hc hd (fun h' c' kp e => fin its r' hz h' c' kp e) (by simp only [List.size_toArray] <;> omega)
theorem call_tuple_of : CallR X (.type "tuple") (fun xs H Q => ∃ p ys, xs = [.ref p] ∧ ((SqL X.K H p ys ∧ ∀ l, H l = none → Q (.ref l) (upd H l (.tup ys))) ∨ (SqT X.K H p ys ∧ Q (.ref p) H))) := by
  intro pins s σ H xs us Q I r h
  obtain ⟨p, ys, rfl, h⟩ := h
  obtain ⟨u, rfl, rx⟩ := vals1 r
  cases rx
  rcases h with ⟨hq, q⟩ | ⟨hq, q⟩
  · obtain ⟨its, r', pl, hz⟩ := I.list hq
    have hlen := r'.length
    refine call_tuple_list pl.isList (fun h' kp => ?_) (by simp only [List.size_toArray] <;> omega)
    have I1 : Inv X pins σ H { s with heap := h' } := I.kept (t' := s.toks) kp
    have I2 : Inv X pins σ (upd H h'.objs.size (.tup ys)) { s with heap := h'.push { cls := .type "tuple", data := .seq its.toArray } } :=
      I1.laid (t' := s.toks) (fun b o e => Heap.get?_push_of_some _ e) (Nat.le_refl _) (show ObjOk X.prog X.w _ _ _ (.tup ys) from ⟨hz, its, r', IsTup.new _ _⟩)
    exact ⟨.ref h'.objs.size, _, I2, rfl, q _ (I1.hok.fresh (Nat.le_refl _))⟩
  · obtain ⟨its, r', pl, hz⟩ := I.tuple hq
    exact call_tuple_same pl ⟨.ref p, H, I, rfl, q⟩

/-! ### the call of a builtin's method: o.m(..) -/
/-- the value is of that builtin type -/
def tyV (K : PySem.W.Frag) (T : String) (x : V) (H : Hp) : Prop := match x with
  | .str _ => T = "str"
  | .int _ => T = "int"
  | .ref p => (T = "list" ∧ ∃ xs, SqL K H p xs) ∨ (T = "tuple" ∧ ∃ o, K.lookup p = some o ∧ o.cls = .type "tuple" ∧ o.dict = none) ∨
      (T = "dict" ∧ ((∃ kvs, H p = some (.dK kvs)) ∨ ∃ kvs, H p = some (.dT kvs))) ∨ (T = "set" ∧ ∃ S n, H p = some (.set S n))
  | _ => False
theorem tyV_is {pins : List (Addr × Obj)} {σ : St} {H : Hp} {s : Shared} {T : String} {x : V} {v : Value} (I : Inv X pins σ H s) (r : RelV x v) (ty : tyV X.K T x H) :
    s.TypeIs v T ∧ ∀ a, v = .ref a → ∃ ob, s.heap.get? a = some ob ∧ ob.dict = none := by
  cases x with
  | str z =>
    obtain ⟨t, rfl⟩ := r
    cases (show T = "str" from ty)
    exact ⟨typeIs_str s z t, fun _ e => nomatch e⟩
  | int i =>
    obtain ⟨t, rfl⟩ := r
    cases (show T = "int" from ty)
    exact ⟨typeIs_int s i t, fun _ e => nomatch e⟩
  | ref p =>
    cases r
    rcases ty with ⟨rfl, xs, hq⟩ | ⟨rfl, o, hk, hc, hd⟩ | ⟨rfl, hk⟩ | ⟨rfl, S, n, hk⟩
    · obtain ⟨its, _, pl, _⟩ := I.list hq
      refine ⟨pl.isList.typeIs, fun a e => ?_⟩
      cases e
      obtain ⟨o, n, e, c, hd, _⟩ := pl
      exact ⟨o, e, hd⟩
    · refine ⟨⟨o, I.kIn p o hk, hc⟩, fun a e => ?_⟩
      cases e
      exact ⟨o, I.kIn _ o hk, hd⟩
    · have z : ∃ o, s.heap.get? p = some o ∧ o.ExactDict := by
        rcases hk with ⟨kvs, hk⟩ | ⟨kvs, hk⟩
        · obtain ⟨_, _, _, _, o, _, _, e, ex, _⟩ := I.hok p _ hk
          exact ⟨o, e, ex⟩
        · obtain ⟨_, _, _, _, o, _, _, e, ex, _⟩ := I.hok p _ hk
          exact ⟨o, e, ex⟩
      obtain ⟨o, e, ex⟩ := z
      refine ⟨⟨o, e, ex.1⟩, fun a e2 => ?_⟩
      cases e2
      exact ⟨o, e, ex.2.1⟩
    · obtain ⟨o, _, _, _, e, ex, _⟩ := I.hok p _ hk
      refine ⟨⟨o, e, ex.1⟩, fun a e2 => ?_⟩
      cases e2
      exact ⟨o, e, ex.2.1⟩
  | _ => exact False.elim ty
def tBM0 (K : PySem.W.Frag) (T : String) (r : V → List V → Hp → VK → Prop) (to : TE) : TE := fun σ H Q => to σ H fun x H1 => tyV K T x H1 ∧ r x [] H1 Q
def tBM (K : PySem.W.Frag) (T : String) (r : V → List V → Hp → VK → Prop) (to : TE) (t : TA) : TE := fun σ H Q => to σ H fun x H1 => tyV K T x H1 ∧ t σ H1 fun xs H2 => r x xs H2 Q
variable {o e : Expr} {es : List Expr} {to : TE} {t : TA} {name : Str} {apos cpos : Pos} {T id : String} {r : V → List V → Hp → VK → Prop}
theorem pe_bm0 (pa : PlainAttrs T) (slot : Slot T name id) (hty : typeOf (.builtin id) = pure (.type "method_descriptor")) (hm : MtR X id r) (ho : PE X o to)
    (hbase : attributeBase o name X.env (eval o X.env) = eval o X.env := by rfl) (hline : (apos.endLine == cpos.line) = true := by rfl) : PE X (.Call (.Attribute o name apos) [] [] cpos) (tBM0 X.K T r to) := by
  intro pins s σ H Q I h
  refine wpAny_Call_method0_late hbase hline (thn (ho pins s σ H _ I h) fun v s1 ⟨x, H1, I1, r1, ty, q1⟩ => ?_)
  obtain ⟨h1, h2⟩ := tyV_is I1 r1 ty
  exact ⟨T, id, pa, slot, hty, h1, h2, Calls.callWith_builtin rfl (PySem.evalArgs_none (hm pins s1 σ H1 x [] v [] Q I1 r1 .nil q1))⟩
theorem pe_bm (pa : PlainAttrs T) (slot : Slot T name id) (hty : typeOf (.builtin id) = pure (.type "method_descriptor")) (hm : MtR X id r) (ho : PE X o to) (ha : PA X (e :: es) t)
    (hbase : attributeBase o name X.env (eval o X.env) = eval o X.env := by rfl)
    (hfew : ((backTo cpos (starEach (e :: es) X.env)).all (fun x => !x.1) && (backToKw cpos (keywordEach [] X.env)).all (fun x => x.1.isSome)
      && decide ((e :: es).length + ([] : List Keyword).length + (if ([] : List Keyword).isEmpty then 0 else 1) < 30)) = true := by rfl)
    (hline : (apos.endLine == cpos.line) = true := by rfl) (hs : starEach (e :: es) X.env = (false, eval e X.env) :: starEach es X.env := by rfl) (hplain : (backTo cpos (starEach es X.env)).any (·.1) = false := by rfl) :
    PE X (.Call (.Attribute o name apos) (e :: es) [] cpos) (tBM X.K T r to t) := by
  intro pins s σ H Q I h
  refine wpAny_Call_method_late hbase hfew hline rfl (thn (ho pins s σ H _ I h) fun v s1 ⟨x, H1, I1, r1, ty, q1⟩ => ?_)
  obtain ⟨h1, h2⟩ := tyV_is I1 r1 ty
  refine ⟨T, id, pa, slot, hty, h1, h2, ?_⟩
  have hA := ha cpos pins s1 σ H1 _ I1 q1
  rw [hs] at hA ⊢
  refine Calls.callWith_builtin (by show (false || (backTo cpos (starEach es X.env)).any (·.1)) = false; rw [hplain] <;> rfl) (Calls.evalArgs_plain ?_)
  exact thn hA fun us s2 ⟨vs, H2, I2, r2, q2⟩ => hm pins s2 σ H2 x vs v us Q I2 r1 r2 q2
/- xs.append(e), list.index on a module's tuple .. are MtR facts of 06m -/
end
end L2

namespace L2
open PySem PySem.Spec PyProof.Rows

def MtM (X : Cx) (id : String) (r : V → List V → Hp → VK → Prop) : Prop :=
  ∀ (pins : List (Addr × Obj)) (s : Shared) (σ : St) (H : Hp) (x : V) (xs : List V) (v : Value) (us : List Value) (Q : VK), Inv X pins σ H s → RelV x v → Vals xs us → r x xs H Q →
    wpAny (model X.prog X.w) X.A (call (.builtin id) (v :: us)) (EP X pins σ Q) X.xe s

/-! ### lists of values -/
theorem Vals.one : ∀ {x : V} {us : List Value}, Vals [x] us → ∃ u, us = [u] ∧ RelV x u
  | _, _, .cons r .nil => ⟨_, rfl, r⟩
theorem Vals.two : ∀ {x y : V} {us : List Value}, Vals [x, y] us → ∃ u v, us = [u, v] ∧ RelV x u ∧ RelV y v
  | _, _, _, .cons r (.cons q .nil) => ⟨_, _, rfl, r, q⟩
theorem Vals.zero : ∀ {us : List Value}, Vals [] us → us = []
  | _, .nil => rfl
theorem Vals.dropLast {xs : List V} {us : List Value} (h : Vals xs us) : Vals xs.dropLast us.dropLast := by
  induction h with
  | nil => exact .nil
  | cons r t ih =>
    cases t with
    | nil => exact .nil
    | cons q t' => exact .cons r ih
theorem Vals.eraseIdx : ∀ {xs : List V} {us : List Value} (i : Nat), Vals xs us → Vals (xs.eraseIdx i) (us.eraseIdx i)
  | _, _, _, .nil => .nil
  | _, _, 0, .cons _ t => t
  | _, _, i + 1, .cons r t => .cons r (Vals.eraseIdx i t)
theorem Vals.reverse {xs : List V} {us : List Value} (h : Vals xs us) : Vals xs.reverse us.reverse := by
  induction h with
  | nil => exact .nil
  | cons r t ih => rw [List.reverse_cons, List.reverse_cons]; exact Vals.append ih (.cons r .nil)
theorem Vals.rep {xs : List V} {us : List Value} (h : Vals xs us) : ∀ k : Nat, Vals (List.replicate k xs).flatten (List.replicate k us).flatten
  | 0 => .nil
  | k + 1 => by
    rw [List.replicate_succ, List.replicate_succ, List.flatten_cons, List.flatten_cons]
    exact Vals.append h (Vals.rep h k)
theorem erase_last {α : Type} (l : List α) : l.eraseIdx (l.length - 1) = l.dropLast := by
  induction l with
  | nil => rfl
  | cons a r ih =>
    cases r with
    | nil => rfl
    | cons b r =>
      have e : (a :: b :: r).length - 1 = ((b :: r).length - 1) + 1 := by
        have h1 : (a :: b :: r).length = r.length + 2 := rfl
        have h2 : (b :: r).length = r.length + 1 := rfl
        omega
      rw [e, List.eraseIdx_cons_succ, ih]
      all_goals rfl
theorem len_erase {α : Type} : ∀ (l : List α) (i : Nat), (l.eraseIdx i).length ≤ l.length
  | [], _ => Nat.le_refl _
  | _ :: _, 0 => Nat.le_succ _
  | _ :: r, i + 1 => Nat.succ_le_succ (len_erase r i)
theorem foldl_rep (its : List Value) : ∀ (k : Nat) (acc : List Value),
    List.foldl (fun x1 x2 => x1 ++ x2) acc.toArray (List.replicate k its.toArray) = (acc ++ (List.replicate k its).flatten).toArray
  | 0, acc => by simp
  | k + 1, acc => by
    have e : acc.toArray ++ its.toArray = (acc ++ its).toArray := by simp
    have e2 : (acc ++ its) ++ (List.replicate k its).flatten = acc ++ (List.replicate (k + 1) its).flatten := by
      rw [List.replicate_succ, List.flatten_cons, List.append_assoc]
    rw [← e2, ← foldl_rep its k (acc ++ its), ← e, List.replicate_succ, List.foldl_cons]

section
variable {X : Cx} {pins : List (Addr × Obj)} {σ : St} {H : Hp} {s : Shared} {l b : Addr} {xs ys zs : List V}

/-! ### the two steps: a tracked list is rewritten, a new list is laid -/
theorem Inv.lset {its its' : List Value} {n : Nat} {f : Array Value → Array Value} {t' : Nat} (I : Inv X pins σ H s) (hH : H l = some (.lst xs))
    (e : s.heap.get? l = some { cls := .type "list", data := .seq its.toArray n }) (hf : f its.toArray = its'.toArray) (hv : Vals ys its') (hz : ys.length ≤ sizeLine) :
    Inv X pins σ (upd H l (.lst ys)) { s with heap := s.heap.update l (Obj.mapSeq f), toks := t' } := by
  have q := PySem.IsL.update e f
  rw [hf] at q
  refine I.write (x := l) (e := l) (by rw [hH]; exact trivial) (.inl rfl) (fun b' u hb hu => (Heap.get?_update_other s.heap (Obj.mapSeq f) (Ne.symm hb)).trans hu) ⟨_, q⟩ ?_
  exact ⟨hz, its', _, hv, q⟩
theorem Inv.lnew {its : List Value} {t' : Nat} (I : Inv X pins σ H s) (hv : Vals ys its) (hz : ys.length ≤ sizeLine) :
    Inv X pins σ (upd H s.heap.objs.size (.lst ys)) { s with heap := s.heap.push { cls := .type "list", data := .seq its.toArray }, toks := t' } :=
  I.laid (fun _ _ q => Heap.get?_push_of_some _ q) (Nat.le_refl _) ⟨hz, its, 0, hv, Heap.get?_push_size _ rfl⟩
theorem Inv.fresh (I : Inv X pins σ H s) : H s.heap.objs.size = none := I.hok.fresh (Nat.le_refl _)
theorem Inv.lstM (I : Inv X pins σ H s) (hH : H l = some (.lst xs)) : xs.length ≤ sizeLine ∧ ∃ (its : List Value) (n : Nat), Vals xs its ∧ xs.length = its.length ∧ s.heap.get? l = some { cls := .type "list", data := .seq its.toArray n } := by
  obtain ⟨z, its, n, r, e⟩ := I.hok l _ hH
  exact ⟨z, its, n, r, r.length, e⟩

theorem notLongL {n : Nat} (h : n ≤ sizeLine) : Builtin.List.listTooLong n = false := by
  unfold Builtin.List.listTooLong
  exact decide_eq_false (by omega)
end

section
variable {X : Cx}

/-! ### methods -/
def rAppend : V → List V → Hp → VK → Prop := fun x vs H Q => ∃ l xs y, x = .ref l ∧ vs = [y] ∧ H l = some (.lst xs) ∧ xs.length < sizeLine ∧ Q .non (upd H l (.lst (xs ++ [y])))
theorem mt_append : MtM X "list.append" rAppend := by
  intro pins s σ H x vs v us Q I rx rv h
  obtain ⟨l, xs, y, rfl, rfl, hH, hz, q⟩ := h
  cases rx
  obtain ⟨u, rfl, ru⟩ := rv.one
  obtain ⟨z, its, n, r, hl, e⟩ := I.lstM hH
  refine call_meets F.slot_list_append ⟨_, e, rfl⟩ F.entry_list_append (F.args_list_append_2 _ _) (PySem.list_append l its.toArray n u (by rw [List.size_toArray]; omega)) ⟨e, ?_⟩
  refine ⟨.non, _, I.lset (its' := its ++ [u]) hH e (by simp) (r.append (.cons ru .nil)) ?_, rfl, q⟩
  rw [List.length_append, List.length_singleton]
  omega

def rExtend : V → List V → Hp → VK → Prop := fun x vs H Q => ∃ l b xs zs, x = .ref l ∧ vs = [.ref b] ∧ H l = some (.lst xs) ∧ H b = some (.lst zs) ∧ xs.length + zs.length ≤ sizeLine ∧ Q .non (upd H l (.lst (xs ++ zs)))
theorem mt_extend : MtM X "list.extend" rExtend := by
  intro pins s σ H x vs v us Q I rx rv h
  obtain ⟨l, b, xs, zs, rfl, rfl, hH, hB, hz, q⟩ := h
  cases rx
  obtain ⟨u, rfl, ru⟩ := rv.one
  cases ru
  obtain ⟨z, its, n, r, hl, e⟩ := I.lstM hH
  obtain ⟨z2, its2, n2, r2, hl2, e2⟩ := I.lstM hB
  have hsz : its.toArray.size + its2.toArray.size ≤ sizeLine := by rw [List.size_toArray, List.size_toArray]; omega
  have hlong : ¬ (!its.toArray.isEmpty && Builtin.List.listTooLong (its.toArray.size + its2.toArray.size)) = true := by
    rw [notLongL hsz, Bool.and_false]
    exact Bool.false_ne_true
  refine call_meets F.slot_list_extend ⟨_, e, rfl⟩ F.entry_list_extend (F.args_list_extend_2 _ _)
    (AutoSeq1.list_extend_list_list_0 l its.toArray n b its2.toArray n2 hlong (by rw [List.size_toArray]; omega) (by omega)) ⟨e, e2, ?_⟩
  refine ⟨.non, _, I.lset (its' := its ++ its2) hH e (by simp) (r.append r2) ?_, rfl, q⟩
  rw [List.length_append]
  omega

def rPop : V → List V → Hp → VK → Prop := fun x vs H Q => ∃ l xs y, x = .ref l ∧ vs = [] ∧ H l = some (.lst xs) ∧ xs[xs.length - 1]? = some y ∧ Q y (upd H l (.lst xs.dropLast))
theorem mt_pop : MtM X "list.pop" rPop := by
  intro pins s σ H x vs v us Q I rx rv h
  obtain ⟨l, xs, y, rfl, rfl, hH, hy, q⟩ := h
  cases rx
  have hus := rv.zero
  subst hus
  obtain ⟨z, its, n, r, hl, e⟩ := I.lstM hH
  obtain ⟨u, hu, ru⟩ := r.get hy
  have hy' : its.toArray[its.toArray.size - 1]? = some u := by
    show its.toArray[its.length - 1]? = some u
    rw [← Array.getElem?_toList, ← hl]
    exact hu
  refine call_meets F.slot_list_pop ⟨_, e, rfl⟩ F.entry_list_pop (F.args_list_pop_1 _) (MeetsSeq.list_pop_last l its.toArray n u hy' (by rw [List.size_toArray]; omega)) ⟨e, ?_⟩
  refine ⟨y, _, I.lset (its' := its.dropLast) hH e ?_ r.dropLast ?_, ru, q⟩
  · show its.toArray.eraseIdxIfInBounds (its.toArray.size - 1) = its.dropLast.toArray
    rw [List.size_toArray, List.eraseIdxIfInBounds_toArray, erase_last]
  · rw [List.length_dropLast]
    omega

def rPopAt : V → List V → Hp → VK → Prop := fun x vs H Q => ∃ l xs i k y, x = .ref l ∧ vs = [.int i] ∧ H l = some (.lst xs) ∧ -(2 ^ 63) ≤ i ∧ i < 2 ^ 63 ∧ seqIndex? i xs.length = some k ∧ xs[k]? = some y ∧ Q y (upd H l (.lst (xs.eraseIdx k)))
theorem mt_popAt : MtM X "list.pop" rPopAt := by
  intro pins s σ H x vs v us Q I rx rv h
  obtain ⟨l, xs, i, k, y, rfl, rfl, hH, h1, h2, hk, hy, q⟩ := h
  cases rx
  obtain ⟨u, rfl, ru⟩ := rv.one
  obtain ⟨t, rfl⟩ := ru
  obtain ⟨z, its, n, r, hl, e⟩ := I.lstM hH
  obtain ⟨w, hw, rw'⟩ := r.get hy
  refine call_meets F.slot_list_pop ⟨_, e, rfl⟩ F.entry_list_pop (F.args_list_pop_2 _ _)
    (MeetsSeq.list_pop_at l its.toArray n i t k w (fitsIndex_both h1 h2) (by rw [List.size_toArray, ← hl]; exact hk) (by rw [← Array.getElem?_toList]; exact hw) (by rw [List.size_toArray]; omega)) ⟨e, ?_⟩
  refine ⟨y, _, I.lset (its' := its.eraseIdx k) hH e ?_ (r.eraseIdx k) ?_, rw', q⟩
  · show its.toArray.eraseIdxIfInBounds k = (its.eraseIdx k).toArray
    rw [List.eraseIdxIfInBounds_toArray]
  · have := len_erase xs k
    omega

def rReverse : V → List V → Hp → VK → Prop := fun x vs H Q => ∃ l xs, x = .ref l ∧ vs = [] ∧ H l = some (.lst xs) ∧ Q .non (upd H l (.lst xs.reverse))
theorem mt_reverse : MtM X "list.reverse" rReverse := by
  intro pins s σ H x vs v us Q I rx rv h
  obtain ⟨l, xs, rfl, rfl, hH, q⟩ := h
  cases rx
  have hus := rv.zero
  subst hus
  obtain ⟨z, its, n, r, hl, e⟩ := I.lstM hH
  refine call_meets F.slot_list_reverse ⟨_, e, rfl⟩ F.entry_list_reverse (F.args_list_reverse_1 _) (AutoSeq1.list_reverse_list_0 l its.toArray n (by rw [List.size_toArray]; omega)) ⟨e, ?_⟩
  refine ⟨.non, _, I.lset (its' := its.reverse) hH e (by simp) r.reverse ?_, rfl, q⟩
  rw [List.length_reverse]
  omega

def rClear : V → List V → Hp → VK → Prop := fun x vs H Q => ∃ l xs, x = .ref l ∧ vs = [] ∧ H l = some (.lst xs) ∧ Q .non (upd H l (.lst []))
theorem mt_clear : MtM X "list.clear" rClear := by
  intro pins s σ H x vs v us Q I rx rv h
  obtain ⟨l, xs, rfl, rfl, hH, q⟩ := h
  cases rx
  have hus := rv.zero
  subst hus
  obtain ⟨z, its, n, r, hl, e⟩ := I.lstM hH
  refine call_meets F.slot_list_clear ⟨_, e, rfl⟩ F.entry_list_clear (F.args_list_clear_1 _) (AutoSeq1.list_clear_list_0 l its.toArray n (by rw [List.size_toArray]; omega)) ⟨e, ?_⟩
  exact ⟨.non, _, I.lset (its' := []) (ys := []) hH e rfl .nil (Nat.zero_le _), rfl, q⟩

/-! ### list + list, list += list, list * int -/
def rCat : R2 := fun x y H Q => ∃ l b xs zs, x = .ref l ∧ y = .ref b ∧ H l = some (.lst xs) ∧ H b = some (.lst zs) ∧ xs.length + zs.length ≤ sizeLine ∧ ∀ p, H p = none → Q (.ref p) (upd H p (.lst (xs ++ zs)))
theorem op_cat : OpR X (binaryOp .Add) rCat := by
  intro pins s σ H x y v u Q I rx ry h
  obtain ⟨l, b, xs, zs, rfl, rfl, hH, hB, hz, q⟩ := h
  cases rx
  cases ry
  obtain ⟨z, its, n, r, hl, e⟩ := I.lstM hH
  obtain ⟨z2, its2, n2, r2, hl2, e2⟩ := I.lstM hB
  refine PySem.P.add_list e e2 ?_ (by rw [List.size_toArray, List.size_toArray]; omega)
  have ea : its.toArray ++ its2.toArray = (its ++ its2).toArray := by simp
  rw [ea]
  exact ⟨.ref _, _, I.lnew (t' := s.toks) (r.append r2) (by rw [List.length_append]; omega), rfl, q _ I.fresh⟩
/-- a list times an int (a negative one is nothing) -/
def rRep : R2 := fun x y H Q => ∃ l k xs, x = .ref l ∧ y = .int k ∧ H l = some (.lst xs) ∧ -(2 ^ 63) ≤ k ∧ k < 2 ^ 63 ∧ xs.length * k.toNat ≤ sizeLine ∧
  ∀ p, H p = none → Q (.ref p) (upd H p (.lst (List.replicate k.toNat xs).flatten))
theorem len_rep {α : Type} (xs : List α) (k : Nat) : (List.replicate k xs).flatten.length = k * xs.length := by
  induction k with
  | zero => simp
  | succ k ih => rw [List.replicate_succ, List.flatten_cons, List.length_append, ih, Nat.succ_mul, Nat.add_comm]
theorem op_rep : OpR X (binaryOp .Mult) rRep := by
  intro pins s σ H x y v u Q I rx ry h
  obtain ⟨l, k, xs, rfl, rfl, hH, h1, h2, hz, q⟩ := h
  cases rx
  obtain ⟨t, rfl⟩ := ry
  obtain ⟨z, its, n, r, hl, e⟩ := I.lstM hH
  have hlen : its.toArray.size * k.toNat ≤ sizeLine := by rw [List.size_toArray, ← hl]; exact hz
  have hcap : ¬ its.toArray.size * k.toNat > (2 ^ 63 - 1) / 8 := by
    have : (sizeLine : Nat) ≤ (2 ^ 63 - 1) / 8 := by decide
    omega
  have hfit : ¬ (!Builtin.List.listFitsIndex k) = true := by
    rw [fitsIndex_both h1 h2]
    exact Bool.false_ne_true
  have hlong : ¬ Builtin.List.listTooLong (its.toArray.size * k.toNat) = true := by
    rw [notLongL hlen]
    exact Bool.false_ne_true
  have hnew : List.foldl (fun x1 x2 => x1 ++ x2) #[] (List.replicate (if its.toArray.isEmpty = true then 0 else k.toNat) its.toArray) = (List.replicate k.toNat its).flatten.toArray := by
    have f0 : ∀ m : Nat, List.foldl (fun x1 x2 => x1 ++ x2) #[] (List.replicate m its.toArray) = (List.replicate m its).flatten.toArray := fun m => by
      have := foldl_rep its m []
      rw [List.nil_append] at this
      exact this
    rw [f0]
    cases its with
    | nil => simp
    | cons a r' => rw [if_neg (by simp)]
  refine wpAny_binaryOp_repeat_ref (T := "list") (U := "int") (by decide) ⟨_, e, rfl⟩ (fun s' => typeIs_int s' k t) noFill_list_mul F.fills_int_mul F.slot_int_rmul repeat_list F.slot_int_index.lookup
    (call_meets F.slot_int_rmul (typeIs_int s k t) F.entry_int_rmul (F.args_int_rmul_2 _ _) (int___rmul___int_list k t l its.toArray n)
      ⟨e, rfl, ⟨_, e, rfl⟩, call_meets F.slot_list_mul ⟨_, e, rfl⟩ F.entry_list_mul (F.args_list_mul_2 _ _) (AutoListH.list___mul___list_int_3 l its.toArray n k t hfit hcap hlong) ⟨e, ?_⟩⟩)
  rw [hnew]
  exact ⟨.ref _, _, I.lnew (t' := s.toks) (r.rep k.toNat) (by rw [len_rep, Nat.mul_comm]; exact hz), rfl, q _ I.fresh⟩

/-! ### del xs[i] -/
theorem del_list {pins : List (Addr × Obj)} {s : Shared} {σ : St} {H : Hp} {l : Addr} {xs : List V} {i : Int} {t : Tok} {k : Nat} {Q : Unit → Shared → Prop} (I : Inv X pins σ H s) (hH : H l = some (.lst xs))
    (h1 : -(2 ^ 63) ≤ i) (h2 : i < 2 ^ 63) (hk : seqIndex? i xs.length = some k) (h : ∀ s', Inv X pins σ (upd H l (.lst (xs.eraseIdx k))) s' → Q () s') :
    wpAny (model X.prog X.w) X.A (delItem (.ref l) (.int i t)) Q X.xe s := by
  obtain ⟨z, its, n, r, hl, e⟩ := I.lstM hH
  refine PySem.P.delItem_list (k := k) e (fitsIndex_both h1 h2) (by rw [List.size_toArray, ← hl]; exact hk) (h _ ?_) (by rw [List.size_toArray]; omega)
  refine I.lset (its' := its.eraseIdx k) (t' := s.toks) hH e ?_ (r.eraseIdx k) ?_
  · show its.toArray.eraseIdxIfInBounds k = (its.eraseIdx k).toArray
    rw [List.eraseIdxIfInBounds_toArray]
  · have := len_erase xs k
    omega
end

/-! ### xs[a:b] = ys -/
section
variable {prog : Program} {w : World} {A : Around} {E : Value → Shared → Prop} {s : Shared}
theorem splice_eq (its its2 : List Value) (a c : Nat) : its.toArray.extract 0 a ++ its2.toArray ++ its.toArray.extract c its.toArray.size = (its.take a ++ its2 ++ its.drop c).toArray := by
  apply Array.toList_inj.mp
  first
    | (simp
       exact List.take_of_length_le (by simp))
    | simp [List.take_of_length_le]
    | simp
theorem bounds_run {a c n : Nat} (hac : a ≤ c) (hc : c ≤ n) : sliceBounds (some (a : Int)) (some (c : Int)) none n = ((a : Int), (c : Int), 1) := by
  simp only [sliceBounds, Option.getD_none]
  have h1 : ¬ ((a : Int) < 0) := by omega
  have h2 : ¬ ((c : Int) < 0) := by omega
  simp only [h1, h2, if_false, show (1 : Int) > 0 by decide, if_true]
  congr 1
  · omega
  · congr 1; omega
set_option maxRecDepth 100000 in
/-- list.__setitem__ with a slice of step one and another list -/
theorem setItem_slice {l b sl : Addr} {items new : Array Value} {n n2 : Nat} {vl vu : Value} {a c : Nat} {Q : Unit → Shared → Prop}
    (e : s.heap.get? l = some { cls := .type "list", data := .seq items n }) (e2 : s.heap.get? b = some { cls := .type "list", data := .seq new n2 }) (hne : l ≠ b)
    (hs : s.heap.IsSliceOf sl vl vu .none) (pl : IsPart vl (some (a : Int))) (pu : IsPart vu (some (c : Int))) (hac : a ≤ c) (hc : c ≤ items.size)
    (hsz : items.size + new.size ≤ sizeLine) (h : Q () { s with heap := s.heap.update l (Obj.mapSeq fun xs => xs.extract 0 a ++ new ++ xs.extract c xs.size) }) :
    wpAny (model prog w) A (setItem (.ref l) (.ref sl) (.ref b)) Q E s := by
  have hl : s.heap.IsList l items := PySem.IsL.isList e
  have hb : s.heap.IsList b new := PySem.IsL.isList e2
  obtain ⟨os, hos, hcs, hds⟩ := id hs
  have hTs : s.TypeIs (.ref sl) "slice" := ⟨os, hos, hcs⟩
  have hstep : ¬ ((rawPart none == rawInt 0) = true) := Bool.false_ne_true
  have hsame : Builtin.List.listSameRef (.ref l) (.ref b) = false := by
    unfold Builtin.List.listSameRef
    exact beq_eq_false_iff_ne.mpr hne
  have hmax : (max (a : Int) (c : Int)).toNat = c := by omega
  have hz' : ((fun xs : Array Value => xs.extract 0 a ++ new ++ xs.extract c xs.size) items).size ≤ sizeLine + 1 := by
    simp only [Array.size_append, Array.size_extract]
    omega
  unfold setItem
  try with_reducible refine wpAny_holding ?_
  first | refine wpAny_bind (wpAny_pure ?_) | skip
  refine wpAny_bind (wpAny_sequenceKey hl.typeIs (by decide) ?_)
  refine wpAny_bind (wpAny_callSpecial?_slot (name := Str.ofString "__setitem__") hl.typeIs slot_list_setitem
    (wpAny_call_entry slot_list_setitem hl.typeIs entry_list_setitem ?_ (args_list_setitem _ _ _)))
  show wpAny _ _ (Builtin.List.listSubscript? (.ref sl) >>= _) _ _ s
  refine wpAny_bind ?_
  unfold Builtin.List.listSubscript?
  refine wpAny_bind (wpAny_specialOf hTs slice_no_index ?_)
  simp only [Option.isNone_none, if_true]
  refine wpAny_pure ?_
  show wpAny _ _ (typeOf (.ref sl) >>= _) _ _ s
  refine wpAny_bind (wpAny_typeOf hTs ?_)
  first
    | rw [if_neg (by decide)]
    | refine PySem.W.KFB.if_not (by decide) ?_
  rw [listSliceParts_eq]
  refine wpAny_bind (wpAny_bind (wpAny_field hos hds (x := .none) rfl (wpAny_bind (wpAny_listPart .none ?_))))
  rw [if_neg hstep]
  refine wpAny_bind (wpAny_field hos hds (x := vl) rfl (wpAny_bind (wpAny_listPart pl ?_)))
  refine wpAny_bind (wpAny_field hos hds (x := vu) rfl (wpAny_bind (wpAny_listPart pu (wpAny_pure ?_))))
  first
    | simp only [hsame, Bool.false_eq_true, if_false]
    | refine PySem.W.KFB.if_not hsame ?_
    | (dsimp only
       rw [if_neg (by rw [hsame]; exact Bool.false_ne_true)])
  refine wpAny_bind (m := Builtin.List.listAllItems (.ref b) "must assign iterable to extended slice") ?_
  unfold Builtin.List.listAllItems
  refine wpAny_bind (wpAny_typeOf hb.typeIs ?_)
  first
    | refine PySem.W.KFB.if_so (by decide) ?_
    | rw [if_pos (by decide)]
    | simp only [beq_self_eq_true, Bool.true_or, if_true]
  unfold Builtin.List.listItems
  refine wpAny_bind (wpAny_seqItems e2 rfl (wpAny_pure ?_))
  refine wpAny_bind (wpAny_bind (wpAny_seqItems e rfl (wpAny_pure ?_)))
  refine wpAny_bind (wpAny_of_eq ((sliceIndices_raw (some (a : Int)) (some (c : Int)) none items.size (by simp)).trans (congrArg (pure : Int × Int × Int → Sem (Int × Int × Int)) (bounds_run hac hc))) ?_)
  show wpAny _ _ (if ((1 : Int) == 1) = true then _ else _) _ _ s
  rw [if_pos (by decide)]
  refine wpAny_bind (wpAny_rule ?_)
  first
    | simp only [notLongL hsz, Bool.false_eq_true, if_false]
    | refine PySem.W.KFB.if_not (notLongL hsz) ?_
  first | refine wpAny_bind (wpAny_pure ?_) | skip
  show wpAny _ _ (updateSeq l (fun xs => xs.extract 0 ((a : Int)).toNat ++ new ++ xs.extract (max (a : Int) (c : Int)).toNat xs.size) >>= _) _ _ s
  rw [hmax, Int.toNat_natCast]
  refine wpAny_bind (wpAny_updateSeq (hz := Nat.le_trans (Nat.le_add_right _ _) hsz) (_hz' := hz') e rfl ?_)
  refine wpAny_bind (wpAny_letGo ?_)
  first
    | exact wpAny_bind (wpAny_pure (wpAny_pure ⟨.none, rfl, wpAny_pure h⟩))
    | exact wpAny_pure ⟨.none, rfl, wpAny_pure h⟩
end

section
variable {X : Cx}
/-- xs[a:c] = ys of another list, at the value level: sl is the slice object that was just made -/
theorem set_slice {pins : List (Addr × Obj)} {s : Shared} {σ : St} {H : Hp} {l b sl : Addr} {xs ys : List V} {a c : Int} {vl vu : Value} {Q : Unit → Shared → Prop} (I : Inv X pins σ H s)
    (hH : H l = some (.lst xs)) (hB : H b = some (.lst ys)) (hne : l ≠ b) (hs : s.heap.IsSliceOf sl vl vu .none) (ra : RelV (.int a) vl) (rc : RelV (.int c) vu) (h0 : 0 ≤ a) (hac : a ≤ c) (hc : c ≤ xs.length)
    (hz : xs.length + ys.length ≤ sizeLine) (h : ∀ s', Inv X pins σ (upd H l (.lst (xs.take a.toNat ++ ys ++ xs.drop c.toNat))) s' → Q () s') :
    wpAny (model X.prog X.w) X.A (setItem (.ref l) (.ref sl) (.ref b)) Q X.xe s := by
  obtain ⟨ta, rfl⟩ := ra
  obtain ⟨tc, rfl⟩ := rc
  obtain ⟨z, its, n, r, hl, e⟩ := I.lstM hH
  obtain ⟨z2, its2, n2, r2, hl2, e2⟩ := I.lstM hB
  obtain ⟨a', rfl⟩ := Int.eq_ofNat_of_zero_le h0
  obtain ⟨c', rfl⟩ := Int.eq_ofNat_of_zero_le (Int.le_trans h0 hac)
  simp only [Int.toNat_natCast] at h
  refine setItem_slice (a := a') (c := c') e e2 hne hs (.int _ _) (.int _ _) (by omega) (by rw [List.size_toArray]; omega) (by rw [List.size_toArray, List.size_toArray]; omega) (h _ ?_)
  refine I.lset (its' := its.take a' ++ its2 ++ its.drop c') (t' := s.toks) hH e ?_ (Vals.append (Vals.append (r.take _) r2) (r.drop _)) ?_
  · exact splice_eq its its2 a' c'
  · rw [List.length_append, List.length_append, List.length_take, List.length_drop]
    omega
end
end L2

namespace L2
open PySem PySem.Spec PyProof.Rows

/-! ### lists of pairs as tables -/
section
variable {κ : Type} [DecidableEq κ]
def valV (kvs : List (κ × V)) (k : κ) : Option V := (kvs.find? fun kv => decide (kv.1 = k)).map (·.2)
/-- in its place, or at the end -/
def putK (kvs : List (κ × V)) (k : κ) (v : V) : List (κ × V) :=
  if (kvs.any fun kv => decide (kv.1 = k)) = true then kvs.map (fun kv => if kv.1 = k then (kv.1, v) else kv) else kvs ++ [(k, v)]
def dropK (kvs : List (κ × V)) (k : κ) : List (κ × V) := kvs.filter fun kv => decide (kv.1 ≠ k)

theorem valV_nil {k : κ} : valV ([] : List (κ × V)) k = none := rfl
theorem valV_pos {p : κ × V} {r : List (κ × V)} {k : κ} (e : p.1 = k) : valV (p :: r) k = some p.2 := by simp [valV, List.find?_cons, e]
theorem valV_neg {p : κ × V} {r : List (κ × V)} {k : κ} (e : ¬ p.1 = k) : valV (p :: r) k = valV r k := by simp [valV, List.find?_cons, e]
theorem valV_any (k : κ) : ∀ kvs : List (κ × V), (kvs.any fun kv => decide (kv.1 = k)) = (valV kvs k).isSome
  | [] => rfl
  | p :: r => by
    rw [List.any_cons]
    by_cases e : p.1 = k
    · simp only [valV_pos e, decide_eq_true e, Bool.true_or, Option.isSome_some]
    · rw [valV_neg e, decide_eq_false e, Bool.false_or]; exact valV_any k r
theorem valV_map (k j : κ) (y : V) : ∀ kvs : List (κ × V), valV (kvs.map fun kv => if kv.1 = k then (kv.1, y) else kv) j = (valV kvs j).map fun x => if j = k then y else x
  | [] => rfl
  | p :: r => by
    have ih := valV_map k j y r
    rw [List.map_cons]
    by_cases h : p.1 = k
    · rw [if_pos h]
      by_cases e : p.1 = j
      · rw [valV_pos (p := (p.1, y)) e, valV_pos e, Option.map_some, if_pos (e.symm.trans h)]
      · rw [valV_neg (p := (p.1, y)) e, valV_neg e, ih]
    · rw [if_neg h]
      by_cases e : p.1 = j
      · rw [valV_pos (p := p) e, valV_pos e, Option.map_some, if_neg (fun z => h (e.trans z))]
      · rw [valV_neg (p := p) e, valV_neg e, ih]
theorem valV_snoc (k j : κ) (y : V) : ∀ kvs : List (κ × V), valV kvs k = none → valV (kvs ++ [(k, y)]) j = if j = k then some y else valV kvs j
  | [], _ => by
    by_cases e : k = j
    · rw [if_pos e.symm]; exact valV_pos (p := (k, y)) e
    · rw [if_neg (fun z => e z.symm)]; exact valV_neg (p := (k, y)) e
  | p :: r, hn => by
    rw [List.cons_append]
    have hk : ¬ p.1 = k := fun z => by rw [valV_pos z] at hn; cases hn
    rw [valV_neg hk] at hn
    have ih := valV_snoc k j y r hn
    by_cases e : p.1 = j
    · rw [valV_pos e, valV_pos e, if_neg (fun z => hk (e.trans z))]
    · rw [valV_neg e, valV_neg e, ih]
theorem valV_put (kvs : List (κ × V)) (k j : κ) (y : V) : valV (putK kvs k y) j = if j = k then some y else valV kvs j := by
  unfold putK
  by_cases a : (kvs.any fun kv => decide (kv.1 = k)) = true
  · rw [if_pos a, valV_map]
    rw [valV_any] at a
    by_cases e : j = k
    · obtain ⟨x, hx⟩ := Option.isSome_iff_exists.mp a
      rw [if_pos e, e, hx, Option.map_some, if_pos rfl]
    · rw [if_neg e]
      cases valV kvs j with
      | none => rfl
      | some x => rw [Option.map_some, if_neg e]
  · rw [if_neg a]
    refine valV_snoc k j y kvs ?_
    rw [valV_any] at a
    cases q : valV kvs k with
    | none => rfl
    | some x => rw [q] at a; exact (a rfl).elim
theorem length_putK (kvs : List (κ × V)) (k : κ) (v : V) : (putK kvs k v).length ≤ kvs.length + 1 := by
  unfold putK
  split
  · rw [List.length_map]; omega
  · rw [List.length_append, List.length_cons, List.length_nil]; omega
theorem putK_new {kvs : List (κ × V)} {k : κ} (v : V) (h : valV kvs k = none) : putK kvs k v = kvs ++ [(k, v)] := by
  unfold putK
  rw [valV_any, h]
  exact if_neg (by decide)

theorem RelO.isSome_eq {o : Option V} {u : Option Value} (r : RelO o u) : o.isSome = u.isSome := by
  cases o with
  | none => cases u with
    | none => rfl
    | some _ => exact (show False from r).elim
  | some _ => cases u with
    | none => exact (show False from r).elim
    | some _ => rfl
theorem RelO.getD {o : Option V} {u : Option Value} {d : V} {d' : Value} (r : RelO o u) (rd : RelV d d') : RelV (o.getD d) (u.getD d') := by
  cases o with
  | none => cases u with
    | none => exact rd
    | some _ => exact (show False from r).elim
  | some _ => cases u with
    | none => exact (show False from r).elim
    | some _ => exact r

/-- raw tables of the same keys -/
theorem KV.val {kvs : List (κ × V)} {vs : List (κ × Value)} (r : KV kvs vs) (k : κ) : RelO (valV kvs k) (valueAt vs k) := by
  unfold KV at r
  induction r with
  | nil => exact True.intro
  | @cons p q ps qs h t ih =>
    obtain ⟨h1, h2⟩ := h
    by_cases e : p.1 = k
    · have e' : q.1 = k := h1.symm.trans e
      have b : valueAt (q :: qs) k = some q.2 := by simp [valueAt, List.find?_cons, e']
      rw [valV_pos e, b]; exact h2
    · have e' : ¬ q.1 = k := fun z => e (h1.trans z)
      have b : valueAt (q :: qs) k = valueAt qs k := by simp [valueAt, List.find?_cons, e']
      rw [valV_neg e, b]; exact ih
theorem KV.any {kvs : List (κ × V)} {vs : List (κ × Value)} (r : KV kvs vs) (k : κ) : (kvs.any fun kv => decide (kv.1 = k)) = vs.any fun kv => decide (kv.1 = k) := by
  unfold KV at r
  induction r with
  | nil => rfl
  | cons h t ih => rw [List.any_cons, List.any_cons, ih, h.1]
theorem KV.repl {kvs : List (κ × V)} {vs : List (κ × Value)} (r : KV kvs vs) (k : κ) {y : V} {u : Value} (ry : RelV y u) :
    KV (kvs.map fun kv => if kv.1 = k then (kv.1, y) else kv) (vs.map fun kv => if kv.1 = k then (kv.1, u) else kv) := by
  unfold KV at r ⊢
  induction r with
  | nil => exact .nil
  | @cons p q ps qs h t ih =>
    rw [List.map_cons, List.map_cons]
    refine .cons ?_ ih
    obtain ⟨h1, h2⟩ := h
    by_cases e : p.1 = k
    · rw [if_pos e, if_pos (h1.symm.trans e)]; exact ⟨h1, ry⟩
    · rw [if_neg e, if_neg (fun z => e (h1.trans z))]; exact ⟨h1, h2⟩
theorem KV.put {kvs : List (κ × V)} {vs : List (κ × Value)} (r : KV kvs vs) (k : κ) {y : V} {u : Value} (ry : RelV y u) : KV (putK kvs k y) (stored vs k u) := by
  unfold putK stored
  rw [r.any k]
  by_cases e : (vs.any fun kv => decide (kv.1 = k)) = true
  · rw [if_pos e, if_pos e]; exact r.repl k ry
  · rw [if_neg e, if_neg e]; exact Paired.snoc r ⟨rfl, ry⟩
theorem KV.drop {kvs : List (κ × V)} {vs : List (κ × Value)} (r : KV kvs vs) (k : κ) : KV (dropK kvs k) (without vs k) := by
  unfold KV at r ⊢
  unfold dropK without
  induction r with
  | nil => exact .nil
  | @cons p q ps qs h t ih =>
    obtain ⟨h1, h2⟩ := h
    rw [List.filter_cons, List.filter_cons]
    by_cases e : p.1 = k
    · have a : ¬ decide (p.1 ≠ k) = true := by simp [e]
      have b : ¬ decide (q.1 ≠ k) = true := by simp [h1.symm.trans e]
      rw [if_neg a, if_neg b]; exact ih
    · have e' : ¬ q.1 = k := fun z => e (h1.trans z)
      have a : decide (p.1 ≠ k) = true := by simp [e]
      have b : decide (q.1 ≠ k) = true := by simp [e']
      rw [if_pos a, if_pos b]; exact .cons ⟨h1, h2⟩ ih
theorem KV.keys {kvs : List (κ × V)} {vs : List (κ × Value)} (r : KV kvs vs) : kvs.map (·.1) = vs.map (·.1) := by
  unfold KV at r
  induction r with
  | nil => rfl
  | cons h t ih => rw [List.map_cons, List.map_cons, ih, h.1]
theorem KV.length {kvs : List (κ × V)} {vs : List (κ × Value)} (r : KV kvs vs) : kvs.length = vs.length := Paired.length r
theorem dropK_le (kvs : List (κ × V)) (k : κ) : (dropK kvs k).length ≤ kvs.length := List.length_filter_le _ _
end


/-! ### a tracked dict, its keys ints and texts or tuples of these -/
theorem kV_is {P : Program} {w : World} {k : Key} {u : Value} (r : RelV (kV k) u) : (mixKind P w).is k u = true := by
  cases k with
  | inl i => obtain ⟨t, e⟩ := (show ∃ t, u = Value.int i t from r); subst e; exact mixKind_int P w i t
  | inr x => obtain ⟨t, e⟩ := (show ∃ t, u = Value.str x t from r); subst e; exact mixKind_str P w x t
theorem kV_inj {a b : Key} (e : kV a = kV b) : a = b := by
  cases a with
  | inl i => cases b with
    | inl j => have e' : V.int i = V.int j := e; injection e' with e'; rw [e']
    | inr y => exact nomatch (show V.int i = V.str y from e)
  | inr x => cases b with
    | inl j => exact nomatch (show V.str x = V.int j from e)
    | inr y => have e' : V.str x = V.str y := e; injection e' with e'; rw [e']
theorem kVs_inj : ∀ {a b : List Key}, a.map kV = b.map kV → a = b
  | [], [], _ => rfl
  | [], _ :: _, e => by simp at e
  | _ :: _, [], e => by simp at e
  | x :: xs, y :: ys, e => by
    rw [List.map_cons, List.map_cons] at e
    injection e with e1 e2
    rw [kV_inj e1, kVs_inj e2]
theorem items_are {P : Program} {w : World} : ∀ {ks : List Key} {us : List Value}, Vals (ks.map kV) us → ItemsAre (mixKind P w) ks us
  | [], _, r => by rw [List.map_nil] at r; cases r; exact .nil
  | k :: ks, _, r => by
    rw [List.map_cons] at r
    cases r with
    | cons h t => exact .cons (kV_is h) (items_are t)

/-- raw entries of a dict with tuple keys -/
abbrev KT (H : Hp) : List (List Key × V) → List (List Key × Addr × Value) → Prop := Paired fun p q => p.1 = q.1 ∧ H q.2.1 = some (.tup (p.1.map kV)) ∧ RelV p.2 q.2.2
theorem KT.val {H : Hp} {kvs : List (List Key × V)} {xs : List (List Key × Addr × Value)} (r : KT H kvs xs) (k : List Key) : RelO (valV kvs k) ((atKey xs k).map (·.2)) := by
  induction r with
  | nil => exact True.intro
  | @cons p q ps qs h t ih =>
    obtain ⟨h1, _, h2⟩ := h
    by_cases e : p.1 = k
    · have e' : q.1 = k := h1.symm.trans e
      have b : atKey (q :: qs) k = some q.2 := by simp [atKey, List.find?_cons, e']
      rw [valV_pos e, b]; exact h2
    · have e' : ¬ q.1 = k := fun z => e (h1.trans z)
      have b : atKey (q :: qs) k = atKey qs k := by simp [atKey, List.find?_cons, e']
      rw [valV_neg e, b]; exact ih
theorem KT.repl {H : Hp} {kvs : List (List Key × V)} {xs : List (List Key × Addr × Value)} (r : KT H kvs xs) (k : List Key) {y : V} {u : Value} (ry : RelV y u) :
    KT H (kvs.map fun kv => if kv.1 = k then (kv.1, y) else kv) (xs.map (putAt k u)) := by
  induction r with
  | nil => exact .nil
  | @cons p q ps qs h t ih =>
    rw [List.map_cons, List.map_cons]
    refine .cons ?_ ih
    obtain ⟨h1, h2, h3⟩ := h
    unfold putAt
    by_cases e : p.1 = k
    · rw [if_pos e, if_pos (h1.symm.trans e)]; exact ⟨h1, h2, ry⟩
    · rw [if_neg e, if_neg (fun z => e (h1.trans z))]; exact ⟨h1, h2, h3⟩
theorem KT.put {H : Hp} {kvs : List (List Key × V)} {xs : List (List Key × Addr × Value)} (r : KT H kvs xs) (k : List Key) {b : Addr} {y : V} {u : Value} (hb : H b = some (.tup (k.map kV))) (ry : RelV y u) :
    KT H (putK kvs k y) (storedH xs k b u) := by
  have e : (kvs.any fun kv => decide (kv.1 = k)) = (atKey xs k).isSome := by
    rw [valV_any, (r.val k).isSome_eq, Option.isSome_map]
  unfold putK storedH
  rw [e]
  by_cases q : (atKey xs k).isSome = true
  · rw [if_pos q, if_pos q]; exact r.repl k ry
  · rw [if_neg q, if_neg q]; exact Paired.snoc r ⟨rfl, hb, ry⟩
theorem KT.keeps {H H' : Hp} {kvs : List (List Key × V)} {xs : List (List Key × Addr × Value)} (r : KT H kvs xs) (ht : ∀ b ys, H b = some (.tup ys) → H' b = some (.tup ys)) : KT H' kvs xs :=
  Paired.mapP r fun _ _ z => ⟨z.1, ht _ _ z.2.1, z.2.2⟩

section
variable {P : Program} {w : World} {H : Hp} {h : Heap} {a : Addr}
theorem rd_of {u : HO} (ok : HOk P w H h) (e : Rd H a u) : ObjOk P w H h a u := e.ok ok
theorem dk_rd {kvs : List (Key × V)} (ok : HOk P w H h) (e : Rd H a (.dK kvs)) : kvs.length ≤ sizeLine ∧ (a == sysModules) = false ∧ ∃ vs, KV kvs vs ∧ h.DictOf (mixKind P w) a vs :=
  show ObjOk P w H h a (.dK kvs) from rd_of ok e
theorem dk_of {kvs : List (Key × V)} (ok : HOk P w H h) (e : H a = some (.dK kvs)) : kvs.length ≤ sizeLine ∧ (a == sysModules) = false ∧ ∃ vs, KV kvs vs ∧ h.DictOf (mixKind P w) a vs := dk_rd ok (.inl e)
/-- a tracked tuple of ints and texts is a key -/
theorem key_of {ks : List Key} (ok : HOk P w H h) (e : H a = some (.tup (ks.map kV))) : (tupleKind (mixKind P w)).is h ks a := by
  obtain ⟨_, its, r, o, h1, h2, n, h3⟩ := (show ObjOk P w H h a (.tup (ks.map kV)) from ok a _ e)
  exact ⟨o, its.toArray, n, h1, h2, h3, by simpa using items_are r⟩
theorem dt_rd {kvs : List (List Key × V)} (ok : HOk P w H h) (e : Rd H a (.dT kvs)) : kvs.length ≤ sizeLine ∧ (a == sysModules) = false ∧
    ∃ xs, KT H kvs xs ∧ h.DictOfH (tupleKind (mixKind P w)) a xs := by
  obtain ⟨z, y, xs, r, o, es, ep, h1, h2, h3, h4, h5⟩ := (show ObjOk P w H h a (.dT kvs) from rd_of ok e)
  refine ⟨z, y, xs, r, o, es, ep, h1, h2, h3, h4, fun x hx => ?_, h5⟩
  have all : ∀ {l : List (List Key × V)} {m : List (List Key × Addr × Value)}, KT H l m → ∀ x ∈ m, (tupleKind (mixKind P w)).is h x.1 x.2.1 := by
    intro l m q
    induction q with
    | nil => intro x hx; exact nomatch hx
    | @cons p q ps qs hq t ih =>
      intro x hx
      rcases List.mem_cons.mp hx with e | hx
      · subst e
        exact key_of ok (by rw [← hq.1]; exact hq.2.1)
      · exact ih x hx
  exact all r x hx
theorem dt_of {kvs : List (List Key × V)} (ok : HOk P w H h) (e : H a = some (.dT kvs)) : kvs.length ≤ sizeLine ∧ (a == sysModules) = false ∧
    ∃ xs, KT H kvs xs ∧ h.DictOfH (tupleKind (mixKind P w)) a xs := dt_rd ok (.inl e)
end

/-- what the dict at a holds at the key y -/
def DGet (H : Hp) (a : Addr) (y : V) (r : Option V) : Prop :=
  (∃ kvs k, Rd H a (.dK kvs) ∧ y = kV k ∧ r = valV kvs k) ∨ ∃ kvs k b, Rd H a (.dT kvs) ∧ y = .ref b ∧ H b = some (.tup (k.map kV)) ∧ r = valV kvs k
/-- the heap behind a[y] = v -/
def DPut (H : Hp) (a : Addr) (y v : V) (H' : Hp) : Prop :=
  (∃ kvs k, H a = some (.dK kvs) ∧ y = kV k ∧ kvs.length < sizeLine ∧ H' = upd H a (.dK (putK kvs k v))) ∨
  ∃ kvs k b, H a = some (.dT kvs) ∧ y = .ref b ∧ H b = some (.tup (k.map kV)) ∧ kvs.length < sizeLine ∧ H' = upd H a (.dT (putK kvs k v))
theorem DGet.k {H : Hp} {a : Addr} {kvs : List (Key × V)} {k : Key} (e : H a = some (.dK kvs)) : DGet H a (kV k) (valV kvs k) := .inl ⟨kvs, k, .inl e, rfl, rfl⟩
theorem DGet.t {H : Hp} {a b : Addr} {kvs : List (List Key × V)} {k : List Key} (e : H a = some (.dT kvs)) (eb : H b = some (.tup (k.map kV))) : DGet H a (.ref b) (valV kvs k) := .inr ⟨kvs, k, b, .inl e, rfl, eb, rfl⟩
theorem DPut.k {H : Hp} {a : Addr} {kvs : List (Key × V)} {k : Key} {v : V} (e : H a = some (.dK kvs)) (hl : kvs.length < sizeLine) : DPut H a (kV k) v (upd H a (.dK (putK kvs k v))) := .inl ⟨kvs, k, e, rfl, hl, rfl⟩
theorem DPut.t {H : Hp} {a b : Addr} {kvs : List (List Key × V)} {k : List Key} {v : V} (e : H a = some (.dT kvs)) (eb : H b = some (.tup (k.map kV))) (hl : kvs.length < sizeLine) :
    DPut H a (.ref b) v (upd H a (.dT (putK kvs k v))) := .inr ⟨kvs, k, b, e, rfl, eb, hl, rfl⟩


section
variable {X : Cx} {pins : List (Addr × Obj)} {σ : St} {H : Hp} {s : Shared} {a : Addr} {y v : V} {u r : Value} {o : Option V} {A : Around} {E : Value → Shared → Prop}

theorem Inv.big (I : Inv X pins σ H s) : sysModules < s.heap.objs.size := by
  have h : mainGlobals < s.heap.objs.size := (I.mod.glob.keeps I.bk).lt
  exact Nat.lt_trans (by decide) h

/-- d[y], there -/
theorem d_getItem {Q : Value → Shared → Prop} (hu : A.units + 1 < cLine) (I : Inv X pins σ H s) (g : DGet H a y (some v)) (ry : RelV y u) (h : ∀ w' s', Inv X pins σ H s' → RelV v w' → Q w' s') :
    wpAny (model X.prog X.w) A (getItem (.ref a) u) Q E s := by
  rcases g with ⟨kvs, k, e, ey, l⟩ | ⟨kvs, k, b, e, ey, eb, l⟩
  · subst ey
    obtain ⟨z, hd, vs, rel, dd⟩ := dk_rd I.hok e
    obtain ⟨w', hw, rw'⟩ := RelO.some_of (v := v) (o := valueAt vs k) (by rw [l]; exact rel.val k)
    exact wpAny_getItem_of (kV_is ry) dd.mapOf hw (h w' _ (I.tok _) rw')
  · subst ey
    cases (show u = Value.ref b from ry)
    obtain ⟨z, hd, xs, rel, dd⟩ := dt_rd I.hok e
    obtain ⟨w', hw, rw'⟩ := RelO.some_of (v := v) (o := (atKey xs k).map (·.2)) (by rw [l]; exact rel.val k)
    obtain ⟨p, hp, hp2⟩ := Option.map_eq_some_iff.mp hw
    refine wpAny_getItem_heap (tupleKind_room_in1 hu) (key_of I.hok eb) dd hp ?_
    rw [hp2]
    exact h w' _ (I.tok _) rw'
/-- y in d -/
theorem d_in {Q : Value → Shared → Prop} (hu : A.units + 1 < cLine) (I : Inv X pins σ H s) (g : DGet H a y o) (ry : RelV y u) (h : ∀ s', Inv X pins σ H s' → Q (.bool o.isSome) s') :
    wpAny (model X.prog X.w) A (compareOp .In u (.ref a)) Q E s := by
  rcases g with ⟨kvs, k, e, ey, l⟩ | ⟨kvs, k, b, e, ey, eb, l⟩
  · subst ey
    obtain ⟨z, hd, vs, rel, dd⟩ := dk_rd I.hok e
    refine wpAny_in_of (kV_is ry) hd dd.mapOf ?_
    rw [← (rel.val k).isSome_eq, ← l]
    exact h _ (I.tok _)
  · subst ey
    cases (show u = Value.ref b from ry)
    obtain ⟨z, hd, xs, rel, dd⟩ := dt_rd I.hok e
    refine wpAny_in_heap (tupleKind_room_in1 hu) (key_of I.hok eb) hd dd ?_
    have q := (rel.val k).isSome_eq
    rw [Option.isSome_map] at q
    rw [← q, ← l]
    exact h _ (I.tok _)
theorem d_notIn {Q : Value → Shared → Prop} (hu : A.units + 1 < cLine) (I : Inv X pins σ H s) (g : DGet H a y o) (ry : RelV y u) (h : ∀ s', Inv X pins σ H s' → Q (.bool (!o.isSome)) s') :
    wpAny (model X.prog X.w) A (compareOp .NotIn u (.ref a)) Q E s := by
  rcases g with ⟨kvs, k, e, ey, l⟩ | ⟨kvs, k, b, e, ey, eb, l⟩
  · subst ey
    obtain ⟨z, hd, vs, rel, dd⟩ := dk_rd I.hok e
    refine wpAny_notIn_of (kV_is ry) hd dd.mapOf ?_
    rw [← (rel.val k).isSome_eq, ← l]
    exact h _ (I.tok _)
  · subst ey
    cases (show u = Value.ref b from ry)
    obtain ⟨z, hd, xs, rel, dd⟩ := dt_rd I.hok e
    refine wpAny_notIn_heap (tupleKind_room_in1 hu) (key_of I.hok eb) hd dd ?_
    have q := (rel.val k).isSome_eq
    rw [Option.isSome_map] at q
    rw [← q, ← l]
    exact h _ (I.tok _)
/-- a dict's object is replaced -/
theorem d_write {h' : Heap} {t' : Nat} {ob : HO} (I : Inv X pins σ H s) (mu : Mut (H a)) (hs : Heap.SameBut a s.heap h') (he : ∃ q, h'.get? a = some q) (new : ObjOk X.prog X.w (upd H a ob) h' a ob) :
    Inv X pins σ (upd H a ob) { s with heap := h', toks := t' } :=
  I.write (x := a) (e := a) mu (.inl rfl) (fun b q hb z => (hs.2 b hb).trans z) he new
theorem dk_new {P : Program} {w : World} {H' : Hp} {h' : Heap} {kvs : List (Key × V)} {vs : List (Key × Value)} (z : kvs.length ≤ sizeLine) (hd : (a == sysModules) = false) (rel : KV kvs vs) (dd : h'.DictOf (mixKind P w) a vs) :
    ObjOk P w H' h' a (.dK kvs) := ⟨z, hd, vs, rel, dd⟩
/-- d[y] = v -/
theorem d_setItem {H' : Hp} {Q : Unit → Shared → Prop} (hu : A.units + 1 < cLine) (I : Inv X pins σ H s) (g : DPut H a y v H') (ry : RelV y u) (rv : RelV v r) (h : ∀ s', Inv X pins σ H' s' → Q () s') :
    wpAny (model X.prog X.w) A (setItem (.ref a) u r) Q E s := by
  rcases g with ⟨kvs, k, e, ey, l, eH⟩ | ⟨kvs, k, b, e, ey, eb, l, eH⟩
  · subst ey eH
    obtain ⟨z, hd, vs, rel, dd⟩ := dk_of I.hok e
    have hz : vs.length ≤ sizeLine := by rw [← rel.length]; exact z
    have hl : (putK kvs k v).length ≤ sizeLine := by have := length_putK kvs k v; omega
    refine wpAny_setItem_pairs (hsz := hz) (kV_is ry) dd fun h' dd' hs => h _ ?_
    have he : ∃ q, h'.get? a = some q := let ⟨q, _, _, hq, _⟩ := dd'; ⟨q, hq⟩
    exact d_write I (by rw [e]; exact True.intro) hs he (dk_new hl hd (rel.put k rv) dd')
  · subst ey eH
    cases (show u = Value.ref b from ry)
    obtain ⟨z, hd, xs, rel, dd⟩ := dt_of I.hok e
    have hz : xs.length ≤ sizeLine := by rw [← Paired.length rel]; exact z
    have hl : (putK kvs k v).length ≤ sizeLine := by have := length_putK kvs k v; omega
    refine wpAny_setItem_heap (hsz := hz) (tupleKind_room_in1 hu) (key_of I.hok eb) dd fun h' dd' hs => h _ ?_
    obtain ⟨q, es, ep, hq, h2, h3, h4, _, h5⟩ := dd'
    refine d_write I (by rw [e]; exact True.intro) hs ⟨q, hq⟩ ⟨hl, hd, _, (rel.put k eb rv).keeps fun c ys ec => ?_, q, es, ep, hq, h2, h3, h4, h5⟩
    rw [upd_ne (ne_of ec e (fun z => nomatch z))]
    exact ec
end

section
variable {X : Cx} {pins : List (Addr × Obj)} {σ : St} {H : Hp} {s : Shared} {a : Addr} {kvs : List (Key × V)} {k : Key} {u : Value} {A : Around} {E : Value → Shared → Prop}
/-- del d[k] -/
theorem d_delItem {Q : Unit → Shared → Prop} (I : Inv X pins σ H s) (e : H a = some (.dK kvs)) (ry : RelV (kV k) u) (l : (valV kvs k).isSome = true) (h : ∀ s', Inv X pins σ (upd H a (.dK (dropK kvs k))) s' → Q () s') :
    wpAny (model X.prog X.w) A (delItem (.ref a) u) Q E s := by
  obtain ⟨z, hd, vs, rel, dd⟩ := dk_of I.hok e
  refine wpAny_delItem_slot dd.typeIs (by decide) PySem.F.slot_dict_delitem
    (call_meetsIn PySem.F.slot_dict_delitem dd.typeIs PySem.F.entry_dict_delitem (PySem.F.args_dict_delitem_2 _ _) (meets_dict_delitem_pairs (mixKind X.prog X.w) a (kV_is ry)) ⟨vs, dd, by rw [← rel.length]; exact z, by rw [← (rel.val k).isSome_eq]; exact l, fun h' dd' hs => h _ ?_⟩)
  have he : ∃ q, h'.get? a = some q := let ⟨q, _, _, hq, _⟩ := dd'; ⟨q, hq⟩
  exact d_write I (by rw [e]; exact True.intro) hs he (dk_new (Nat.le_trans (dropK_le kvs k) z) hd (rel.drop k) dd')
/-- d.pop(k[, x]), there -/
theorem d_pop {v : V} {more : List Value} {Q : Value → Shared → Prop} (I : Inv X pins σ H s) (e : H a = some (.dK kvs)) (ry : RelV (kV k) u) (l : valV kvs k = some v) (hm : more = [] ∨ ∃ x, more = [x])
    (h : ∀ w' s', Inv X pins σ (upd H a (.dK (dropK kvs k))) s' → RelV v w' → Q w' s') : wpAny (model X.prog X.w) A (call (.builtin "dict.pop") (.ref a :: u :: more)) Q E s := by
  obtain ⟨z, hd, vs, rel, dd⟩ := dk_of I.hok e
  obtain ⟨w', hw, rw'⟩ := RelO.some_of (v := v) (o := valueAt vs k) (by rw [← l]; exact rel.val k)
  have hp : (keyPart u).isSome = true := by
    cases k with
    | inl i => obtain ⟨t, q⟩ := (show ∃ t, u = Value.int i t from ry); subst q; rfl
    | inr x => obtain ⟨t, q⟩ := (show ∃ t, u = Value.str x t from ry); subst q; rfl
  have ha : argsOk "dict.pop" ⟨.ref a :: u :: more, []⟩ := by
    rcases hm with q | ⟨x, q⟩
    · subst q; exact PySem.F.args_dict_pop_2 _ _
    · subst q; exact PySem.F.args_dict_pop_3 _ _ _
  refine call_meetsIn PySem.F.slot_dict_pop dd.typeIs PySem.F.entry_dict_pop ha (meets_dict_pop_there (mixKind X.prog X.w) a (kV_is ry) more hm hp)
    ⟨vs, w', dd, by rw [← rel.length]; exact z, hw, fun h' dd' hs => h w' _ ?_ rw'⟩
  have he : ∃ q, h'.get? a = some q := let ⟨q, _, _, hq, _⟩ := dd'; ⟨q, hq⟩
  exact d_write I (by rw [e]; exact True.intro) hs he (dk_new (Nat.le_trans (dropK_le kvs k) z) hd (rel.drop k) dd')
/-- d.pop(k, x), not there -/
theorem d_popD {r : Value} {Q : Value → Shared → Prop} (I : Inv X pins σ H s) (e : H a = some (.dK kvs)) (ry : RelV (kV k) u) (l : valV kvs k = none) (h : ∀ s', Inv X pins σ H s' → Q r s') :
    wpAny (model X.prog X.w) A (call (.builtin "dict.pop") [.ref a, u, r]) Q E s := by
  obtain ⟨z, hd, vs, rel, dd⟩ := dk_of I.hok e
  have hn : valueAt vs k = none := RelO.none_of (by rw [← l]; exact rel.val k)
  have hp : (keyPart u).isSome = true := by
    cases k with
    | inl i => obtain ⟨t, q⟩ := (show ∃ t, u = Value.int i t from ry); subst q; rfl
    | inr x => obtain ⟨t, q⟩ := (show ∃ t, u = Value.str x t from ry); subst q; rfl
  exact call_meetsIn PySem.F.slot_dict_pop dd.typeIs PySem.F.entry_dict_pop (PySem.F.args_dict_pop_3 _ _ _) (meets_dict_pop_default (mixKind X.prog X.w) a (kV_is ry) hd hp r) ⟨vs, dd, hn, h _ (I.tok _)⟩
/-- d.clear() -/
theorem d_clear {Q : Value → Shared → Prop} (I : Inv X pins σ H s) (e : H a = some (.dK kvs)) (h : ∀ s', Inv X pins σ (upd H a (.dK [])) s' → Q .none s') : wpAny (model X.prog X.w) A (call (.builtin "dict.clear") [.ref a]) Q E s := by
  obtain ⟨z, hd, vs, rel, dd⟩ := dk_of I.hok e
  refine call_meetsIn PySem.F.slot_dict_clear dd.typeIs PySem.F.entry_dict_clear (PySem.F.args_dict_clear_1 _) (meets_dict_clear (mixKind X.prog X.w) a) ⟨vs, dd, by rw [← rel.length]; exact z, fun h' dd' hs => h _ ?_⟩
  have he : ∃ q, h'.get? a = some q := let ⟨q, _, _, hq, _⟩ := dd'; ⟨q, hq⟩
  exact d_write (t' := s.toks) I (by rw [e]; exact True.intro) hs he (dk_new (Nat.zero_le _) hd .nil dd')
/-- len(d) -/
theorem d_len {Q : Value → Shared → Prop} (I : Inv X pins σ H s) (e : Rd H a (.dK kvs)) (h : ∀ t s', Inv X pins σ H s' → Q (.int kvs.length t) s') : wpAny (model X.prog X.w) A (call (.builtin "len") [.ref a]) Q E s := by
  obtain ⟨z, hd, vs, rel, dd⟩ := dk_rd I.hok e
  refine call_len_dict hd dd (by rw [← rel.length]; rw [sizeLine_eq] at z; omega) ?_
  rw [← rel.length]
  exact h _ _ (I.tok _)
/-- if d -/
theorem d_truth {Q : Bool → Shared → Prop} (I : Inv X pins σ H s) (e : Rd H a (.dK kvs)) (h : ∀ s', Inv X pins σ H s' → Q (!kvs.isEmpty) s') : wpAny (model X.prog X.w) A (truthy (.ref a)) Q E s := by
  obtain ⟨z, hd, vs, rel, dd⟩ := dk_rd I.hok e
  refine wpAny_truthy_dict hd dd (by rw [← rel.length]; rw [sizeLine_eq] at z; omega) ?_
  have q : kvs.isEmpty = vs.isEmpty := by cases rel <;> rfl
  rw [← q]
  exact h _ (I.tok _)
end


/-! ### readings and rules -/
/-- the element of a subscription, not a slice -/
def NoSl (i : Expr) : Prop := ∀ ov iv, subscripted i false ov iv = operate [ov, iv] (getItem ov iv)
theorem subD_of {prog : Program} {w : World} {A : Around} {E : Value → Shared → Prop} {s : Shared} {env : Env} {value slice : Expr} {pos : Pos} {T id : String} {Q : Value → Shared → Prop}
    (hl : typeLookup (.type T) "__getitem__" = pure (some (.builtin id))) (hs : NoSl slice)
    (h : wpAny (model prog w) A (eval value env) (fun o s₁ => wpAny (model prog w) A (eval slice env) (fun i s₂ => s₂.TypeIs o T ∧ wpAny (model prog w) A (getItem o i) Q E s₂) E s₁) E s) :
    wpAny (model prog w) A (eval (.Subscript value slice pos) env) Q E s := by
  refine Subscript_ (wpAny_mono h (fun o s₁ h₁ => wpAny_mono h₁ (fun i s₂ h₂ => ?_) fun _ _ x => x) fun _ _ x => x)
  obtain ⟨hT, h₂⟩ := h₂
  unfold subscriptTail
  refine wpAny_bind ?_
  rw [getitemInPython_of_ne hT.not_modules]
  refine wpAny_bind (wpAny_specialOf hT hl ?_)
  have fin : wpAny (model prog w) A (subscripted slice false o i) (fun r s₃ => wpAny (model prog w) A (letTemporaryGo value o r >>= fun _ => pure r) Q E s₃) E s₂ := by
    rw [hs o i]
    exact wpAny_operating (wpAny_mono h₂ (fun r s₃ h₃ => wpAny_bind (wpAny_letTemporaryGo (wpAny_pure h₃))) fun _ _ x => x)
  first
    | exact wpAny_pure (wpAny_bind fin)
    | exact wpAny_bind (wpAny_pure (wpAny_bind fin))
    | exact wpAny_bind fin

theorem dict_typeIs {X : Cx} {pins : List (Addr × Obj)} {σ : St} {H : Hp} {s : Shared} {a : Addr} {y : V} {o : Option V} (I : Inv X pins σ H s) (g : DGet H a y o) : s.TypeIs (.ref a) "dict" := by
  rcases g with ⟨kvs, k, e, _, _⟩ | ⟨kvs, k, b, e, _, _, _⟩
  · obtain ⟨_, _, vs, _, dd⟩ := dk_rd I.hok e
    exact dd.typeIs
  · obtain ⟨_, _, xs, _, dd⟩ := dt_rd I.hok e
    exact dd.typeIs
theorem dict_noDict {X : Cx} {pins : List (Addr × Obj)} {σ : St} {H : Hp} {s : Shared} {a : Addr} {y : V} {o : Option V} (I : Inv X pins σ H s) (g : DGet H a y o) :
    ∀ b, Value.ref a = .ref b → ∃ ob, s.heap.get? b = some ob ∧ ob.dict = none := fun b q => by
  cases q
  rcases g with ⟨kvs, k, e, _, _⟩ | ⟨kvs, k, b, e, _, _, _⟩
  · obtain ⟨_, _, vs, _, ob, _, _, h1, h2, _⟩ := dk_rd I.hok e
    exact ⟨ob, h1, h2.2.1⟩
  · obtain ⟨_, _, xs, _, ob, _, _, h1, h2, _⟩ := dt_rd I.hok e
    exact ⟨ob, h1, h2.2.1⟩

/-- d[y] -/
def tDGet (td ty : TE) : TE := fun σ H Q => td σ H fun x H1 => ty σ H1 fun y H2 => ∃ a v, x = .ref a ∧ DGet H2 a y (some v) ∧ Q v H2
/-- y in d, y not in d -/
def tDIn (ty td : TE) : TE := fun σ H Q => ty σ H fun y H1 => td σ H1 fun x H2 => ∃ a o, x = .ref a ∧ DGet H2 a y o ∧ Q (.bl o.isSome) H2
def tDNotIn (ty td : TE) : TE := fun σ H Q => ty σ H fun y H1 => td σ H1 fun x H2 => ∃ a o, x = .ref a ∧ DGet H2 a y o ∧ Q (.bl (!o.isSome)) H2
/-- d[y] = v -/
def sDPut (td ty tv : TE) : TS := fun D σ H => tv σ H fun v H1 => td σ H1 fun x H2 => ty σ H2 fun y H3 => ∃ a H4, x = .ref a ∧ DPut H3 a y v H4 ∧ D.nx σ H4
/-- d[y] op= v -/
def sDAug (td ty tv : TE) (rd : V → V → Hp → VK → Prop) : TS := fun D σ H => td σ H fun x H1 => ty σ H1 fun y H2 => ∃ a v, x = .ref a ∧ DGet H2 a y (some v) ∧
  tv σ H2 fun y2 H3 => rd v y2 H3 fun z H4 => ∃ H5, DPut H4 a y z H5 ∧ D.nx σ H5
/-- del d[y] -/
def sDDel (td ty : TE) : TS := fun D σ H => td σ H fun x H1 => ty σ H1 fun y H2 => ∃ a kvs k, x = .ref a ∧ H2 a = some (.dK kvs) ∧ y = kV k ∧ (valV kvs k).isSome = true ∧ D.nx σ (upd H2 a (.dK (dropK kvs k)))

section
variable {X : Cx} {o i e value : Expr} {pos pos' tpos : Pos} {td ty tv : TE}
theorem pe_dget (hu : X.A.units + 1 < cLine) (ho : PE X o td) (hi : PE X i ty) (hs : NoSl i) : PE X (.Subscript o i pos) (tDGet td ty) := by
  intro pins s σ H Q I h
  refine subD_of PySem.F.slot_dict_getitem.lookup hs (thn (ho pins s σ H _ I h) fun u s1 ⟨x, H1, I1, rx, q1⟩ => thn (hi pins s1 σ H1 _ I1 q1) fun iv s2 ⟨y, H2, I2, ry, a, v, ex, g, q2⟩ => ?_)
  subst ex
  obtain rfl : u = Value.ref a := rx
  exact ⟨dict_typeIs I2 g, d_getItem hu I2 g ry fun w' s3 I3 rw' => ⟨v, H2, I3, rw', q2⟩⟩
theorem pc_din (hu : X.A.units + 1 < cLine) (hi : PE X i ty) (ho : PE X o td) : PC X .In i o (tDIn ty td) := by
  intro pins s σ H Q I h
  refine thn (hi pins s σ H _ I h) fun iv s1 ⟨y, H1, I1, ry, q1⟩ => thn (ho pins s1 σ H1 _ I1 q1) fun u s2 ⟨x, H2, I2, rx, a, ov, ex, g, q2⟩ => ?_
  subst ex
  obtain rfl : u = Value.ref a := rx
  exact d_in hu I2 g ry fun s3 I3 => ⟨.bl ov.isSome, H2, I3, rfl, q2⟩
theorem pc_dnotin (hu : X.A.units + 1 < cLine) (hi : PE X i ty) (ho : PE X o td) : PC X .NotIn i o (tDNotIn ty td) := by
  intro pins s σ H Q I h
  refine thn (hi pins s σ H _ I h) fun iv s1 ⟨y, H1, I1, ry, q1⟩ => thn (ho pins s1 σ H1 _ I1 q1) fun u s2 ⟨x, H2, I2, rx, a, ov, ex, g, q2⟩ => ?_
  subst ex
  obtain rfl : u = Value.ref a := rx
  exact d_notIn hu I2 g ry fun s3 I3 => ⟨.bl (!ov.isSome), H2, I3, rfl, q2⟩
theorem ps_dput (hu : X.A.units + 1 < cLine) (ho : PE X o td) (hi : PE X i ty) (hv : PE X value tv) (hs : swapsWith value (some (.Subscript o i pos')) pos.line X.env = pure false) :
    PS X (.Assign [.Subscript o i pos'] value pos) (sDPut td ty tv) := by
  intro pins s σ H D I h
  refine wpAny_Assign_Subscript (thn (hv pins s σ H _ I h) fun r s1 ⟨v, H1, I1, rv, q1⟩ => thn (ho pins s1 σ H1 _ I1 q1) fun u s2 ⟨x, H2, I2, rx, q2⟩ => thn (hi pins s2 σ H2 _ I2 q2) fun iv s3 ⟨y, H3, I3, ry, a, H4, ex, g, q3⟩ => ?_) hs
  subst ex
  obtain rfl : u = Value.ref a := rx
  exact d_setItem hu I3 g ry rv fun s4 I4 => ⟨σ, H4, I4, q3⟩
theorem ps_daug {op : Operator} {rd : V → V → Hp → VK → Prop} (hu : X.A.units + 1 < cLine) (ho : PE X o td) (hi : PE X i ty) (hv : PE X value tv) (hop : InOp X op rd)
    (ha : ∀ ov iv new, augStore i ov iv new = (do holding [new, ov, iv] (setItem ov iv new); release [new, ov, iv] []; pure .next)) : PS X (.AugAssign (.Subscript o i tpos) op value pos) (sDAug td ty tv rd) := by
  intro pins s σ H D I h
  refine wpAny_AugAssign_SubscriptAny (thn (ho pins s σ H _ I h) fun u s1 ⟨x, H1, I1, rx, q1⟩ => thn (hi pins s1 σ H1 _ I1 q1) fun iv s2 ⟨y, H2, I2, ry, a, v, ex, g, q2⟩ => ?_) ha
  subst ex
  obtain rfl : u = Value.ref a := rx
  refine d_getItem hu I2 g ry fun w' s3 I3 rw' => thn (hv pins s3 σ H2 _ I3 q2) fun w2 s4 ⟨y2, H3, I4, ry2, q3⟩ => thn (hop pins s4 σ H3 v y2 w' w2 _ I4 rw' ry2 q3) fun w3 s5 ⟨z, H4, I5, rz, H5, g5, q4⟩ => ?_
  exact d_setItem hu I5 g5 ry rz fun s6 I6 => ⟨σ, H5, I6, q4⟩
theorem ps_ddel (ho : PE X o td) (hi : PE X i ty) : PS X (.Delete [.Subscript o i tpos] pos) (sDDel td ty) := by
  intro pins s σ H D I h
  refine wpAny_Delete (wpAny_deleteEach_cons (wpAny_delete_Subscript (thn (ho pins s σ H _ I h) fun u s1 ⟨x, H1, I1, rx, q1⟩ => thn (hi pins s1 σ H1 _ I1 q1) fun iv s2 ⟨y, H2, I2, ry, a, kvs, k, ex, e, ey, l, q2⟩ => ?_)))
  subst ex ey
  obtain rfl : u = Value.ref a := rx
  exact d_delItem I2 e ry l fun s3 I3 => wpAny_deleteEach_nil ⟨σ, _, I3, q2⟩
end


/-! ### displays -/
theorem dk_empty {P : Program} {w : World} {H : Hp} (h : Heap) (hb : sysModules < h.objs.size) : ObjOk P w H (h.push { cls := .type "dict", data := .dict #[] }) h.objs.size (.dK []) :=
  ⟨Nat.zero_le _, beq_eq_false_iff_ne.mpr (Ne.symm (Nat.ne_of_lt hb)), [], .nil, Heap.DictOf.new h⟩
theorem dt_empty {P : Program} {w : World} {H : Hp} (h : Heap) (hb : sysModules < h.objs.size) : ObjOk P w H (h.push { cls := .type "dict", data := .dict #[] }) h.objs.size (.dT []) :=
  ⟨Nat.zero_le _, beq_eq_false_iff_ne.mpr (Ne.symm (Nat.ne_of_lt hb)), [], .nil, _, #[], 0, Heap.get?_push_size _ rfl, ⟨rfl, rfl, rfl⟩, rfl, rfl, List.nodup_nil⟩
/-- {}, to be a dict of the kind that is wanted -/
def tDNewK : TE := fun _ H Q => ∀ p, H p = none → Q (.ref p) (upd H p (.dK []))
def tDNewT : TE := fun _ H Q => ∀ p, H p = none → Q (.ref p) (upd H p (.dT []))
section
variable {X : Cx} {pos : Pos}
theorem pe_dnewK : PE X (.Dict [] [] pos) tDNewK := fun pins s σ H Q I h =>
  wpAny_Dict_empty ⟨.ref s.heap.objs.size, _, I.laid (a := s.heap.objs.size) (o := .dK []) (t' := s.toks) (fun _ _ q => Heap.get?_push_of_some _ q) (Nat.le_refl _) (dk_empty s.heap I.big), rfl, h _ (I.hok.fresh (Nat.le_refl _))⟩
theorem pe_dnewT : PE X (.Dict [] [] pos) tDNewT := fun pins s σ H Q I h =>
  wpAny_Dict_empty ⟨.ref s.heap.objs.size, _, I.laid (a := s.heap.objs.size) (o := .dT []) (t' := s.toks) (fun _ _ q => Heap.get?_push_of_some _ q) (Nat.le_refl _) (dt_empty s.heap I.big), rfl, h _ (I.hok.fresh (Nat.le_refl _))⟩
end

/-- the pairs of a display, from the left -/
def tPairs : List (TE × TE) → St → Hp → (List (V × V) → Hp → Prop) → Prop
  | [], _, H, Q => Q [] H
  | (tk, tv) :: r, σ, H, Q => tk σ H fun x H1 => tv σ H1 fun y H2 => tPairs r σ H2 fun ps H3 => Q ((x, y) :: ps) H3
abbrev VV : List (V × V) → List (Value × Value) → Prop := Paired fun p q => RelV p.1 q.1 ∧ RelV p.2 q.2
def PPs (X : Cx) (pos : Pos) (keys : List (Option Expr)) (values : List Expr) (trs : List (TE × TE)) : Prop :=
  ∀ (pins : List (Addr × Obj)) (s : Shared) (σ : St) (H : Hp) (Q : List (V × V) → Hp → Prop), Inv X pins σ H s → tPairs trs σ H Q →
    wpAny (model X.prog X.w) X.A (evalPairs (pairTrees keys values X.env pos)) (fun vs s' => ∃ ps H', Inv X pins σ H' s' ∧ VV ps vs ∧ Q ps H') X.xe s
theorem pps_nil {X : Cx} {pos : Pos} : PPs X pos [] [] [] := fun pins s σ H Q I h => pairTrees_nil_walk ⟨[], H, I, .nil, h⟩
theorem pps_cons {X : Cx} {pos : Pos} {k v : Expr} {ks : List (Option Expr)} {vs : List Expr} {tk tv : TE} {trs : List (TE × TE)} (hk : PE X k tk) (hv : PE X v tv) (hr : PPs X pos ks vs trs) :
    PPs X pos (some k :: ks) (v :: vs) ((tk, tv) :: trs) := fun pins s σ H Q I h =>
  pairTrees_cons_walk (thn (hk pins s σ H _ I h) fun u s1 ⟨x, H1, I1, rx, q1⟩ => thn (hv pins s1 σ H1 _ I1 q1) fun w2 s2 ⟨y, H2, I2, ry, q2⟩ =>
    thn (hr pins s2 σ H2 _ I2 q2) fun ws s3 ⟨ps, H3, I3, rel, q3⟩ => ⟨(x, y) :: ps, H3, I3, .cons ⟨rx, ry⟩ rel, q3⟩)

def mergeK (kvs more : List (Key × V)) : List (Key × V) := more.foldl (fun acc kv => putK acc kv.1 kv.2) kvs
theorem KV.merge : ∀ {more : List (Key × V)} {rs : List (Key × Value)} {kvs : List (Key × V)} {vs : List (Key × Value)}, KV more rs → KV kvs vs → KV (mergeK kvs more) (merged vs rs) := by
  intro more rs kvs vs r
  unfold KV at r
  induction r generalizing kvs vs with
  | nil => intro q; exact q
  | @cons p q ps qs h t ih =>
    intro r0
    have e : KV (putK kvs p.1 p.2) (stored vs q.1 q.2) := by
      have := r0.put p.1 h.2
      rw [← h.1]; exact this
    exact ih e
theorem length_mergeK : ∀ (more kvs : List (Key × V)), (mergeK kvs more).length ≤ kvs.length + more.length
  | [], kvs => by show kvs.length ≤ kvs.length + 0; omega
  | p :: r, kvs => by
    have h1 := length_mergeK r (putK kvs p.1 p.2)
    have h2 := length_putK kvs p.1 p.2
    show (mergeK (putK kvs p.1 p.2) r).length ≤ _
    rw [List.length_cons]; omega
theorem carries_of {P : Program} {w : World} : ∀ {kvs : List (Key × V)} {ws : List (Value × Value)}, VV (kvs.map fun kv => (kV kv.1, kv.2)) ws → ∃ rs, Carries (mixKind P w) ws rs ∧ KV kvs rs
  | [], _, r => by rw [List.map_nil] at r; cases r; exact ⟨[], True.intro, .nil⟩
  | p :: kvs, _, r => by
    rw [List.map_cons] at r
    cases r with
    | @cons a b as bs h t =>
      obtain ⟨rs, c, q⟩ := carries_of (P := P) (w := w) t
      obtain ⟨b1, b2⟩ := b
      exact ⟨(p.1, b2) :: rs, ⟨kV_is h.1, rfl, c⟩, .cons ⟨rfl, h.2⟩ q⟩
/-- {k: v, ..} with keys ints and texts; the new dict stands empty while the pairs are made -/
def tDisp (trs : List (TE × TE)) : TE := fun σ H Q => ∀ p, H p = none → tPairs trs σ (upd H p (.dK [])) fun ps H2 => H2 p = some (.dK []) ∧ ∃ kvs : List (Key × V), ps = kvs.map (fun kv => (kV kv.1, kv.2)) ∧ kvs.length ≤ 15 ∧ Q (.ref p) (upd H2 p (.dK (mergeK [] kvs)))
theorem pe_disp {X : Cx} {pos : Pos} {keys : List (Option Expr)} {values : List Expr} {trs : List (TE × TE)} (h : PPs X pos keys values trs) (hall : keys.all (·.isSome) = true) (hl : keys.length = values.length) (h0 : keys ≠ [])
    (h15 : keys.length ≤ 15) : PE X (.Dict keys values pos) (tDisp trs) := by
  intro pins s σ H Q I q
  have hn := I.hok.fresh (Nat.le_refl s.heap.objs.size)
  have I1 := I.laid (a := s.heap.objs.size) (o := .dK []) (h' := s.heap.push { cls := .type "dict", data := .dict #[] }) (t' := s.toks) (fun _ _ q => Heap.get?_push_of_some _ q) (Nat.le_refl _) (dk_empty s.heap I.big)
  refine wpAny_Dict_walk (knd := mixKind X.prog X.w) hall hl h0 h15 (thn (h pins _ σ _ _ I1 (q _ hn)) fun ws s2 ⟨ps, H2, I2, rel, e, kvs, ep, lk, q2⟩ => ?_)
  subst ep
  obtain ⟨rs, c, rk⟩ := carries_of (P := X.prog) (w := X.w) rel
  obtain ⟨z, hd, vs0, r0, dd⟩ := dk_of I2.hok e
  cases r0
  refine ⟨rs, c, dd, fun h' dd' hs => ⟨.ref s.heap.objs.size, _, ?_, rfl, q2⟩⟩
  have hz : (mergeK [] kvs).length ≤ sizeLine := by
    have h1 := length_mergeK kvs []
    rw [List.length_nil] at h1
    rw [sizeLine_eq]; omega
  have he : ∃ q, h'.get? s.heap.objs.size = some q := let ⟨q, _, _, hq, _⟩ := dd'; ⟨q, hq⟩
  exact d_write I2 (by rw [e]; exact True.intro) hs he (dk_new hz hd (rk.merge .nil) dd')


/-! ### methods -/
/-- a method call o.m(e) of a built-in, with one argument: what must be seen of the text -/
structure M1 (X : Cx) (o : Expr) (m : Str) (apos : Pos) (e : Expr) (cpos : Pos) : Prop where
  base : attributeBase o m X.env (eval o X.env) = eval o X.env
  few : ((backTo cpos (starEach [e] X.env)).all (fun x => !x.1) && (backToKw cpos (keywordEach [] X.env)).all (fun x => x.1.isSome)
    && decide (([e] : List Expr).length + ([] : List Keyword).length + (if ([] : List Keyword).isEmpty then 0 else 1) < 30)) = true
  line : (apos.endLine == cpos.line) = true
  trees : backTo cpos (starEach [e] X.env) = [(false, eval e X.env)]
structure M2 (X : Cx) (o : Expr) (m : Str) (apos : Pos) (e f : Expr) (cpos : Pos) : Prop where
  base : attributeBase o m X.env (eval o X.env) = eval o X.env
  few : ((backTo cpos (starEach [e, f] X.env)).all (fun x => !x.1) && (backToKw cpos (keywordEach [] X.env)).all (fun x => x.1.isSome)
    && decide (([e, f] : List Expr).length + ([] : List Keyword).length + (if ([] : List Keyword).isEmpty then 0 else 1) < 30)) = true
  line : (apos.endLine == cpos.line) = true
  trees : backTo cpos (starEach [e, f] X.env) = [(false, eval e X.env), (false, eval f X.env)]

/-- a is a dict, whatever its keys -/
def IsD (H : Hp) (a : Addr) : Prop := (∃ kvs, Rd H a (.dK kvs)) ∨ ∃ kvs, Rd H a (.dT kvs)
theorem isD_at {X : Cx} {pins : List (Addr × Obj)} {σ : St} {H : Hp} {s : Shared} {a : Addr} (I : Inv X pins σ H s) (d : IsD H a) :
    s.TypeIs (.ref a) "dict" ∧ (∀ b, Value.ref a = .ref b → ∃ ob, s.heap.get? b = some ob ∧ ob.dict = none) ∧ (a == sysModules) = false := by
  rcases d with ⟨kvs, e⟩ | ⟨kvs, e⟩
  · obtain ⟨_, hd, vs, _, dd⟩ := dk_rd I.hok e
    refine ⟨dd.typeIs, fun b q => ?_, hd⟩
    cases q
    obtain ⟨ob, _, _, h1, h2, _⟩ := dd
    exact ⟨ob, h1, h2.2.1⟩
  · obtain ⟨_, hd, xs, _, dd⟩ := dt_rd I.hok e
    refine ⟨dd.typeIs, fun b q => ?_, hd⟩
    cases q
    obtain ⟨ob, _, _, h1, h2, _⟩ := dd
    exact ⟨ob, h1, h2.2.1⟩

section
variable {X : Cx} {pins : List (Addr × Obj)} {σ : St} {H : Hp} {s : Shared} {a : Addr} {y d : V} {u r : Value} {o : Option V} {A : Around} {E : Value → Shared → Prop}
/-- d.get(y) -/
theorem d_get1 {Q : Value → Shared → Prop} (hu : A.units + 1 < cLine) (I : Inv X pins σ H s) (g : DGet H a y o) (ry : RelV y u) (h : ∀ w' s', Inv X pins σ H s' → RelV (o.getD .non) w' → Q w' s') :
    wpAny (model X.prog X.w) A (call (.builtin "dict.get") [.ref a, u]) Q E s := by
  rcases g with ⟨kvs, k, e, ey, l⟩ | ⟨kvs, k, b, e, ey, eb, l⟩
  · subst ey
    obtain ⟨z, hd, vs, rel, dd⟩ := dk_rd I.hok e
    refine call_meetsIn PySem.F.slot_dict_get dd.typeIs PySem.F.entry_dict_get (PySem.F.args_dict_get_2 _ _) (meets_dict_get (mixKind X.prog X.w) a (kV_is ry) hd) ⟨_, dd.mapOf, h _ _ (I.tok _) ?_⟩
    rw [l]
    exact (rel.val k).getD rfl
  · subst ey
    cases (show u = Value.ref b from ry)
    obtain ⟨z, hd, xs, rel, dd⟩ := dt_rd I.hok e
    refine call_meetsIn PySem.F.slot_dict_get dd.typeIs PySem.F.entry_dict_get (PySem.F.args_dict_get_2 _ _) (meetsH_dict_get (tupleKind (mixKind X.prog X.w)) a b hd) ⟨tupleKind_room_in1 hu, k, xs, key_of I.hok eb, dd, h _ _ (I.tok _) ?_⟩
    rw [l]
    exact (rel.val k).getD rfl
/-- d.get(y, x) -/
theorem d_get2 {Q : Value → Shared → Prop} (hu : A.units + 1 < cLine) (I : Inv X pins σ H s) (g : DGet H a y o) (ry : RelV y u) (rd : RelV d r) (h : ∀ w' s', Inv X pins σ H s' → RelV (o.getD d) w' → Q w' s') :
    wpAny (model X.prog X.w) A (call (.builtin "dict.get") [.ref a, u, r]) Q E s := by
  rcases g with ⟨kvs, k, e, ey, l⟩ | ⟨kvs, k, b, e, ey, eb, l⟩
  · subst ey
    obtain ⟨z, hd, vs, rel, dd⟩ := dk_rd I.hok e
    refine call_meetsIn PySem.F.slot_dict_get dd.typeIs PySem.F.entry_dict_get (PySem.F.args_dict_get_3 _ _ _) (meets_dict_get_default (mixKind X.prog X.w) a (kV_is ry) hd r) ⟨_, dd.mapOf, h _ _ (I.tok _) ?_⟩
    rw [l]
    exact (rel.val k).getD rd
  · subst ey
    cases (show u = Value.ref b from ry)
    obtain ⟨z, hd, xs, rel, dd⟩ := dt_rd I.hok e
    refine call_meetsIn PySem.F.slot_dict_get dd.typeIs PySem.F.entry_dict_get (PySem.F.args_dict_get_3 _ _ _) (meetsH_dict_get_default (tupleKind (mixKind X.prog X.w)) a b hd r) ⟨tupleKind_room_in1 hu, k, xs, key_of I.hok eb, dd, h _ _ (I.tok _) ?_⟩
    rw [l]
    exact (rel.val k).getD rd
end

def tDGet1 (td ty : TE) : TE := fun σ H Q => td σ H fun x H1 => ∃ a, x = .ref a ∧ IsD H1 a ∧ ty σ H1 fun y H2 => ∃ o, DGet H2 a y o ∧ Q (o.getD .non) H2
def tDGet2 (td ty tx : TE) : TE := fun σ H Q => td σ H fun x H1 => ∃ a, x = .ref a ∧ IsD H1 a ∧ ty σ H1 fun y H2 => tx σ H2 fun z H3 => ∃ o, DGet H3 a y o ∧ Q (o.getD z) H3
/-- d.pop(k): there; d.pop(k, x): there or not -/
def tDPop1 (td ty : TE) : TE := fun σ H Q => td σ H fun x H1 => ∃ a, x = .ref a ∧ IsD H1 a ∧ ty σ H1 fun y H2 => ∃ kvs k v, H2 a = some (.dK kvs) ∧ y = kV k ∧ valV kvs k = some v ∧ Q v (upd H2 a (.dK (dropK kvs k)))
def tDPop2 (td ty tx : TE) : TE := fun σ H Q => td σ H fun x H1 => ∃ a, x = .ref a ∧ IsD H1 a ∧ ty σ H1 fun y H2 => tx σ H2 fun z H3 => ∃ kvs k, H3 a = some (.dK kvs) ∧ y = kV k ∧
  (∀ v, valV kvs k = some v → Q v (upd H3 a (.dK (dropK kvs k)))) ∧ (valV kvs k = none → Q z H3)
section
variable {X : Cx} {o e f : Expr} {apos cpos : Pos} {td ty tx : TE}
theorem pe_dget1 (hu : X.A.units + 1 < cLine) (ho : PE X o td) (he : PE X e ty) (m : M1 X o "get" apos e cpos) : PE X (.Call (.Attribute o "get" apos) [e] [] cpos) (tDGet1 td ty) := by
  intro pins s σ H Q I h
  refine wpAny_Call_method m.base m.few m.line PySem.F.plainAttrs_dict PySem.F.slot_dict_get PySem.F.type_dict_get (thn (ho pins s σ H _ I h) fun u s1 ⟨x, H1, I1, rx, a, ex, d, q1⟩ => ?_)
  subst ex
  obtain rfl : u = Value.ref a := rx
  obtain ⟨t1, t2, _⟩ := isD_at I1 d
  refine ⟨t1, t2, ?_⟩
  rw [m.trees]
  refine Calls.callWith_builtin rfl (Calls.evalArgs_plain (Calls.spliced_cons (thn (he pins s1 σ H1 _ I1 q1) fun iv s2 ⟨y, H2, I2, ry, ov, g, q2⟩ => Calls.spliced_nil ?_)))
  exact d_get1 hu I2 g ry fun w' s3 I3 rw' => ⟨_, H2, I3, rw', q2⟩
theorem pe_dget2 (hu : X.A.units + 1 < cLine) (ho : PE X o td) (he : PE X e ty) (hf : PE X f tx) (m : M2 X o "get" apos e f cpos) : PE X (.Call (.Attribute o "get" apos) [e, f] [] cpos) (tDGet2 td ty tx) := by
  intro pins s σ H Q I h
  refine wpAny_Call_method m.base m.few m.line PySem.F.plainAttrs_dict PySem.F.slot_dict_get PySem.F.type_dict_get (thn (ho pins s σ H _ I h) fun u s1 ⟨x, H1, I1, rx, a, ex, d, q1⟩ => ?_)
  subst ex
  obtain rfl : u = Value.ref a := rx
  obtain ⟨t1, t2, _⟩ := isD_at I1 d
  refine ⟨t1, t2, ?_⟩
  rw [m.trees]
  refine Calls.callWith_builtin rfl (Calls.evalArgs_plain (Calls.spliced_cons (thn (he pins s1 σ H1 _ I1 q1) fun iv s2 ⟨y, H2, I2, ry, q2⟩ =>
    Calls.spliced_cons (thn (hf pins s2 σ H2 _ I2 q2) fun fv s3 ⟨z, H3, I3, rz, ov, g, q3⟩ => Calls.spliced_nil ?_))))
  exact d_get2 hu I3 g ry rz fun w' s4 I4 rw' => ⟨_, H3, I4, rw', q3⟩
theorem pe_dpop1 (ho : PE X o td) (he : PE X e ty) (m : M1 X o "pop" apos e cpos) : PE X (.Call (.Attribute o "pop" apos) [e] [] cpos) (tDPop1 td ty) := by
  intro pins s σ H Q I h
  refine wpAny_Call_method m.base m.few m.line PySem.F.plainAttrs_dict PySem.F.slot_dict_pop PySem.F.type_dict_pop (thn (ho pins s σ H _ I h) fun u s1 ⟨x, H1, I1, rx, a, ex, d, q1⟩ => ?_)
  subst ex
  obtain rfl : u = Value.ref a := rx
  obtain ⟨t1, t2, _⟩ := isD_at I1 d
  refine ⟨t1, t2, ?_⟩
  rw [m.trees]
  refine Calls.callWith_builtin rfl (Calls.evalArgs_plain (Calls.spliced_cons (thn (he pins s1 σ H1 _ I1 q1) fun iv s2 ⟨y, H2, I2, ry, kvs, k, v, ea, ey, l, q2⟩ => Calls.spliced_nil ?_)))
  subst ey
  exact d_pop I2 ea ry l (.inl rfl) fun w' s3 I3 rw' => ⟨v, _, I3, rw', q2⟩
theorem pe_dpop2 (ho : PE X o td) (he : PE X e ty) (hf : PE X f tx) (m : M2 X o "pop" apos e f cpos) : PE X (.Call (.Attribute o "pop" apos) [e, f] [] cpos) (tDPop2 td ty tx) := by
  intro pins s σ H Q I h
  refine wpAny_Call_method m.base m.few m.line PySem.F.plainAttrs_dict PySem.F.slot_dict_pop PySem.F.type_dict_pop (thn (ho pins s σ H _ I h) fun u s1 ⟨x, H1, I1, rx, a, ex, d, q1⟩ => ?_)
  subst ex
  obtain rfl : u = Value.ref a := rx
  obtain ⟨t1, t2, _⟩ := isD_at I1 d
  refine ⟨t1, t2, ?_⟩
  rw [m.trees]
  refine Calls.callWith_builtin rfl (Calls.evalArgs_plain (Calls.spliced_cons (thn (he pins s1 σ H1 _ I1 q1) fun iv s2 ⟨y, H2, I2, ry, q2⟩ =>
    Calls.spliced_cons (thn (hf pins s2 σ H2 _ I2 q2) fun fv s3 ⟨z, H3, I3, rz, kvs, k, ea, ey, q3, q4⟩ => Calls.spliced_nil ?_))))
  subst ey
  cases l : valV kvs k with
  | some v => exact d_pop I3 ea ry l (.inr ⟨fv, rfl⟩) fun w' s4 I4 rw' => ⟨v, _, I4, rw', q3 v l⟩
  | none => exact d_popD I3 ea ry l fun s4 I4 => ⟨z, H3, I4, rz, q4 l⟩
end

/-! ### dict(d): a copy -/
section
variable {X : Cx} {pins : List (Addr × Obj)} {σ : St} {H : Hp} {s : Shared} {a : Addr} {kvs : List (Key × V)} {A : Around} {E : Value → Shared → Prop}
theorem d_copyOf {Q : Value → Shared → Prop} (I : Inv X pins σ H s) (e : Rd H a (.dK kvs)) (h : ∀ p s', H p = none → Inv X pins σ (upd H p (.dK kvs)) s' → Q (.ref p) s') : wpAny (model X.prog X.w) A (call (.type "dict") [.ref a]) Q E s := by
  obtain ⟨z, hd, vs, rel, dd⟩ := dk_rd I.hok e
  refine kt_call_dict hd dd (by rw [← rel.length]; exact z) fun h' dd' hs => ?_
  refine h _ _ (I.hok.fresh (Nat.le_refl _)) (I.laid (a := s.heap.objs.size) (o := .dK kvs) (t' := s.toks) (fun b q hq => ?_) (Nat.le_refl _) (dk_new z (beq_eq_false_iff_ne.mpr (Ne.symm (Nat.ne_of_lt I.big))) rel dd'))
  exact (hs.2 b (Nat.ne_of_lt (Heap.lt_size hq))).trans (Heap.get?_push_of_some _ hq)
end


section
variable {X : Cx} {pins : List (Addr × Obj)} {σ : St} {H : Hp} {s : Shared} {a : Addr} {y : V} {u : Value} {A : Around} {E : Value → Shared → Prop}
/-- d[y], not there: a KeyError -/
theorem d_missing {Q : Value → Shared → Prop} (hu : A.units + 1 < cLine) (hh : A.handled = none) (I : Inv X pins σ H s) (g : DGet H a y none) (ry : RelV y u)
    (h : ∀ h' e t', Heap.NewExc s.heap h' e "KeyError" → E (.ref e) { s with heap := h', toks := t' }) : wpAny (model X.prog X.w) A (getItem (.ref a) u) Q E s := by
  rcases g with ⟨kvs, k, e, ey, l⟩ | ⟨kvs, k, b, e, ey, eb, l⟩
  · subst ey
    obtain ⟨z, hd, vs, rel, dd⟩ := dk_rd I.hok e
    have hn : valueAt vs k = none := RelO.none_of (by rw [l]; exact rel.val k)
    exact wpAny_getItem_missing_of (kV_is ry) hd hh dd.mapOf hn fun h' ex ne => h h' ex _ ne
  · subst ey
    cases (show u = Value.ref b from ry)
    obtain ⟨z, hd, xs, rel, dd⟩ := dt_rd I.hok e
    have hn : (atKey xs k).map (·.2) = none := RelO.none_of (by rw [l]; exact rel.val k)
    exact wpAny_getItem_missing_heap (tupleKind_room_in1 hu) (key_of I.hok eb) hd hh dd (Option.map_eq_none_iff.mp hn) fun h' ex ne => h h' ex _ ne
end
end L2

namespace Att
open PySem PySem.W PySem.Calls PyProof.Rows

/-! ### the script -/
theorem ints_of_wellAll {P : Params} {h : Heap} : ∀ (ns : List Int) (vs : List Value), WellAll P h vs (ns.map WData.int) → IntsAre vs ns := by
  intro ns
  induction ns with
  | nil =>
    intro vs w
    rw [List.map_nil] at w
    cases w
    exact .nil
  | cons n ns ih =>
    intro vs w
    rw [List.map_cons] at w
    cases w with
    | cons a b =>
      cases a
      exact .cons _ _ (ih _ b)

theorem script_of {l : OpenLaw} {n : Nat} (hn : l.most = some n) {P : Params} {h : Heap} {args : List WData} {vals : List Value}
    (hpre : l.row.toRowW.claim.pre args = true) (hwl : WellAll P h vals args) :
    ∃ a vs ns, vals = [Value.ref a] ∧ args = [WData.list (ns.map WData.int)] ∧ h.get? a = some { cls := .type "list", data := .seq vs.toArray } ∧ IntsAre vs ns ∧ ns.length ≤ n := by
  have hsh : WShape.hasAll [] args [.list .int] = true := (pre_splitW hpre).1
  have hc : l.pre.holds [] { args := args } = true := (pre_splitW hpre).2
  obtain ⟨d, r, rfl, h1, h2⟩ := hasAllW_cons hsh
  obtain rfl := hasAllW_nil h2
  obtain ⟨xs, rfl, h3⟩ := hasW_list h1
  obtain ⟨ns, rfl⟩ := items_int h3
  have hlen : ns.length ≤ n := by
    unfold OpenLaw.pre at hc
    have h4 : (WTm.not (.lt (.lit (.int (n : Int))) (.len (.arg 0)))).holds [] { args := [.list (ns.map .int)] } = true := by
      have h4 := (holds_andW hc).1
      rw [hn] at h4
      exact h4
    have h5 := condW_of h4 (w_not (w_lt w_lit (w_len_list (w_arg rfl))))
    rw [List.length_map] at h5
    refine Nat.le_of_not_lt fun q => ?_
    have q' : (n : Int) < ((ns.length : Nat) : Int) := by omega
    first
      | (rw [decide_eq_true q'] at h5; exact absurd h5 (by decide))
      | (simp at h5; omega)
  cases hwl with
  | cons w1 w2 =>
    cases w2
    cases w1 with
    | list ho hall => exact ⟨_, _, ns, rfl, rfl, ho, ints_of_wellAll ns _ hall, hlen⟩

theorem post_true (l : OpenLaw) (args : List WData) : l.row.toRowW.claim.post args (.bool true) args = true :=
  postW_of (r := l.row.toRowW) (X := (true == true))
    (show WShape.has [] (.bool true) .bool = true by first | rfl | decide | simp [WShape.has, WShape.arms, WShape.armsAll])
    (show (WTm.eq .res (.lit (.bool true))).value [] { args := args, res := some (.bool true), after := args } = some (.bool (true == true)) from w_eq_bool (w_res rfl) w_lit) rfl

/-! ### the attachment: holds_open's last premise (the goal 'hc' behind k_head) from a wpAny of the law's body -/
theorem attach {l : OpenLaw} {n : Nat} {q : Program} {loose : List Str} {XP : (Str → Option Value) → Heap → Prop} {YP : World → Heap → Prop} {d : DefRec} {x : Str}
    (hn : l.most = some n) (hdf : d.params.defaults = [])
    (hbind : ∀ pm cd doc v : Value, bindArgs (docDef d.name d.params d.body d.scope pm cd doc) ⟨[v], []⟩ = pure [(x, v)])
    (hx : d.scope.names.lookup x = some .local ∨ d.scope.names.lookup x = some .cell)
    (hk : d.scope.kind = .function) (hco : d.scope.isCoroutine = false) (hgen : d.scope.isGenerator = false)
    (body : ∀ (w : World) (s₀ s₁ s : Shared) (mg mb : Str → Option Value) (fa : Addr) (o : Obj) (pm cd doc : Value) (a : Addr) (vs : List Value) (ns : List Int),
      Ground q loose [] XP w s₀ mg mb s₁.heap → YP w s₁.heap →
      s₁.heap.get? fa = some o → o.data = .func (docDef d.name d.params d.body d.scope pm cd doc) → s₁.heap.CodeRec cd d.name → mg d.name = some (.ref fa) →
      s₁.heap.get? a = some { cls := .type "list", data := .seq vs.toArray } → IntsAre vs ns → ns.length ≤ n →
      s.gens = #[] → s.os = s₁.os →
      Fr s₁.heap s₁.heap.objs.size s.heap (bindL (envOfC d.name d.scope s₁.heap.objs.size fa cd).kindOf [(x, .ref a)] fun _ => none) →
      Cl s₁.heap.objs.size (cellsFrom (s₁.heap.objs.size + 1) d.scope.names []) s.heap (bindC (envOfC d.name d.scope s₁.heap.objs.size fa cd).kindOf [(x, .ref a)] fun _ => none) →
      wpAny (model l.prog w) (callerA.deeper (envOfC d.name d.scope s₁.heap.objs.size fa cd)) (execs d.body (envOfC d.name d.scope s₁.heap.objs.size fa cd))
        (fun f s' => f = .ret (.bool true) ∧ OldK s₁.heap s'.heap ∧ s'.os = s₁.os ∧ AllBare s'.gens) (fun _ _ => False) s) :
    WalkO q loose XP YP l.row.toRowW d [] (fun f vs => PySem.call f vs) := by
  intro w s₀ s₁ mg mb G Y fa o pm cd doc dV kV ho hd hcd hD hmg hg args vals as hpre hlay hrd hwl hlo
  obtain rfl : dV = .none := Dflts.none hD hdf
  obtain rfl : kV = .none := Dflts.noKw hD
  obtain ⟨a, vs, ns, rfl, rfl, hobj, hints, hlen⟩ := script_of hn hpre hwl
  refine enter_call ?_
  refine call_cells_ret (o := o) (by rw [depth_caller]; decide) ho (fd_plain hd) G.T.nolimit hcd (hbind pm cd doc (.ref a)) (fun y hy => ?_) (fun h₁ tk F X => ?_) hco hgen hk
  · obtain rfl : y = (x, Value.ref a) := List.mem_singleton.mp hy
    rcases hx with e | e
    · exact .inl e
    · exact .inr ⟨e, cellsFrom_some _ _ _ (.inl e)⟩
  · refine wpAny_mono (body w s₀ s₁ { s₁ with heap := h₁, toks := tk } mg mb fa o pm cd doc a vs ns G Y ho (fd_plain hd) hcd hmg hobj hints hlen hg rfl F X) (fun f s' hq => ?_) (fun _ _ hq => hq)
    obtain ⟨rfl, h2, h3, h4⟩ := hq
    exact ⟨.inl ⟨.bool true, .bool true, [], rfl, fun _ => rfl, .bool true, post_true l _, fun _ => ⟨List.Pairwise.nil, fun _ hm => (nomatch hm)⟩⟩, h2, h3, h4⟩

/-- the same from a codeAny of the CALL (for a layer whose function contracts speak of calls) -/
theorem attach_call {l : OpenLaw} {n : Nat} {q : Program} {loose : List Str} {XP : (Str → Option Value) → Heap → Prop} {YP : World → Heap → Prop} {d : DefRec}
    (hn : l.most = some n) (hdf : d.params.defaults = [])
    (call : ∀ (w : World) (s₀ s₁ : Shared) (mg mb : Str → Option Value) (fa : Addr) (o : Obj) (pm cd doc : Value) (a : Addr) (vs : List Value) (ns : List Int),
      Ground q loose [] XP w s₀ mg mb s₁.heap → YP w s₁.heap →
      s₁.heap.get? fa = some o → o.data = .func (docDef d.name d.params d.body d.scope pm cd doc) → s₁.heap.CodeRec cd d.name → mg d.name = some (.ref fa) →
      s₁.heap.get? a = some { cls := .type "list", data := .seq vs.toArray } → IntsAre vs ns → ns.length ≤ n → s₁.gens = #[] →
      codeAny (model l.prog w) callerA (.call (.ref fa) ⟨[.ref a], []⟩) (fun r s' => r = .ok (.ret (.bool true)) ∧ OldK s₁.heap s'.heap ∧ s'.os = s₁.os ∧ AllBare s'.gens) s₁) :
    WalkO q loose XP YP l.row.toRowW d [] (fun f vs => PySem.call f vs) := by
  intro w s₀ s₁ mg mb G Y fa o pm cd doc dV kV ho hd hcd hD hmg hg args vals as hpre hlay hrd hwl hlo
  obtain rfl : dV = .none := Dflts.none hD hdf
  obtain rfl : kV = .none := Dflts.noKw hD
  obtain ⟨a, vs, ns, rfl, rfl, hobj, hints, hlen⟩ := script_of hn hpre hwl
  refine enter_call (codeAny_mono (call w s₀ s₁ mg mb fa o pm cd doc a vs ns G Y ho (fd_plain hd) hcd hmg hobj hints hlen hg) fun r s' hq => ?_)
  obtain ⟨rfl, h2, h3, h4⟩ := hq
  exact ⟨.inl ⟨.bool true, .bool true, [], rfl, fun _ => rfl, .bool true, post_true l _, fun _ => ⟨List.Pairwise.nil, fun _ hm => (nomatch hm)⟩⟩, h2, h3, h4⟩

/-- the same where the top left finished generators (o_head chose holds_openN): nothing may have changed at all and no generator may be left -/
theorem attachN {l : OpenLaw} {n : Nat} {q : Program} {loose : List Str} {XP : (Str → Option Value) → Heap → Prop} {YP : World → Heap → Prop} {d : DefRec} {x : Str}
    (hn : l.most = some n) (hdf : d.params.defaults = [])
    (hbind : ∀ pm cd doc v : Value, bindArgs (docDef d.name d.params d.body d.scope pm cd doc) ⟨[v], []⟩ = pure [(x, v)])
    (hx : d.scope.names.lookup x = some .local ∨ d.scope.names.lookup x = some .cell)
    (hk : d.scope.kind = .function) (hco : d.scope.isCoroutine = false) (hgen : d.scope.isGenerator = false)
    (body : ∀ (w : World) (s₀ s₁ s : Shared) (mg mb : Str → Option Value) (fa : Addr) (o : Obj) (pm cd doc : Value) (a : Addr) (vs : List Value) (ns : List Int),
      Ground q loose [] XP w s₀ mg mb s₁.heap → YP w s₁.heap →
      s₁.heap.get? fa = some o → o.data = .func (docDef d.name d.params d.body d.scope pm cd doc) → s₁.heap.CodeRec cd d.name → mg d.name = some (.ref fa) →
      s₁.heap.get? a = some { cls := .type "list", data := .seq vs.toArray } → IntsAre vs ns → ns.length ≤ n →
      s.gens = #[] → s.os = s₁.os →
      Fr s₁.heap s₁.heap.objs.size s.heap (bindL (envOfC d.name d.scope s₁.heap.objs.size fa cd).kindOf [(x, .ref a)] fun _ => none) →
      Cl s₁.heap.objs.size (cellsFrom (s₁.heap.objs.size + 1) d.scope.names []) s.heap (bindC (envOfC d.name d.scope s₁.heap.objs.size fa cd).kindOf [(x, .ref a)] fun _ => none) →
      wpAny (model l.prog w) (callerA.deeper (envOfC d.name d.scope s₁.heap.objs.size fa cd)) (execs d.body (envOfC d.name d.scope s₁.heap.objs.size fa cd))
        (fun f s' => f = .ret (.bool true) ∧ (∀ b o, s₁.heap.get? b = some o → s'.heap.get? b = some o) ∧ s'.os = s₁.os ∧ s'.gens = #[]) (fun _ _ => False) s) :
    WalkN q loose XP YP l.row.toRowW d [] (fun f vs => PySem.call f vs) := by
  intro w s₀ s₁ mg mb G Y fa o pm cd doc dV kV ho hd hcd hD hmg hg args vals as hpre hlay hrd hwl hlo
  obtain rfl : dV = .none := Dflts.none hD hdf
  obtain rfl : kV = .none := Dflts.noKw hD
  obtain ⟨a, vs, ns, rfl, rfl, hobj, hints, hlen⟩ := script_of hn hpre hwl
  refine enter_callW ?_
  refine call_cells_ret (o := o) (by rw [depth_caller]; decide) ho (fd_plain hd) G.T.nolimit hcd (hbind pm cd doc (.ref a)) (fun y hy => ?_) (fun h₁ tk F X => ?_) hco hgen hk
  · obtain rfl : y = (x, Value.ref a) := List.mem_singleton.mp hy
    rcases hx with e | e
    · exact .inl e
    · exact .inr ⟨e, cellsFrom_some _ _ _ (.inl e)⟩
  · refine wpAny_mono (body w s₀ s₁ { s₁ with heap := h₁, toks := tk } mg mb fa o pm cd doc a vs ns G Y ho (fd_plain hd) hcd hmg hobj hints hlen hg rfl F X) (fun f s' hq => ?_) (fun _ _ hq => hq)
    obtain ⟨rfl, h2, h3, h4⟩ := hq
    exact ⟨.inl ⟨.bool true, .bool true, [], rfl, fun _ => rfl, .bool true, post_true l _, fun _ => ⟨List.Pairwise.nil, fun _ hm => (nomatch hm)⟩⟩, h2, h3, h4⟩

/-! ### rules over ANY heap (no ledger) from facts about the written part K: the library's own take a ledger (News) for what they write -/
section
variable {prog : Program} {w : World} {A : Around} {E : Value → Shared → Prop} {s : Shared} {K : Frag}

/-- a def of the module, or a method (qual 'C.m'), entered: the frame is the next address; cells behind it -/
theorem call_fn {R : Result → Shared → Prop} {name qual : Str} {params : Arguments} {body : List Stmt} {scope : Scope} {dV kV doc pm cdv ct oc : Value} {an od : Option Addr} {osl : Array (Option Value)} {f : Addr} {args : Args} {binds : List (Str × Value)}
    (X : K.In s.heap) (hlim : s.heap.NoLimit) (ho : K.lookup f = some ⟨oc, od, .func (fnOf name qual params body scope dV kV doc pm an cdv ct), osl⟩) (hcd : codeIn K cdv qual = true) (hroom : A.depth < recursionLimit)
    (hbind : BindsTo s (fnOf name qual params body scope dV kV doc pm an cdv ct) args binds)
    (hkind : (binds.all fun y => scope.names.lookup y.1 == some .local || scope.names.lookup y.1 == some .cell) = true)
    (h : ∀ s₁, InCallC s s.heap.objs.size (bindL (envOfC qual scope s.heap.objs.size f cdv).kindOf binds fun _ => none) (cellsFrom (s.heap.objs.size + 1) scope.names [])
        (bindC (envOfC qual scope s.heap.objs.size f cdv).kindOf binds fun _ => none) s₁ →
      wpAny (model prog w) (A.deeper (envOfC qual scope s.heap.objs.size f cdv)) (execs body (envOfC qual scope s.heap.objs.size f cdv))
        (fun fl s' => R (.ok (.ret (match fl with | .ret v => v | _ => .none))) s')
        (fun e s' => wpAny (model prog w) (A.deeper (envOfC qual scope s.heap.objs.size f cdv)) (leaving (envOfC qual scope s.heap.objs.size f cdv) e) (fun _ s'' => R (.error e) s'') (fun e' s'' => R (.error e') s'') s') s₁)
    (hco : scope.isCoroutine = false) (hgen : scope.isGenerator = false) (hk : scope.kind = .function) : codeAny (model prog w) A (.call (.ref f) args) R s := by
  refine codeAny_call_function hroom (X _ _ ho) rfl hco hgen rfl (codeRec_of X hcd) (hbind _ _ _ _ ?_)
  refine wpAny_newFunctionEnv_cells hk (kindsX hkind _) fun env he s₁ x => ?_
  subst he
  exact ⟨hlim.keeps x.toInCall.keep, codeAny_func (h s₁ x)⟩

/-- C(..): dict at size, instance at size + 1, then __init__ -/
theorem make_obj {R : Result → Shared → Prop} {C fI : Addr} {rest : List Value} {kw : List (Str × Value)}
    (X : K.In s.heap) (hm : makesIn K C = true) (hi : findIn K (.ref C) "__init__" = some (some (.ref fI))) (hf : isFn K (.ref fI) = true)
    (h : codeAny (model prog w) (A.under (.builtin "type.__call__" ⟨.ref C :: rest, kw⟩)) (.call (.ref fI) ⟨.ref (s.heap.objs.size + 1) :: rest, kw⟩) (InitBack (s.heap.objs.size + 1) R)
      { s with heap := (s.heap.push emptyDict).push (instObj C s.heap.objs.size) }) : codeAny (model prog w) A (.call (.ref C) ⟨rest, kw⟩) R s := by
  obtain ⟨hh, g, d, t, os⟩ := s
  exact make_core (makes_of X hm) (looks_findIn X hi) (fun self => bind_fn X self (beq_iff_eq.mp hf)) (.inl rfl) h

/-- x.name where the instance's dict holds the name and the class does not -/
theorem get_field {x C : Addr} {ox : Obj} {es : List DictEntry} {n : Nat} {name : Str} {expr : Bool} {v : Value} {Q : Value → Shared → Prop}
    (X : K.In s.heap) (I : PySem.W.InstAt s.heap x ox C (some (dictOf es n))) (hg : plainGet K C name = true) (hh : hasDictIn K C = true) (ha : findIn K (.ref C) name = some none)
    (hl : getL name es = some (some v)) (hv : handedIn v = true) (h : Q v { s with toks := s.toks + 1 }) : wpAny (model prog w) A (getAttr (.ref x) name expr) Q E s :=
  get_value X I (plainGet_of hg).1 (findObj_own hh ha rfl hl) hv h

/-- x.m(..): the method found in the class -/
theorem get_method {x C f : Addr} {ox : Obj} {es : List DictEntry} {n : Nat} {name : Str} {pl : Sem Bool} {Q : Value × List Value → Shared → Prop}
    (X : K.In s.heap) (I : PySem.W.InstAt s.heap x ox C (some (dictOf es n))) (hg : plainGet K C name = true) (hf : findIn K (.ref C) name = some (some (.ref f))) (ht : isFn K (.ref f) = true)
    (hl : getL name es = some none) (h : Q (.ref f, [.ref x]) s) : wpAny (model prog w) A (getMethod (.ref x) name pl) Q E s :=
  method_fn X I (plainGet_of hg).1 (plainGet_of hg).2 hf (beq_iff_eq.mp ht) (by show (lookIn name (dictOf es n)).map _ = _; rw [lookIn_dict, hl]; rfl) h

/-! the whole heap as the ledger: makes every rule that writes through a ledger a rule over any heap -/
def noObjs (h : Heap) : Heap := { h with objs := #[] }
theorem noObjs_get (h : Heap) (b : Addr) : (noObjs h).get? b = none := by
  cases e : (noObjs h).get? b with
  | none => rfl
  | some o => exact absurd (Heap.lt_size e) (Nat.not_lt_zero _)
def ledger (h : Heap) (L d : Addr) : List (Addr × Obj) := (List.range h.objs.size).filterMap fun a => if a = L ∨ a = d then none else (h.get? a).map fun o => (a, o)
theorem mem_ledger {h : Heap} {L d a : Addr} {o : Obj} : (a, o) ∈ ledger h L d ↔ a ≠ L ∧ a ≠ d ∧ h.get? a = some o := by
  unfold ledger
  rw [List.mem_filterMap]
  constructor
  · rintro ⟨b, _, e⟩
    split at e
    · cases e
    · rename_i hb
      obtain ⟨o', ho, e'⟩ := Option.map_eq_some_iff.mp e
      cases e'
      exact ⟨fun q => hb (.inl q), fun q => hb (.inr q), ho⟩
  · rintro ⟨n1, n2, ho⟩
    refine ⟨a, List.mem_range.mpr (Heap.lt_size ho), ?_⟩
    rw [if_neg (show ¬ (a = L ∨ a = d) from fun q => q.elim n1 n2), ho] <;> rfl
theorem news_ledger {h : Heap} {L d : Addr} {od : Obj} (hne : d ≠ L) (ho : h.get? d = some od) : News (noObjs h) L h ([] ++ (d, od) :: ledger h L d) := by
  rintro ⟨a, o⟩ hp
  rcases List.mem_cons.mp hp with e | hp
  · cases e
    exact ⟨ho, hne, noObjs_get _ _⟩
  · obtain ⟨n1, n2, e⟩ := mem_ledger.mp hp
    exact ⟨e, n1, noObjs_get _ _⟩
theorem fr_all {h : Heap} {L : Addr} {m : Str → Option Value} (n : h.Ns L m) : Fr (noObjs h) L h m :=
  ⟨n, fun b o e => (by rw [noObjs_get] at e; cases e), Nat.zero_le _⟩
/-- Upd of the head entry (for append_K, setItem_K ..) -/
theorem upd_ledger {h : Heap} {L d : Addr} {o o' : Obj} : Upd d o o' ((d, o) :: ledger h L d) ((d, o') :: ledger h L d) :=
  .head fun ⟨_, _⟩ hp => (mem_ledger.mp hp).2.1

/-- x.name = v over any heap: L is any namespace of the heap (the frame's, say): its map stays, its object is not told; all else but the dict stays -/
theorem set_field {x C dx L : Addr} {ox : Obj} {m : Str → Option Value} {es es' : List DictEntry} {n n' : Nat} {name : Str} {v : Value} {Q : Unit → Shared → Prop}
    (X : K.In s.heap) (I : PySem.W.InstAt s.heap x ox C (some (dictOf es n))) (hd : ox.dict = some dx) (hL : s.heap.Ns L m) (hne : dx ≠ L)
    (hs : findIn K (.ref C) "__setattr__" = some (some (.builtin "object.__setattr__"))) (hp : plainOver K C = true) (ht : takerIn K C name = some none) (hh : hasDictIn K C = true) (hl : (getL name es).isSome = true)
    (e : (putL name (PyData.keyHash w.params name) (.str name (s.toks + 1)) v es, putN name es n) = (es', n')) (hz : es'.length ≤ 1000)
    (h : ∀ h' : Heap, h'.Ns L m → h'.get? dx = some (dictOf es' n') → (∀ b o, b ≠ dx → b ≠ L → s.heap.get? b = some o → h'.get? b = some o) → Q () { s with heap := h', toks := s.toks + 2 }) :
    wpAny (model prog w) A (setAttr (.ref x) name v) Q E s := by
  obtain ⟨e1, e2⟩ := Prod.mk.inj e
  have hdx : s.heap.get? dx = some (dictOf es n) := by
    have := I.dict
    rw [hd] at this
    exact this
  refine set_plain X I hs (osa_dict (s := { s with toks := s.toks + 1 }) (h₀ := noObjs s.heap) (L := L) (m := m) (od := dictOf es n) (od' := dictOf es' n') (es := es') (n := n') (pre := []) (post := ledger s.heap L dx)
    (fr_all hL) (news_ledger hne hdx) X I hd hp ht hh hl (fun _ q => nomatch q) (fun ⟨_, _⟩ q => (mem_ledger.mp q).2.1) (by rw [putName_dict, e1, e2]) rfl hz fun h' F' N' => ?_)
  exact h h' F'.ns (N'.get (List.Mem.head _)) fun b o n1 n2 ho => N'.get (List.Mem.tail _ (mem_ledger.mpr ⟨n2, n1, ho⟩))
end
end Att

namespace L2
open PySem PySem.Spec PyProof.Rows

theorem vals_ints : ∀ {vs : List Value} {ns : List Int}, IntsAre vs ns → Vals (ns.map V.int) vs
  | _, _, .nil => .nil
  | _, _, .cons n t h => .cons ⟨t, rfl⟩ (vals_ints h)

/-- nothing is tracked but the script, known to the object (or it is an object of the module) -/
def Only (H : Hp) : Prop := ∀ b, H b = none ∨ ∃ o xs, H b = some (.frz o (.lst xs))

/-- THE HEAD: the law's promise, at the heap behind the top. F, the promise of the law's def, may use that base is part of the heap (so K.In base, base.Ns mainGlobals mg stand in Mod) -/
theorem law_call {P : Program} {w : World} {K : PySem.W.Frag} {mg mb : Str → Option Value} {CX : CXT} {k : Nat} {fa a : Addr} {fd : FuncData} {x : Str} {sp : Sp} {s₁ : Shared} {vs : List Value} {ns : List Int}
    (KX : K.In s₁.heap) (hns : s₁.heap.Ns mainGlobals mg) (hb : s₁.heap.Ns builtinsNs mb) (hbb : ∀ x : Str, x ≠ "__name__" → mb x = bootBuiltins x) (hlim : s₁.heap.NoLimit) (hg : s₁.gens = #[])
    (ha : s₁.heap.get? a = some { cls := .type "list", data := .seq vs.toArray }) (hi : IntsAre vs ns) (hl : ns.length ≤ sizeLine) (hr : Room k callerA)
    (F : ∀ base : Heap, K.In base → base.Ns mainGlobals mg → FnOk P w K mg base CX k fa fd [x] sp) (hbind : ∀ (s : Shared) (u : Value), BindsTo s fd ⟨[u], []⟩ [(x, u)])
    (hsp : ∀ H : Hp, Only H → SqL K H a (ns.map V.int) → sp [.ref a] H (fun v _ => v = .bl true) fun _ _ _ => False)
    (hCX : ∀ H e s', CX [] H s₁ (fun _ _ _ => False) e s' → False) :
    codeAny (model P w) callerA (.call (.ref fa) ⟨[.ref a], []⟩) (fun r s' => r = .ok (.ret (.bool true)) ∧ OldK s₁.heap s'.heap ∧ s'.os = s₁.os ∧ AllBare s'.gens) s₁ := by
  have rv := vals_ints hi
  have lenV := hi.length
  -- from an abstract heap in which nothing but the script may be tracked
  have core : ∀ H : Hp, Only H → SqL K H a (ns.map V.int) → HOk P w H s₁.heap → (∀ b, H b ≠ none → b = a) → (H a ≠ none → K.lookup a = none) →
      codeAny (model P w) callerA (.call (.ref fa) ⟨[.ref a], []⟩) (fun r s' => r = .ok (.ret (.bool true)) ∧ OldK s₁.heap s'.heap ∧ s'.os = s₁.os ∧ AllBare s'.gens) s₁ := by
    intro H hO hS hok hA hK
    have base_of : ∀ {b : Addr} {o : Obj}, s₁.heap.get? b = some o → H b = none → (hidT s₁.heap H).get? b = some o := fun e n => hidT_get e n
    have noA : ∀ {b : Addr} {o : Obj} {es : Array DictEntry} {ep : Nat}, s₁.heap.get? b = some o → o.data = .dict es ep → H b = none := fun {b o es ep} e d => by
      cases q : H b with
      | none => rfl
      | some u =>
        have e' : b = a := hA b (by rw [q]; simp)
        subst e'
        rw [ha] at e; cases e
        have d' : Data.seq vs.toArray _ = Data.dict es ep := d
        cases d'
    have nsK : ∀ {b : Addr} {m : Str → Option Value}, s₁.heap.Ns b m → (hidT s₁.heap H).Ns b m := fun {b m} ⟨o, es, ep, e, d, r⟩ => ⟨o, es, ep, base_of e (noA e d), d, r⟩
    have hKb : K.In (hidT s₁.heap H) := fun b o e => base_of (KX b o e) (by
      cases q : H b with
      | none => rfl
      | some u =>
        have e' : b = a := hA b (by rw [q]; simp)
        subst e'
        rw [hK (by rw [q]; simp)] at e; cases e)
    have hM : Mod K mg (hidT s₁.heap H) := ⟨hKb, nsK hns, ⟨mb, nsK hb, hbb⟩, let ⟨mc, h1, h2⟩ := hlim; ⟨mc, nsK h1, h2⟩⟩
    have e0 : Env0 P w K mg (hidT s₁.heap H) callerA [] s₁ H := ⟨rfl, hM, fun b o e => of_hidT e, Nat.le_of_eq (hidT_size _ _), trivial, fun b hb => absurd (show b ∈ ([] : List Addr) from hb) (by simp), hok, .of_eq hg⟩
    refine codeAny_mono ((F _ hKb (nsK hns)).run callerA [] s₁ H ⟨[.ref a], []⟩ [.ref a] [.ref a] _ _ hr e0 (hbind s₁ (.ref a)) (.cons rfl .nil) (hsp H hO hS)) fun r s' h => ?_
    cases r with
    | error e => exact (hCX H e s' h).elim
    | ok fl =>
      cases fl with
      | next => exact False.elim h
      | brk => exact False.elim h
      | cont => exact False.elim h
      | ret u =>
        obtain ⟨v, H', os, bare, un, hok', r', q⟩ := h
        have q' : v = .bl true := q
        subst q'
        obtain rfl : u = Value.bool true := r'
        refine ⟨rfl, OldK.of_keep fun b o e => ?_, os, bare⟩
        cases q : H b with
        | none => exact un.keep b o e q (by intro z; exact absurd (show b ∈ ([] : List Addr) from z) (by simp)) (by simp)
        | some u =>
          rcases hO b with z | ⟨ob, xs, z⟩
          · rw [q] at z; cases z
          · have z2 := un.frzs b ob _ z
            obtain ⟨e1, _⟩ := hok b _ z
            obtain ⟨e2, _⟩ := hok' b _ z2
            rw [e] at e1; cases e1
            exact e2
  cases hk : K.lookup a with
  | some o =>
    -- the script is one of the module's own objects
    have e := KX a o hk
    rw [ha] at e
    cases e
    refine core (fun _ => none) (fun _ => .inl rfl) (.inr ⟨_, vs.toArray, _, hk, rfl, rfl, rfl, by rw [List.size_toArray, lenV]; exact hl, by simpa using rv⟩) (fun b u z => by have z' : (none : Option HO) = some u := z; cases z') (fun b z => absurd rfl z) fun z => absurd rfl z
  | none =>
    refine core (fun b => if b = a then some (.frz { cls := .type "list", data := .seq vs.toArray } (.lst (ns.map V.int))) else none) (fun b => ?_) (.inl (.inr ⟨{ cls := .type "list", data := .seq vs.toArray }, if_pos rfl⟩)) (fun b u z => ?_) (fun b z => ?_) fun _ => hk
    · by_cases hb : b = a
      · exact .inr ⟨_, _, if_pos hb⟩
      · exact .inl (if_neg hb)
    · by_cases hb : b = a
      · have z' := (if_pos hb).symm.trans z
        cases z'
        subst hb
        exact ⟨ha, by rw [List.length_map]; exact hl, vs, _, rv, ha⟩
      · have z' := (if_neg hb).symm.trans z
        cases z'
    · by_cases hb : b = a
      · exact hb
      · exact absurd (if_neg hb) z
end L2

namespace L2
open PySem PySem.Spec PyProof.Rows

abbrev KOf {K : PySem.W.Frag} {h : Heap} (_ : K.In h) : PySem.W.Frag := K

/-- the goal that k_head leaves (case hc), from the law's promise. F gives the function object fd (K's own) once, then the promise over every base -/
theorem walk_of {l : PySem.W.OpenLaw} {n k : Nat} {q : Program} {loose : List Str} {XP : (Str → Option Value) → Heap → Prop} {YP : World → Heap → Prop} {d : DefRec} {K : Params → PySem.W.Frag} {CX : World → CXT} {sp : World → Sp} {x : Str}
    (hn : l.most = some n) (hn2 : n ≤ sizeLine) (hdf : d.params.defaults = []) (hr : Room k callerA)
    (hY : ∀ (w : World) (h : Heap), YP w h → (K w.params).In h)
    (F : ∀ (w : World) (mg : Str → Option Value) (fa : Addr) (h : Heap), (K w.params).In h → h.Ns mainGlobals mg → mg d.name = some (.ref fa) →
      ∃ fd : FuncData, (∀ (s : Shared) (u : Value), BindsTo s fd ⟨[u], []⟩ [(x, u)]) ∧
        ∀ base : Heap, (K w.params).In base → base.Ns mainGlobals mg → FnOk l.prog w (K w.params) mg base (CX w) k fa fd [x] (sp w))
    (hsp : ∀ (w : World) (H : Hp) (a : Addr) (ns : List Int), ns.length ≤ n → Only H → SqL (K w.params) H a (ns.map V.int) → sp w [.ref a] H (fun v _ => v = .bl true) fun _ _ _ => False)
    (hCX : ∀ (w : World) (H : Hp) (s : Shared) (e : Value) (s' : Shared), CX w [] H s (fun _ _ _ => False) e s' → False) :
    PySem.W.WalkO q loose XP YP l.row.toRowW d [] (fun f vs => PySem.call f vs) := by
  refine Att.attach_call hn hdf fun w s₀ s₁ mg mb fa o pm cd doc a vs ns G Y ho hd hcd hmg hobj hints hlen hg => ?_
  have KX := hY w _ Y
  obtain ⟨fd, hb, hF⟩ := F w mg fa _ KX G.T.g hmg
  exact law_call KX G.T.g G.T.b G.T.builtins G.T.nolimit hg hobj hints (Nat.le_trans hlen hn2) hr hF hb (fun H hO hS => hsp w H a ns hlen hO hS) fun H e s' => hCX w H s₁ e s'
/-- the same where the promise hangs on the written part alone: (sp := My.sp_law), no hole under a binder -/
theorem walk_ofK {l : PySem.W.OpenLaw} {n k : Nat} {q : Program} {loose : List Str} {XP : (Str → Option Value) → Heap → Prop} {YP : World → Heap → Prop} {d : DefRec} {K : Params → PySem.W.Frag} {CX : CXT} {sp : PySem.W.Frag → Sp} {x : Str}
    (hn : l.most = some n) (hn2 : n ≤ sizeLine) (hdf : d.params.defaults = []) (hr : Room k callerA)
    (hY : ∀ (w : World) (h : Heap), YP w h → (K w.params).In h)
    (F : ∀ (w : World) (mg : Str → Option Value) (fa : Addr) (h : Heap), (K w.params).In h → h.Ns mainGlobals mg → mg d.name = some (.ref fa) →
      ∃ fd : FuncData, (∀ (s : Shared) (u : Value), BindsTo s fd ⟨[u], []⟩ [(x, u)]) ∧
        ∀ base : Heap, (K w.params).In base → base.Ns mainGlobals mg → FnOk l.prog w (K w.params) mg base CX k fa fd [x] (sp (K w.params)))
    (hsp : ∀ (K : PySem.W.Frag) (H : Hp) (a : Addr) (ns : List Int), ns.length ≤ n → Only H → SqL K H a (ns.map V.int) → sp K [.ref a] H (fun v _ => v = .bl true) fun _ _ _ => False)
    (hCX : ∀ (H : Hp) (s : Shared) (e : Value) (s' : Shared), CX [] H s (fun _ _ _ => False) e s' → False) :
    PySem.W.WalkO q loose XP YP l.row.toRowW d [] (fun f vs => PySem.call f vs) :=
  walk_of (K := K) (CX := fun _ => CX) (sp := fun w => sp (K w.params)) hn hn2 hdf hr hY F (fun w H a ns h1 h2 h3 => hsp (K w.params) H a ns h1 h2 h3) fun _ H s e s' => hCX H s e s'
end L2

/- THE LAST THEOREM (shape; LID, My.* are yours):
   My.Adr: a structure of the addresses that your layer names (classes, functions); My.Txt K t: a structure (Prop) of the equations over K;
   My.txt_mk : {K} {implicit addresses ..} (e1 : nsIn K mainGlobals "law" = some (some (.ref f))) (e2 : K.lookup f = some ⟨oc, od, .func (fnOf "law" "law" params body scope dV kV doc pm an cdv ct), sl⟩) (e3 : codeIn K cdv "law" = true) .. : ∃ t, My.Txt K t

set_option maxRecDepth 100000 in
set_option maxHeartbeats 0 in
theorem PySem.Challenge.cw_LID_holds : PySem.Challenge.rw_LID.Holds := by
  w_on; o_law; k_head; (case hw => w_witness2)
  k_fill
  refine L2.walk_of (l := PySem.Challenge.rw_LID) (n := 63) (k := 40) (x := "script") (CX := fun w => ..) (sp := fun _ => My.sp_law) rfl (by decide) rfl ⟨rfl, by decide, by decide⟩ (fun w h Y => PySem.W.kIn_of Y) ?F ?S ?C
  case F =>
    intro w mg fa h KX G hmg
    have T : ∃ t, My.Txt (L2.KOf KX) t := by
      dsimp only [L2.KOf]                          -- K must stand as «<heap const> w.params» for k_is
      refine' My.txt_mk ?e1 ?e2 ?e3 ..
      (case e1 => PySem.W.k_is)                    -- in the order: a name -> its address -> its object -> its parts
      (case e2 => PySem.W.k_is)
      ..
    obtain ⟨t, T⟩ := T
    have e0 := hmg.symm.trans (PySem.W.mg_of KX G T.law)
    cases e0                                       -- fa is the law's own address
    exact ⟨_, fun s u => .of_eq rfl, fun base kb nb => My.law_fn T kb nb⟩     -- if «.of_eq rfl» comes too early: refine' ⟨_, ?b, fun base kb nb => My.law_fn T kb nb⟩; exact fun s u => .of_eq rfl
  case S => exact fun w H a ns hl hO hS => ..
  case C => exact ..
(the tactic k_is has no namespace: write k_is) -/

/-! SHORT WORDS over the layer: a def of the text, its body, what a loop and a test want. -/
namespace L2
open PySem PySem.Spec PyProof.Rows

/-! ### the text by places -/
/-- the j-th statement of a class's body -/
def inClass (s : Stmt) (j : Nat) : Stmt := match s with
  | .ClassDef _ _ _ body _ _ _ _ _ _ _ => body.getD j (.Pass ⟨0, 0, 0, 0⟩)
  | _ => .Pass ⟨0, 0, 0, 0⟩
def defArgs (s : Stmt) : Arguments := match s with
  | .FunctionDef _ a _ _ _ _ _ _ _ _ => a
  | _ => { posonlyargs := [], args := [], vararg := none, kwonlyargs := [], kw_defaults := [], kwarg := none, defaults := [] }
def defBody (s : Stmt) : List Stmt := match s with
  | .FunctionDef _ _ b _ _ _ _ _ _ _ => b
  | _ => []
def defScope (s : Stmt) : Scope := match s with
  | .FunctionDef _ _ _ _ _ _ sc _ _ _ => sc
  | _ => { kind := .function, names := [], isGenerator := false, isCoroutine := false }

/-! ### no exception leaves a def -/
abbrev CX0 : CXT := fun _ _ _ _ _ _ => False
abbrev E0 : XK := fun _ _ _ => False
theorem pass0 {X : Cx} : Passes CX0 X E0 := fun _ _ _ _ _ _ _ h => h.elim

/-! ### a def (or method) of the text as it stands behind the top -/
structure Fun (K : PySem.W.Frag) (x qual : Str) (st : Stmt) (f : Addr) (fd : FuncData) : Prop where
  ex : ∃ (oc : Value) (od : Option Addr) (kV doc pm : Value) (an : Option Addr) (cdv ct : Value) (osl : Array (Option Value)),
    fd = PySem.W.fnOf x qual (defArgs st) (defBody st) (defScope st) .none kV doc pm an cdv ct ∧ K.lookup f = some ⟨oc, od, .func fd, osl⟩ ∧ PySem.W.codeIn K cdv qual = true
  kp : PySem.W.keepIn K (.ref f) = true
section
variable {P : Program} {w : World} {K : PySem.W.Frag} {mg : Str → Option Value} {base : Heap}
/-- THE RULE for a def: its body as a term of rules, and the reading of that term -/
theorem Fun.ok {x qual : Str} {st : Stmt} {f : Addr} {fd : FuncData} {N ps : List Str} {k : Nat} {sp : Sp} (F : Fun K x qual st f fd) (S : FnScope N ps (defScope st)) (len : ∀ vs H Q E, sp vs H Q E → vs.length = ps.length)
    (hbody : ∀ (cdv : Value) (A : Around) (outer : List Env) (s : Shared) (H : Hp) (vs : List V) (Q : VK) (E : XK), Room k (A.deeper (envOfC qual (defScope st) s.heap.objs.size f cdv)) → sp vs H Q E →
      ∃ t, PSs (cxOf CX0 P w K mg base N qual (defScope st) f cdv A outer s H E).nox (defBody st) t ∧ t { nx := fun _ H' => Q .non H', rt := Q } (start N vs) H) : FnOk P w K mg base CX0 (k + 1) f fd ps sp := by
  obtain ⟨oc, od, kV, doc, pm, an, cdv, ct, osl, rfl, lk, hcd⟩ := F.ex
  refine fn_of lk hcd S len fun A outer s H vs Q E hr hsp => ?_
  obtain ⟨t, h, q⟩ := hbody cdv A outer s H vs Q E hr hsp
  exact ⟨t, h.nox, q⟩
/-- how its arguments bind (no defaults): h is «fun _ _ _ _ _ _ us hl => match us, hl with | [_, _], _ => rfl», one _ a parameter -/
theorem Fun.binds {x qual : Str} {st : Stmt} {f : Addr} {fd : FuncData} {ps : List Str} (F : Fun K x qual st f fd)
    (h : ∀ (kV doc pm : Value) (an : Option Addr) (cdv ct : Value) (us : List Value), us.length = ps.length → bindArgs (PySem.W.fnOf x qual (defArgs st) (defBody st) (defScope st) .none kV doc pm an cdv ct) ⟨us, []⟩ = pure (ps.zip us)) : Binds K fd ps [] := by
  obtain ⟨oc, od, kV, doc, pm, an, cdv, ct, osl, rfl, lk, hcd⟩ := F.ex
  exact .all (h kV doc pm an cdv ct)
theorem fun_mk {x qual : Str} {st : Stmt} {f : Addr} {oc : Value} {od an : Option Addr} {osl : Array (Option Value)} {kV doc pm cdv ct : Value} (l : K.lookup f = some ⟨oc, od, .func (PySem.W.fnOf x qual (defArgs st) (defBody st) (defScope st) .none kV doc pm an cdv ct), osl⟩)
    (c : PySem.W.codeIn K cdv qual = true) (k : PySem.W.keepIn K (.ref f) = true) : Fun K x qual st f (PySem.W.fnOf x qual (defArgs st) (defBody st) (defScope st) .none kV doc pm an cdv ct) := ⟨⟨oc, od, kV, doc, pm, an, cdv, ct, osl, rfl, l, c⟩, k⟩
end
theorem hu_of {A : Around} {k : Nat} (hr : Room k A) : A.units + 1 < cLine := Nat.lt_of_le_of_lt (Nat.add_le_add_left (by decide : 1 ≤ 64) _) hr.units
theorem small1000 {n : Nat} (h : n ≤ 1000) : n < sizeLine := Nat.lt_of_le_of_lt h (by decide)

/-! ### expressions in short: the name that stands in the i-th slot -/
section
variable {X : Cx}
theorem pv (i : Nat) {x : Str} {pos : Pos} (hN : X.N[i]? = some x := by rfl) (hv : Vis X.env.scope x := by first | exact Or.inl rfl | exact Or.inr (Or.inl rfl) | exact Or.inr (Or.inr rfl)) (hd : (x == ("__debug__" : Str)) = false := by decide)
    (hcd : (x == ("__classdict__" : Str)) = false := by decide) : PE X (.Name x pos) (tVar i) := pe_var hN hv hd hcd
/-- len of a dict -/
theorem call_lenD : CallR X (.builtin "len") (fun xs H Q => ∃ a kvs, xs = [V.ref a] ∧ H a = some (.dK kvs) ∧ Q (.int kvs.length) H) := by
  intro pins s σ H xs us Q I r h
  obtain ⟨a, kvs, rfl, ha, q⟩ := h
  obtain ⟨u, rfl, ru⟩ := vals1 r
  cases ru
  exact d_len I (.inl ha) fun t s' I' => ⟨.int kvs.length, H, I', ⟨t, rfl⟩, q⟩
end

/-! ### tests -/
theorem iteF {A B : Prop} (h : B) : if false = true then A else B := by
  rw [if_neg Bool.false_ne_true]
  exact h
theorem iteT {A B : Prop} (h : A) : if true = true then A else B := by
  rw [if_pos rfl]
  exact h
theorem ite2 {c A B : Prop} [Decidable c] (h1 : c → A) (h2 : ¬ c → B) : if c then A else B := by
  by_cases h : c
  · rw [if_pos h]
    exact h1 h
  · rw [if_neg h]
    exact h2 h
theorem iteNS {c A B : Prop} [Decidable c] (hc : c) (h : B) : if (!decide c) = true then A else B := by
  rw [decide_eq_true hc]
  exact iteF h

/-! ### heaps -/
/-- all that was tracked is as it was -/
def Same (H H' : Hp) : Prop := ∀ b o, H b = some o → H' b = some o
theorem Same.refl (H : Hp) : Same H H := fun _ _ h => h
theorem Same.trans {H H1 H2 : Hp} (a : Same H H1) (b : Same H1 H2) : Same H H2 := fun c o h => b c o (a c o h)
theorem Same.free {H H' : Hp} (e : Same H H') {l : Addr} (h : H' l = Option.none) : H l = Option.none := by
  cases q : H l with
  | none => rfl
  | some o =>
    rw [e l o q] at h
    cases h
theorem Same.seq {K : PySem.W.Frag} {H H' : Hp} {a : Addr} {xs : List V} (e : Same H H') (h : SqL K H a xs) : SqL K H' a xs := by
  rcases h with (h | ⟨o, h⟩) | h
  · exact .inl (.inl (e _ _ h))
  · exact .inl (.inr ⟨o, e _ _ h⟩)
  · exact .inr h

/-! ### a dict's pairs: keys that differ -/
section
variable {κ : Type} [DecidableEq κ]
theorem valV_not {kvs : List (κ × V)} {k : κ} (h : valV kvs k = none) : ¬ k ∈ kvs.map (·.1) := by
  intro m
  obtain ⟨p, hp, e⟩ := List.mem_map.mp m
  have q : (kvs.any fun kv => decide (kv.1 = k)) = true := List.any_eq_true.mpr ⟨p, hp, decide_eq_true e⟩
  rw [valV_any, h] at q
  exact absurd q (by simp)
theorem valV_in {kvs : List (κ × V)} {k : κ} {v : V} (h : valV kvs k = some v) : k ∈ kvs.map (·.1) := by
  have q : (kvs.any fun kv => decide (kv.1 = k)) = true := by
    rw [valV_any, h]
    all_goals rfl
  obtain ⟨p, hp, e⟩ := List.any_eq_true.mp q
  exact List.mem_map.mpr ⟨p, hp, of_decide_eq_true e⟩
theorem nd_snoc : ∀ {l : List κ} {k : κ}, l.Nodup → ¬ k ∈ l → (l ++ [k]).Nodup
  | [], k, _, _ => by simp
  | a :: r, k, h, hk => by
    obtain ⟨h1, h2⟩ := List.nodup_cons.mp h
    show (a :: (r ++ [k])).Nodup
    refine List.nodup_cons.mpr ⟨fun m => ?_, nd_snoc h2 fun m => hk (List.mem_cons.mpr (Or.inr m))⟩
    rcases List.mem_append.mp m with q | q
    · exact h1 q
    · exact hk (List.mem_cons.mpr (Or.inl (List.mem_singleton.mp q).symm))
theorem nd_putK {kvs : List (κ × V)} {k : κ} (v : V) (hn : (kvs.map (·.1)).Nodup) (h : valV kvs k = none) : ((putK kvs k v).map (·.1)).Nodup := by
  rw [putK_new v h, List.map_append]
  exact nd_snoc hn (valV_not h)
theorem dropK_pos {p : κ × V} {r : List (κ × V)} {k : κ} (e : p.1 = k) : dropK (p :: r) k = dropK r k := by
  unfold dropK
  rw [List.filter_cons, if_neg (by simp [e])]
theorem dropK_neg {p : κ × V} {r : List (κ × V)} {k : κ} (e : ¬ p.1 = k) : dropK (p :: r) k = p :: dropK r k := by
  unfold dropK
  rw [List.filter_cons, if_pos (by simp [e])]
theorem dropK_no : ∀ {kvs : List (κ × V)} {k : κ}, ¬ k ∈ kvs.map (·.1) → dropK kvs k = kvs
  | [], _, _ => rfl
  | p :: r, k, h => by
    have h' : ¬ k ∈ r.map (·.1) := fun m => by
      obtain ⟨q, hq, e⟩ := List.mem_map.mp m
      exact h (List.mem_map.mpr ⟨q, List.mem_cons.mpr (Or.inr hq), e⟩)
    rw [dropK_neg fun e => h (List.mem_map.mpr ⟨p, List.mem_cons.mpr (Or.inl rfl), e⟩), dropK_no h']
theorem dropK_mem {kvs : List (κ × V)} {k : κ} {p : κ × V} (h : p ∈ dropK kvs k) : p ∈ kvs := (List.mem_filter.mp h).1
theorem nd_dropK : ∀ {kvs : List (κ × V)} {k : κ}, (kvs.map (·.1)).Nodup → ((dropK kvs k).map (·.1)).Nodup
  | [], _, _ => List.nodup_nil
  | p :: r, k, h => by
    have h : (p.1 :: r.map (·.1)).Nodup := h
    obtain ⟨h1, h2⟩ := List.nodup_cons.mp h
    by_cases e : p.1 = k
    · rw [dropK_pos e]
      exact nd_dropK h2
    · rw [dropK_neg e]
      show (p.1 :: (dropK r k).map (·.1)).Nodup
      refine List.nodup_cons.mpr ⟨fun m => h1 ?_, nd_dropK h2⟩
      obtain ⟨q, hq, eq⟩ := List.mem_map.mp m
      exact List.mem_map.mpr ⟨q, dropK_mem hq, eq⟩
theorem dropK_len : ∀ {kvs : List (κ × V)} {k : κ}, (kvs.map (·.1)).Nodup → k ∈ kvs.map (·.1) → (dropK kvs k).length + 1 = kvs.length
  | [], _, _, m => by simp at m
  | p :: r, k, h, m => by
    have h : (p.1 :: r.map (·.1)).Nodup := h
    have m : k = p.1 ∨ k ∈ r.map (·.1) := List.mem_cons.mp m
    obtain ⟨h1, h2⟩ := List.nodup_cons.mp h
    by_cases e : p.1 = k
    · subst e
      rw [dropK_pos rfl, dropK_no h1]
      all_goals rfl
    · have m' : k ∈ r.map (·.1) := m.resolve_left fun z => e z.symm
      have q := dropK_len h2 m'
      rw [dropK_neg e, List.length_cons, List.length_cons]
      omega
end
end L2

set_option maxHeartbeats 4000000
namespace L2
open PySem PySem.Spec PyProof.Rows

/-! ## a comprehension of one clause -/
abbrev NoE : Value → Shared → Prop := fun _ _ => False
theorem noE {α : Type} {M : Model} {A : Around} {t : Sem α} {Q : α → Shared → Prop} {E : Value → Shared → Prop} {s : Shared} (h : wpAny M A t Q NoE s) : wpAny M A t Q E s :=
  wpAny_mono h (fun _ _ q => q) fun _ _ f => f.elim

theorem compLoop_go {prog : Program} {w : World} {A : Around} {R : Result → Shared → Prop} {s : Shared} {elt target iter : Expr} {ifs : List Expr} {scope : Scope} {pos : Pos} {it acc : Value} {env : Env} (I : Nat → Shared → Prop)
    (turn : ∀ n s, I n s → wpAny (model prog w) A (pyNext it) (fun r s₁ => match r with
      | none => R (.ok .next) s₁
      | some v => wpAny (model prog w) A (letOwnedTupleGo target it v) (fun _ s₁' => wpAny (model prog w) A (assign target env v) (fun _ s₂ =>
          wpAny (model prog w) A (forIn ifs true fun c r => if r = true then do let ok ← isTrue c env (eval c env); pure (ForInStep.yield ok) else pure (ForInStep.yield r)) (fun ok s₃ =>
            if ok = true then wpAny (model prog w) A (eval elt env) (fun x s₄ =>
              wpAny (model prog w) A (call (.builtin "list.append") [acc, x]) (fun _ s₅ => ∃ m, m < n ∧ I m s₅) NoE s₄) NoE s₃
            else ∃ m, m < n ∧ I m s₃) NoE s₂) NoE s₁') NoE s₁) NoE s)
    (n : Nat) (h : I n s) :
    codeAny (model prog w) A (.compLoop (.ListComp elt [⟨target, iter, ifs, 0⟩] scope pos) 0 it acc env) R s := by
  refine codeAny_loop rfl I (fun n s hI => ?_) n h
  show wpAny _ A ((compTurn (.ListComp elt [⟨target, iter, ifs, 0⟩] scope pos) 0 it acc env).onRaise (fun x => do noteFrame x env; theTreesLotGoes x)) _ _ s
  refine wpAny_noted ?_
  rw [compTurn_list]
  refine wpAny_bind (wpAny_standAt (wpAny_bind (wpAny_mono (turn n s hI) (fun r s₁ h₁ => ?_) fun _ _ f => f.elim)))
  cases r with
  | none => exact wpAny_pure h₁
  | some v =>
    refine wpAny_bind (wpAny_mono h₁ (fun _ s₁' h₁' => wpAny_bind (wpAny_mono h₁' (fun _ s₂ h₂ => wpAny_bind (wpAny_mono h₂ (fun ok s₃ h₃ => ?_) fun _ _ f => f.elim)) fun _ _ f => f.elim)) fun _ _ f => f.elim)
    cases ok with
    | false => exact wpAny_pure ⟨rfl, h₃⟩
    | true =>
      exact wpAny_bind (wpAny_bind (wpAny_mono h₃ (fun x s₄ h₄ => wpAny_bind (wpAny_mono h₄ (fun _ s₅ h₅ => wpAny_pure (wpAny_pure ⟨rfl, h₅⟩)) fun _ _ f => f.elim)) fun _ _ f => f.elim))

/-- the cells that a comprehension's block takes over -/
def closeL (env : Env) : List (Str × NameKind) → List (Str × Addr) → List (Str × Addr)
  | [], cs => cs
  | (n, k) :: r, cs => closeL env r (if (k == NameKind.free) = true then (n, (env.cells.lookup n).getD 0) :: cs else cs)
theorem closureFor_eq {scope : Scope} {env : Env} (h : ∀ x ∈ scope.names, x.2 = .free → ∃ c, env.cells.lookup x.1 = some c) : closureFor scope env = pure (closeL env scope.names []) := by
  have key : ∀ (l : List (Str × NameKind)) (cs : List (Str × Addr)), (∀ x ∈ l, x.2 = .free → ∃ c, env.cells.lookup x.1 = some c) →
      (forIn (m := Sem) l cs fun (x : Str × NameKind) (r : List (Str × Addr)) => if (x.2 == NameKind.free) = true then (do let c ← cellOf env x.1; pure (ForInStep.yield ((x.1, c) :: r))) else (do pure PUnit.unit; pure (ForInStep.yield r))) = pure (closeL env l cs) := by
    intro l
    induction l with
    | nil => intro cs _; rfl
    | cons x r ih =>
      intro cs hx
      obtain ⟨n, k⟩ := x
      rw [List.forIn_cons]
      by_cases hk : k = .free
      · subst hk
        obtain ⟨c, hc⟩ := hx _ List.mem_cons_self rfl
        have e : cellOf env n = pure c := by unfold cellOf; rw [show env.cells.lookup n = some c from hc]
        simp only [beq_self_eq_true, if_true, e, pure_bind]
        rw [ih _ fun y hy => hx y (List.mem_cons_of_mem _ hy)]
        simp only [closeL, beq_self_eq_true, if_true]
        rw [show env.cells.lookup n = some c from hc]
        rfl
      · have hb : (k == NameKind.free) = false := by simpa using hk
        simp only [hb, Bool.false_eq_true, if_false, pure_bind]
        rw [ih _ fun y hy => hx y (List.mem_cons_of_mem _ hy)]
        simp only [closeL, hb, Bool.false_eq_true, if_false]
  unfold closureFor
  have := key scope.names [] h
  show ((forIn (m := Sem) scope.names ([] : List (Str × Addr)) _) >>= _) = _
  refine Eq.trans (congrArg (fun z => z >>= _) (Eq.trans ?_ this)) ?_
  · congr 1
  · rfl
theorem closeL_mem {env : Env} : ∀ {l : List (Str × NameKind)} {cs : List (Str × Addr)}, (∀ x ∈ l, x.2 = .free → ∃ c, env.cells.lookup x.1 = some c) → (∀ p ∈ cs, env.cells.lookup p.1 = some p.2) → ∀ p ∈ closeL env l cs, env.cells.lookup p.1 = some p.2
  | [], _, _, hc => hc
  | (n, k) :: r, cs, hx, hc => by
    unfold closeL
    refine closeL_mem (fun y hy => hx y (List.mem_cons_of_mem _ hy)) fun p hp => ?_
    by_cases hk : k = .free
    · subst hk
      simp only [beq_self_eq_true, if_true] at hp
      rcases List.mem_cons.mp hp with rfl | hp
      · obtain ⟨c, e⟩ := hx _ List.mem_cons_self rfl
        have e : env.cells.lookup n = some c := e
        show env.cells.lookup n = some ((env.cells.lookup n).getD 0)
        rw [e]
        rfl
      · exact hc p hp
    · have hb : (k == NameKind.free) = false := by simpa using hk
      simp only [hb, Bool.false_eq_true, if_false] at hp
      exact hc p hp
theorem closeL_sub {env : Env} : ∀ {l : List (Str × NameKind)} {cs : List (Str × Addr)} {p : Str × Addr}, p ∈ cs → p ∈ closeL env l cs
  | [], _, _, h => h
  | (n, k) :: r, cs, p, h => by
    unfold closeL
    refine closeL_sub ?_
    split
    · exact List.mem_cons_of_mem _ h
    · exact h
theorem closeL_has {env : Env} : ∀ {l : List (Str × NameKind)} {cs : List (Str × Addr)} {x : Str}, (x, NameKind.free) ∈ l → ∃ c, (x, c) ∈ closeL env l cs
  | [], _, _, h => by cases h
  | (n, k) :: r, cs, x, h => by
    unfold closeL
    rcases List.mem_cons.mp h with e | h
    · cases e
      simp only [beq_self_eq_true, if_true]
      exact ⟨_, closeL_sub List.mem_cons_self⟩
    · exact closeL_has h
theorem lookup_mem_some {α : Type} {x : Str} {c : α} : ∀ {l : List (Str × α)}, (x, c) ∈ l → ∃ d, l.lookup x = some d
  | [], h => by cases h
  | (n, k) :: r, h => by
    rw [List.lookup_cons]
    cases hx : x == n with
    | true => exact ⟨k, rfl⟩
    | false =>
      rcases List.mem_cons.mp h with e | h
      · cases e; simp at hx
      · exact lookup_mem_some h
theorem relabel_cases {env : Env} {x : Str} : ∀ {names : List (Str × NameKind)} {k : NameKind},
    (names.map fun (n, k) => if (k == NameKind.free && env.scope.kind == .function && env.kindOf n == some .cell) then (n, NameKind.cell) else (n, k)).lookup x = some k → names.lookup x = some k ∨ (k = .cell ∧ names.lookup x = some .free)
  | [], _, h => by simp at h
  | (n, j) :: r, k, h => by
    have ih := @relabel_cases env x r k
    rw [List.map_cons] at h
    rw [List.lookup_cons]
    dsimp only at h
    by_cases hc : (j == NameKind.free && env.scope.kind == .function && env.kindOf n == some .cell) = true
    · rw [if_pos hc, List.lookup_cons] at h
      cases hx : x == n with
      | true =>
        rw [hx] at h
        simp only [Bool.and_eq_true] at hc
        have : j = .free := by simpa using hc.1.1
        subst this
        cases h
        exact .inr ⟨rfl, rfl⟩
      | false => rw [hx] at h; exact ih h
    · rw [if_neg hc, List.lookup_cons] at h
      cases hx : x == n with
      | true => rw [hx] at h; exact .inl h
      | false => rw [hx] at h; exact ih h
theorem relabel_free {env : Env} {x : Str} : ∀ {names : List (Str × NameKind)}, names.lookup x = some .free →
    (names.map fun (n, k) => if (k == NameKind.free && env.scope.kind == .function && env.kindOf n == some .cell) then (n, NameKind.cell) else (n, k)).lookup x = some .cell ∨
    (names.map fun (n, k) => if (k == NameKind.free && env.scope.kind == .function && env.kindOf n == some .cell) then (n, NameKind.cell) else (n, k)).lookup x = some .free
  | [], h => by simp at h
  | (n, j) :: r, h => by
    have ih := @relabel_free env x r
    rw [List.lookup_cons] at h
    rw [List.map_cons]
    dsimp only
    by_cases hc : (j == NameKind.free && env.scope.kind == .function && env.kindOf n == some .cell) = true
    · rw [if_pos hc, List.lookup_cons]
      cases hx : x == n with
      | true => exact .inl rfl
      | false => rw [hx] at h; exact ih h
    · rw [if_neg hc, List.lookup_cons]
      cases hx : x == n with
      | true => rw [hx] at h; cases h; exact .inr rfl
      | false => rw [hx] at h; exact ih h

/-- the context of the block -/
def cxComp (X : Cx) (N' : List Str) (scope : Scope) (C : Addr) (s : Shared) (H : Hp) (fp : List Addr) : Cx where
  prog := X.prog
  w := X.w
  K := X.K
  mg := X.mg
  base := X.base
  A := X.A
  N := N'
  s₀ := s
  H₀ := H
  env := compEnvC scope (closeL X.env scope.names []) C X.env
  outer := X.stack
  stack := X.stack
  ex := fp
  fn := fun _ => false
  calm := X.calm
  pn := []
  xe := NoE
/-- what must be seen of the block's table; sc the table around; k own names, idx the places of the others around -/
structure CompScope (sc : Scope) (N : List Str) (scope : Scope) (N' : List Str) (k : Nat) (idx : List Nat) : Prop where
  kind : scope.kind = .function
  nocell : ∀ x ∈ scope.names, x.2 ≠ .cell
  loc : ∀ x ∈ scope.names, x.2 = .local → scope.names.lookup x.1 = some .local
  fr : ∀ x ∈ scope.names, x.2 = .free → sc.names.lookup x.1 = some .cell ∨ sc.names.lookup x.1 = some .free
  nd : N'.Nodup
  free : ∀ x ∈ N'.drop k, scope.names.lookup x = some .free
  ix : (N'.drop k).map some = idx.map fun i => N[i]?
  len : N'.length = k + idx.length
/-- the names' values in the block -/
def startC (k : Nat) (idx : List Nat) (σ : St) : St := List.replicate k none ++ idx.map fun i => (σ[i]?).join

section
variable {X : Cx} {pins : List (Addr × Obj)} {σ : St} {H : Hp} {s : Shared} {scope : Scope} {N' : List Str} {k : Nat} {idx : List Nat} {sc : Scope} {N : List Str}
theorem comp_start (I : Inv X pins σ H s) (S : CompScope sc N scope N' k idx) (hsc : X.env.scope = sc) (hNN : X.N = N) {fp : List Addr} (hf : ∀ b ∈ fp, FpOk X pins H b) (hlt : ∀ b ∈ fp, b < s.heap.objs.size) {h' : Heap} {t' : Nat}
    (hn : h'.Ns s.heap.objs.size (fun _ => none)) (hk : ∀ b o, s.heap.get? b = some o → h'.get? b = some o) :
    Inv (cxComp X N' scope s.heap.objs.size s H fp) [] (startC k idx σ) H { s with heap := h', toks := t' } := by
  have hcell : ∀ x ∈ scope.names, x.2 = .free → ∃ c, X.env.cells.lookup x.1 = some c := fun x hx hfree => I.ok.has x.1 (by
    show X.env.scope.names.lookup x.1 = _ ∨ X.env.scope.names.lookup x.1 = _
    rw [hsc]; exact S.fr x hx hfree)
  have hcl : ∀ x c, (closeL X.env scope.names []).lookup x = some c → X.env.cells.lookup x = some c := fun x c e => closeL_mem hcell (fun p hp => by cases hp) (x, c) (PySem.mem_of_lookup e)
  have hok : (cxComp X N' scope s.heap.objs.size s H fp).Ok := {
    mod := I.ok.mod
    kind := S.kind
    glob := I.ok.glob
    blt := I.ok.blt
    above := Nat.le_refl _
    inj := fun x y c e1 e2 => I.ok.inj x y c (hcl x c e1) (hcl y c e2)
    has := fun x hx => by
      have hfree : scope.names.lookup x = some .free := by
        rcases hx with hx | hx
        · rcases relabel_cases (env := X.env) (names := scope.names) hx with h | ⟨_, h⟩
          · exact absurd rfl (S.nocell _ (PySem.mem_of_lookup h))
          · exact h
        · rcases relabel_cases (env := X.env) (names := scope.names) hx with h | ⟨h, _⟩
          · exact h
          · cases h
      obtain ⟨c, hc⟩ := closeL_has (env := X.env) (cs := []) (PySem.mem_of_lookup hfree)
      exact lookup_mem_some hc
    cab := fun x c h => by cases h
    hd := I.ok.hd
    frames := I.ok.frames
    stk := .inl rfl
    exf := fun b hb => ⟨Nat.ne_of_lt (hlt b hb), fun x c e => (hf b hb).2.2.2.2.1 x c (hcl x c e)⟩
    bs := I.bs
    bsz := Nat.le_trans I.ok.bsz I.sz
    noex := fun b o e hb => by
      rcases (hf b hb).2.2.2.1 with z | z
      · exact I.ok.noex b o e z
      · exact absurd (Nat.lt_of_lt_of_le (Heap.lt_size e) (Nat.le_trans I.ok.bsz z)) (Nat.lt_irrefl _)
    exfs := fun b hb hz => by
      rcases List.mem_cons.mp (I.stkSub b hz) with e | e
      · exact (hf b hb).2.1 e
      · exact (hf b hb).2.2.1 e
    funs := I.stack
    frf := I.stkFree }
  refine ⟨hok, rfl, I.bare, Un.kept hk, ⟨_, hn, fun i x v e1 e2 e3 => ?_⟩, fun x c e => ?_, I.hok.fresh (Nat.le_refl _), fun x c e => I.freeC x c (hcl x c e), (fun p hp => by cases hp), I.hok.kept hk, ?_⟩
  · -- a name with a value is one of the others
    have hi : k ≤ i := by
      rcases Nat.lt_or_ge i k with h | h
      · have e2 : (startC k idx σ)[i]? = some (some v) := e2
        unfold startC at e2
        rw [List.getElem?_append_left (by simpa using h), List.getElem?_replicate] at e2
        split at e2 <;> cases e2
      · exact h
    have e1' : (N'.drop k)[i - k]? = some x := by
      rw [List.getElem?_drop, show k + (i - k) = i by omega]; exact e1
    have hfree := S.free x (List.mem_of_getElem? e1')
    have e2' : (idx.map fun i => (σ[i]?).join)[i - k]? = some (some v) := by
      have e2 : (startC k idx σ)[i]? = some (some v) := e2
      unfold startC at e2
      rw [List.getElem?_append_right (by simpa using hi), List.length_replicate] at e2
      exact e2
    rw [List.getElem?_map] at e2'
    cases hj : idx[i - k]? with
    | none => rw [hj] at e2'; cases e2'
    | some j =>
      rw [hj] at e2'
      have e3' : (σ[j]?).join = some v := by simpa using e2'
      have eσ : σ[j]? = some (some v) := by
        cases q : σ[j]? with
        | none => rw [q] at e3'; cases e3'
        | some o => rw [q] at e3'; cases o with
          | none => cases e3'
          | some z => cases e3'; rfl
      have eN : X.N[j]? = some x := by
        rw [hNN]
        have := congrArg (fun l => l[i - k]?) S.ix
        simp only [List.getElem?_map, e1', hj, Option.map_some] at this
        exact (Option.some.inj this).symm
      have hvk := S.fr _ (PySem.mem_of_lookup hfree) rfl
      obtain ⟨m, hm, hl⟩ := I.loc
      obtain ⟨u, ru, lk⟩ := hl j x v eN eσ (by rw [hsc]; exact .inr hvk)
      refine ⟨u, ru, .inr ⟨relabel_free (env := X.env) hfree, ?_⟩⟩
      rcases lk with ⟨kl, _⟩ | ⟨_, c, ec, z⟩
      · have kl : X.env.scope.names.lookup x = some .local := kl
        rw [hsc] at kl
        rcases hvk with q | q <;> (rw [kl] at q; cases q)
      · obtain ⟨d, hd⟩ := closeL_has (env := X.env) (cs := []) (PySem.mem_of_lookup hfree)
        obtain ⟨d', hd'⟩ := lookup_mem_some hd
        have e := hcl x d' hd'
        rw [ec] at e
        cases e
        obtain ⟨o, ho, hod⟩ := z
        exact ⟨c, hd', o, hk c o ho, hod⟩
  · obtain ⟨v, o, ho, hod⟩ := I.cell x c (hcl x c e)
    exact ⟨v, o, hk c o ho, hod⟩
  · show (startC k idx σ).length = N'.length
    unfold startC
    rw [S.len, List.length_append, List.length_replicate, List.length_map]
end

/-- the tests of the clause -/
def PTs (X : Cx) (ifs : List Expr) (t : TT) : Prop :=
  ∀ (pins : List (Addr × Obj)) (s : Shared) (σ : St) (H : Hp) (Q : Bool → Hp → Prop), Inv X pins σ H s → t σ H Q →
    wpAny (model X.prog X.w) X.A (forIn ifs true fun c r => if r = true then do let ok ← isTrue c X.env (eval c X.env); pure (ForInStep.yield ok) else pure (ForInStep.yield r)) (TP X pins σ Q) X.xe s
def tNoTest : TT := fun _ H Q => Q true H
theorem pts_nil {X : Cx} : PTs X [] tNoTest := fun pins s σ H Q I h => wpAny_tests_nil ⟨H, I, h⟩
theorem pts_one {X : Cx} {c : Expr} {t : TT} (h : PT X c t) : PTs X [c] t := fun pins s σ H Q I q => wpAny_tests_one (h pins s σ H Q I q)

/-- W: the invariant by the turn and a measure; l the list that is made -/
def cTurns (J : It) (g : TG) (tt : TT) (te : TE) (l : Addr) (σ0 : St) (H0 : Hp) (Q : Hp → Prop) : Prop :=
  ∃ W : Nat → Nat → St → Hp → Prop, (∃ m, W 0 m σ0 H0) ∧ ∀ i m σ H, W i m σ H →
    (J.stop i H ∧ Q H) ∨ (J.go i H ∧ ∀ x H', J.yld i H x H' → g x σ H' fun σ2 H2 => tt σ2 H2 fun c H3 =>
      if c = true then te σ2 H3 fun y H4 => ∃ xs, H4 l = some (.lst xs) ∧ xs.length < sizeLine ∧ ∃ m', m' < m ∧ W (i + 1) m' σ2 (upd H4 l (.lst (xs ++ [y])))
      else ∃ m', m' < m ∧ W (i + 1) m' σ2 H3)
def tComp (wi : TI) (k : Nat) (idx : List Nat) (g : TG) (tt : TT) (te : TE) : TE := fun σ H Q => wi σ H fun J H1 => ∀ l, H1 l = none → cTurns J g tt te l (startC k idx σ) (upd H1 l (.lst [])) fun H2 => Q (.ref l) H2

section
variable {X : Cx} {tg iter elt : Expr} {ifs : List Expr} {scope sc : Scope} {N N' : List Str} {k : Nat} {idx : List Nat} {wi : TI} {g : TG} {tt : TT} {te : TE} {pos : Pos}
/-- a record of ours that nobody else knows -/
structure Free1 (X : Cx) (pins : List (Addr × Obj)) (H : Hp) (C : Addr) : Prop where
  loc : C ≠ X.env.locals
  cel : ∀ x c, X.env.cells.lookup x = some c → c ≠ C
  fr : H C = none
  new : X.s₀.heap.objs.size ≤ C
  pin : ∀ p ∈ X.pn ++ pins, p.1 ≠ C
theorem Inv.freed {X : Cx} {pins : List (Addr × Obj)} {σ : St} {H : Hp} {s : Shared} {C : Addr} {h' : Heap} (I : Inv X pins σ H s) (f : Free1 X pins H C) (hs : Heap.SameBut C s.heap h') : Inv X pins σ H { s with heap := h' } :=
  I.turned (t' := s.toks) (it := C) (fun b o hb e => (hs.2 b hb).trans e) f.fr f.loc (.inr f.new) f.cel f.pin
/-- the block, up to its end -/
theorem comp_block {pins : List (Addr × Obj)} {s : Shared} {σ : St} {E : Value → Shared → Prop} {RR : Value → Addr → Result → Shared → Prop} {itv : Value} {Qe : Addr → Hp → Prop}
    (hc : X.calm = true) (S : CompScope sc N scope N' k idx) (hsc : X.env.scope = sc) (hNN : X.N = N)
    (hg : ∀ C s H fp, PG (cxComp X N' scope C s H fp) tg g) (ht : ∀ C s H fp, PTs (cxComp X N' scope C s H fp) ifs tt) (he : ∀ C s H fp, PE (cxComp X N' scope C s H fp) elt te)
    (hit : PIE X pins σ tg (fun J H1 => ∀ l, H1 l = none → cTurns J g tt te l (startC k idx σ) (upd H1 l (.lst [])) fun H2 => Qe l H2) itv s)
    (hRR : ∀ l H2 C s2, Inv X pins σ H2 s2 → (∃ m, s2.heap.Ns C m) → Free1 X pins H2 C → Qe l H2 → RR (.ref l) C (.ok .next) s2) :
    wpAny (model X.prog X.w) X.A (newList []) (fun acc s₃ => wpAny (model X.prog X.w) X.A (newFunctionEnv scope X.env.globals (closeL X.env scope.names []) [] X.env.qual none .none (some X.env)) (fun cenv s₄ =>
      codeAny (model X.prog X.w) X.A (.compStart (.ListComp elt [⟨tg, iter, ifs, 0⟩] scope pos) 0 itv acc { cenv with scope := relabel scope X.env }) (RR acc cenv.locals) s₄) E s₃) E s := by
  obtain ⟨it, fp, tn, J, H1, rfl, I1, T, st1, f1, q⟩ := hit
  refine wpAny_newObj_type ?_
  have hf0 : H1 s.heap.objs.size = none := I1.hok.fresh (Nat.le_refl _)
  have hflt : ∀ b ∈ fp, b < s.heap.objs.size := fun b hb => let ⟨_, e, _⟩ := T.obj _ _ st1 b hb; Heap.lt_size e
  generalize hl : s.heap.objs.size = l at *
  have I2 : Inv X pins σ (upd H1 l (.lst [])) { s with heap := s.heap.push { cls := .type "list", dict := none, data := .seq ([] : List Value).toArray } } :=
    I1.laid (t' := s.toks) (fun b u e => Heap.get?_push_of_some _ e) (Nat.le_of_eq hl) (show ObjOk _ _ _ _ l (.lst []) from ⟨Nat.zero_le _, [], 0, .nil, by rw [← hl]; exact Heap.get?_push_size _ rfl⟩)
  have st2 : tn 0 (s.heap.push { cls := .type "list", dict := none, data := .seq ([] : List Value).toArray }) := T.keep _ _ _ st1 fun b _ o e => Heap.get?_push_of_some _ e
  have f2 : ∀ b ∈ fp, FpOk X pins (upd H1 l (.lst [])) b := fun b hb => ⟨by rw [upd_ne (Nat.ne_of_lt (hflt b hb))]; exact (f1 b hb).1, (f1 b hb).2⟩
  have hsz2 : (s.heap.push { cls := .type "list", dict := none, data := .seq ([] : List Value).toArray }).objs.size = l + 1 := by rw [Heap.size_push, hl]
  have q2 := q l hf0
  generalize hs2 : ({ s with heap := s.heap.push { cls := .type "list", dict := none, data := .seq ([] : List Value).toArray } } : Shared) = s2 at I2 ⊢
  have st2 : tn 0 s2.heap := by rw [← hs2]; exact st2
  have hsz2 : s2.heap.objs.size = l + 1 := by rw [← hs2]; exact hsz2
  refine wpAny_newFunctionEnv S.nocell (by intro y hy; simp at hy) (fun h₁ hns₁ hsb₁ => ?_) S.kind
  have hk1 : ∀ b o, s2.heap.get? b = some o → h₁.get? b = some o := fun b o e => hsb₁.extBut b o (Nat.ne_of_lt (Heap.lt_size e)) (Heap.get?_push_of_some _ e)
  have hlt2 : ∀ b ∈ fp, b < s2.heap.objs.size := fun b hb => by rw [hsz2]; exact Nat.lt_succ_of_lt (hflt b hb)
  have I3 := comp_start (t' := s2.toks + ([] : List (Str × Value)).length) I2 S hsc hNN f2 hlt2 (by simpa using hns₁) hk1
  generalize hC : s2.heap.objs.size = C at *
  have st3 : tn 0 h₁ := T.keep _ _ _ st2 fun b _ o e => hk1 b o e
  obtain ⟨W, ⟨m0, w0⟩, turn⟩ := q2
  -- back to the frame around
  have back : ∀ {σ' : St} {H' : Hp} {s' : Shared}, Inv (cxComp X N' scope C s2 (upd H1 l (.lst [])) fp) [] σ' H' s' → Inv X pins σ H' s' := fun {σ' H' s'} I' =>
    I2.call' I'.os I'.base I'.hok I'.bare fun b hb => ⟨(f2 b hb).2.2.2.1, (f2 b hb).2.1, (f2 b hb).2.2.2.2.1, (f2 b hb).2.2.2.2.2⟩
  have loop : ∀ s₃ : Shared, s₃ = { s2 with heap := h₁, toks := s2.toks + ([] : List (Str × Value)).length } →
      codeAny (model X.prog X.w) X.A (.compLoop (.ListComp elt [⟨tg, iter, ifs, 0⟩] scope pos) 0 (.ref it) (.ref l) (compEnvC scope (closeL X.env scope.names []) C X.env)) (RR (.ref l) C) s₃ := by
    rintro s₃ rfl
    refine compLoop_go (fun n s' => ∃ i σ' H', Inv (cxComp X N' scope C s2 (upd H1 l (.lst [])) fp) [] σ' H' s' ∧ tn i s'.heap ∧ (∀ b ∈ fp, H' b = none) ∧ W i n σ' H') ?_ m0 ⟨0, _, _, I3, st3, fun b hb => (f2 b hb).1, w0⟩
    rintro n s4 ⟨i, σ4, H4, I4, st4, fr4, w4⟩
    have stat : ∀ {H' : Hp}, (∀ b ∈ fp, H' b = none) → ∀ b ∈ fp, FpOk (cxComp X N' scope C s2 (upd H1 l (.lst [])) fp) [] H' b := fun {H'} hn b hb =>
      ⟨hn b hb, (I4.ok.exf b hb).1, I4.ok.exfs b hb, .inl hb, (I4.ok.exf b hb).2, fun p hp => by cases hp⟩
    rcases turn i n σ4 H4 w4 with ⟨stop, qn⟩ | ⟨go, step⟩
    · refine thn (T.done (cxComp X N' scope C s2 (upd H1 l (.lst [])) fp) rfl rfl rfl hc i [] s4 σ4 H4 NoE I4 (stat fr4) st4 stop) fun r s5 ⟨hr, I5⟩ => ?_
      subst hr
      have IX := back I5
      have hCl : C ≠ X.env.locals := fun e => by
        have := I2.lt
        rw [hC, ← e] at this
        exact Nat.lt_irrefl _ this
      have hCc : ∀ x c, X.env.cells.lookup x = some c → c ≠ C := fun x c e z => by
        obtain ⟨v, o, ho, _⟩ := I2.cell x c e
        have := Heap.lt_size ho
        rw [hC, z] at this
        exact Nat.lt_irrefl _ this
      obtain ⟨m5, hm5, _⟩ := I5.loc
      refine hRR l H4 C s5 IX ⟨m5, hm5⟩ ⟨hCl, hCc, I5.free, by rw [← hC]; exact I2.sz, fun p hp z => ?_⟩ qn
      obtain ⟨e, _⟩ := I2.pin p hp
      have := Heap.lt_size e
      rw [hC, z] at this
      exact Nat.lt_irrefl _ this
    · refine thn (T.item (cxComp X N' scope C s2 (upd H1 l (.lst [])) fp) rfl rfl rfl hc i [] s4 σ4 H4 NoE I4 (stat fr4) st4 go) fun r s5 ⟨u, hr, h5⟩ => ?_
      subst hr
      refine thn h5 fun _ s6 ⟨x, H6, I6, r6, y6, st6, fr6⟩ => ?_
      have I6' := I6.pinned (stat fr6) (T.obj _ _ st6)
      have keepT : ∀ {σ7 : St} {H7 : Hp} {s7 : Shared}, Inv (cxComp X N' scope C s2 (upd H1 l (.lst [])) fp) ([] ++ pinsAt fp s6.heap) σ7 H7 s7 → tn (i + 1) s7.heap ∧ ∀ b ∈ fp, H7 b = none := fun {σ7 H7 s7} I7 =>
        ⟨T.keep _ _ _ st6 fun b hb o e => (I7.pin (b, o) (List.mem_append_right _ (List.mem_append_right _ (mem_pinsAt hb e)))).1, fun b hb => by
          obtain ⟨o, e, d⟩ := T.obj _ _ st6 b hb
          exact (I7.pin (b, o) (List.mem_append_right _ (List.mem_append_right _ (mem_pinsAt hb e)))).2.1⟩
      refine thn (hg C s2 (upd H1 l (.lst [])) fp _ s6 σ4 H6 x u _ I6' r6 (step x H6 y6)) fun _ s7 ⟨σ7, H7, I7, q7⟩ => ?_
      refine thn (ht C s2 (upd H1 l (.lst [])) fp _ s7 σ7 H7 _ I7 q7) fun ok s8 ⟨H8, I8, q8⟩ => ?_
      cases ok with
      | false =>
        rw [if_neg (by decide)] at q8 ⊢
        obtain ⟨m', hm, w8⟩ := q8
        have kt := keepT I8
        exact ⟨m', hm, i + 1, σ7, H8, I8.unpinned, kt.1, kt.2, w8⟩
      | true =>
        rw [if_pos rfl] at q8 ⊢
        refine thn (he C s2 (upd H1 l (.lst [])) fp _ s8 σ7 H8 _ I8 q8) fun v s9 ⟨y, H9, I9, r9, xs, e9, z9, m', hm, w9⟩ => ?_
        refine thn (mt_append _ s9 σ7 H9 (.ref l) [y] (.ref l) [v] (fun z H10 => z = .non ∧ H10 = upd H9 l (.lst (xs ++ [y]))) I9 rfl (.cons r9 .nil) ⟨l, xs, y, rfl, rfl, e9, z9, rfl, rfl⟩) fun _ s10 ⟨z, H10, I10, _, _, e10⟩ => ?_
        subst e10
        have kt := keepT I10
        exact ⟨m', hm, i + 1, σ7, _, I10.unpinned, kt.1, kt.2, w9⟩
  have e2 : (newEnv scope C X.env.globals (closeL X.env scope.names []) X.env.qual none .none (some X.env) builtinsNs).locals = C := rfl
  show codeAny _ _ (.compStart _ 0 (.ref it) (.ref l) (compEnvC scope (closeL X.env scope.names []) C X.env)) (RR (.ref l) C) _
  exact codeAny_compStart_list (loop _ rfl) (T.self _ 0 _ _ _ st3 (loop _ rfl))

theorem pe_comp (hc : X.calm = true) (S : CompScope sc N scope N' k idx) (hsc : X.env.scope = sc) (hNN : X.N = N) (hi : PI X tg iter wi)
    (hg : ∀ C s H fp, PG (cxComp X N' scope C s H fp) tg g) (ht : ∀ C s H fp, PTs (cxComp X N' scope C s H fp) ifs tt) (he : ∀ C s H fp, PE (cxComp X N' scope C s H fp) elt te)
    (hs : ∀ x, foldedSetIterable iter X.env x = pure x := by intro _; rfl) : PE X (.ListComp elt [⟨tg, iter, ifs, 0⟩] scope pos) (tComp wi k idx g tt te) := by
  intro pins s σ H Q I h
  rw [eval_ListComp]
  have hclos : closureFor scope X.env = pure (closeL X.env scope.names []) := closureFor_eq fun x hx hfree => I.ok.has x.1 (by
    show X.env.scope.names.lookup x.1 = _ ∨ X.env.scope.names.lookup x.1 = _
    rw [hsc]; exact S.fr x hx hfree)
  refine wpAny_comprehension_free (use := none) rfl hs hclos S.kind S.loc (thn (hi pins s σ H _ I h) fun v s1 h1 => thn h1 fun itv s2 h2 => ?_)
  refine comp_block (RR := fun acc C => compPost (model X.prog X.w) X.A X.xe none (EP X pins σ Q) acc C) (Qe := fun l H2 => Q (.ref l) H2) hc S hsc hNN hg ht he h2 ?_
  intro l H2 C s2 I2 hm f q
  obtain ⟨m, hm⟩ := hm
  exact ⟨m, hm, fun h' hs' => ⟨.ref l, H2, I2.freed f hs', rfl, q⟩⟩

/-- name = [..], the store ahead of the block's end -/
def tSetComp (i : Nat) (wi : TI) (k : Nat) (idx : List Nat) (g : TG) (tt : TT) (te : TE) : TS := fun D σ H => wi σ H fun J H1 => ∀ l, H1 l = none → cTurns J g tt te l (startC k idx σ) (upd H1 l (.lst [])) fun H2 => D.nx (σ.set i (some (.ref l))) H2
theorem ps_setcomp {i : Nat} {y : Str} {py spos : Pos} (hc : X.calm = true) (hN : X.N.Nodup) (hiN : X.N[i]? = some y) (hy : X.env.scope.names.lookup y = some .local) (S : CompScope sc N scope N' k idx) (hsc : X.env.scope = sc) (hNN : X.N = N) (hi : PI X tg iter wi)
    (hg : ∀ C s H fp, PG (cxComp X N' scope C s H fp) tg g) (ht : ∀ C s H fp, PTs (cxComp X N' scope C s H fp) ifs tt) (he : ∀ C s H fp, PE (cxComp X N' scope C s H fp) elt te)
    (hsw : swapsWith (.ListComp elt [⟨tg, iter, ifs, 0⟩] scope pos) (some (.Name y py)) spos.line X.env = pure true := by rfl)
    (hs : ∀ x, foldedSetIterable iter X.env x = pure x := by intro _; rfl) : PS X (.Assign [.Name y py] (.ListComp elt [⟨tg, iter, ifs, 0⟩] scope pos) spos) (tSetComp i wi k idx g tt te) := by
  intro pins s σ H D I h
  rw [exec_Assign_Name_used _ _ _ _ hsw]
  refine wpAny_bind (wpAny_standAt (wpAny_bind ?_))
  show wpAny _ X.A (do let _ ← comprehension (.ListComp elt [⟨tg, iter, ifs, 0⟩] scope pos) scope X.env _ (newList []) false (eval iter X.env) (some (assign (.Name y py) X.env))) _ _ s
  have hclos : closureFor scope X.env = pure (closeL X.env scope.names []) := closureFor_eq fun x hx hfree => I.ok.has x.1 (by
    show X.env.scope.names.lookup x.1 = _ ∨ X.env.scope.names.lookup x.1 = _
    rw [hsc]; exact S.fr x hx hfree)
  refine wpAny_bind (wpAny_mono (wpAny_comprehension_free (use := some (assign (.Name y py) X.env)) (Q := fun _ s' => SP X pins D .next s') rfl hs hclos S.kind S.loc (thn (hi pins s σ H _ I h) fun v s1 h1 => thn h1 fun itv s2 h2 => ?_))
    (fun _ s' hq => wpAny_pure (wpAny_pure hq)) fun _ _ e => e)
  refine comp_block (RR := fun acc C => compPost (model X.prog X.w) X.A X.xe (some (assign (.Name y py) X.env)) (fun _ s' => SP X pins D .next s') acc C) (Qe := fun l H2 => D.nx (σ.set i (some (.ref l))) H2) hc S hsc hNN hg ht he h2 ?_
  intro l H2 C s2 I2 hm f q
  obtain ⟨m, hm⟩ := hm
  show wpAny _ X.A (assign (.Name y py) X.env (.ref l)) _ _ _
  refine wpAny_assign_Name (store_ok2 (v := .ref l) I2 hN hiN (.inl hy) rfl (fun s' I' hch => ?_) (.inr hy))
  obtain ⟨a, hsb, ha⟩ := hch
  have haC : C ≠ a := fun z => by
    rcases ha with e | e
    · exact f.loc (z.trans e)
    · exact f.cel y a e z.symm
  exact ⟨m, hm.sameBut hsb haC, fun h' hs' => ⟨_, H2, I'.freed f hs', q⟩⟩
end
end L2

namespace L2
open PySem PySem.Spec PyProof.Rows

/-! ## data in the abstract heap; ex: addresses that it does not lean on -/
mutual
inductive Rep (ex : List Addr) (H : Hp) : PyData → V → Prop
  | none : Rep ex H .none .non
  | bool (b : Bool) : Rep ex H (.bool b) (.bl b)
  | int (i : Int) : Rep ex H (.int i) (.int i)
  | str (x : Str) : Rep ex H (.str x) (.str x)
  | tuple {a : Addr} {xs : List V} {ds : List PyData} (e : H a = some (.tup xs)) (n : a ∉ ex) (z : xs.length ≤ sizeLine) (r : Reps ex H ds xs) : Rep ex H (.tuple ds) (.ref a)
  | list {a : Addr} {xs : List V} {ds : List PyData} (e : H a = some (.lst xs)) (n : a ∉ ex) (z : xs.length ≤ sizeLine) (r : Reps ex H ds xs) : Rep ex H (.list ds) (.ref a)
inductive Reps (ex : List Addr) (H : Hp) : List PyData → List V → Prop
  | nil : Reps ex H [] []
  | cons {d : PyData} {v : V} {ds : List PyData} {vs : List V} : Rep ex H d v → Reps ex H ds vs → Reps ex H (d :: ds) (v :: vs)
end
/-- all that was tracked is as it was, but what stands at ex -/
def Kp (ex : List Addr) (H H' : Hp) : Prop := ∀ b o, H b = some o → b ∉ ex → H' b = some o
theorem Kp.refl {ex : List Addr} {H : Hp} : Kp ex H H := fun _ _ e _ => e
theorem Kp.trans {ex : List Addr} {H H1 H2 : Hp} (a : Kp ex H H1) (b : Kp ex H1 H2) : Kp ex H H2 := fun c o e n => b c o (a c o e n) n
theorem Kp.of {ex : List Addr} {H H' : Hp} (a : Kp [] H H') : Kp ex H H' := fun c o e _ => a c o e (by simp)
theorem Kp.mono {ex ex' : List Addr} {H H' : Hp} (a : Kp ex H H') (h : ∀ b ∈ ex, b ∈ ex') : Kp ex' H H' := fun c o e n => a c o e fun z => n (h c z)
theorem Kp.new {ex : List Addr} {H : Hp} {p : Addr} (h : H p = none) (o : HO) : Kp ex H (upd H p o) := fun b u q _ => by rw [upd_ne (ne_of_none q h)]; exact q
theorem Kp.at {ex : List Addr} {H : Hp} {p : Addr} (h : p ∈ ex) (o : HO) : Kp ex H (upd H p o) := fun b u q n => by rw [upd_ne (fun (z : b = p) => n (by rw [z]; exact h))]; exact q
mutual
theorem Rep.keep {ex : List Addr} {H H' : Hp} (k : Kp ex H H') : ∀ {d : PyData} {v : V}, Rep ex H d v → Rep ex H' d v
  | _, _, .none => .none
  | _, _, .bool b => .bool b
  | _, _, .int i => .int i
  | _, _, .str x => .str x
  | _, _, .tuple e n z r => .tuple (k _ _ e n) n z (Reps.keep k r)
  | _, _, .list e n z r => .list (k _ _ e n) n z (Reps.keep k r)
theorem Reps.keep {ex : List Addr} {H H' : Hp} (k : Kp ex H H') : ∀ {ds : List PyData} {vs : List V}, Reps ex H ds vs → Reps ex H' ds vs
  | _, _, .nil => .nil
  | _, _, .cons r t => .cons (Rep.keep k r) (Reps.keep k t)
end
theorem Reps.length {ex : List Addr} {H : Hp} : ∀ {ds : List PyData} {vs : List V}, Reps ex H ds vs → ds.length = vs.length
  | _, _, .nil => rfl
  | _, _, .cons _ t => by simp [Reps.length t]
theorem Reps.get {ex : List Addr} {H : Hp} : ∀ {ds : List PyData} {vs : List V} {i : Nat} {d : PyData}, Reps ex H ds vs → ds[i]? = some d → ∃ v, vs[i]? = some v ∧ Rep ex H d v
  | _, _, _, _, .nil, e => by simp at e
  | _, _, 0, _, .cons r _, e => by simp at e; subst e; exact ⟨_, rfl, r⟩
  | _, _, i + 1, d, .cons _ t, e => by
    obtain ⟨u, h1, h2⟩ := Reps.get (i := i) (d := d) t (by simpa using e)
    exact ⟨u, by simpa using h1, h2⟩
theorem Reps.getV {ex : List Addr} {H : Hp} : ∀ {ds : List PyData} {vs : List V} {i : Nat} {v : V}, Reps ex H ds vs → vs[i]? = some v → ∃ d, ds[i]? = some d ∧ Rep ex H d v
  | _, _, _, _, .nil, e => by simp at e
  | _, _, 0, _, .cons r _, e => by simp at e; subst e; exact ⟨_, rfl, r⟩
  | _, _, i + 1, v, .cons _ t, e => by
    obtain ⟨u, h1, h2⟩ := Reps.getV (i := i) (v := v) t (by simpa using e)
    exact ⟨u, by simpa using h1, h2⟩
theorem Reps.append {ex : List Addr} {H : Hp} : ∀ {ds es : List PyData} {vs ws : List V}, Reps ex H ds vs → Reps ex H es ws → Reps ex H (ds ++ es) (vs ++ ws)
  | _, _, _, _, .nil, s => s
  | _, _, _, _, .cons r t, s => .cons r (Reps.append t s)
theorem Reps.take {ex : List Addr} {H : Hp} : ∀ {ds : List PyData} {vs : List V} (n : Nat), Reps ex H ds vs → Reps ex H (ds.take n) (vs.take n)
  | _, _, 0, _ => .nil
  | _, _, _ + 1, .nil => .nil
  | _, _, n + 1, .cons r t => .cons r (Reps.take n t)
theorem Reps.drop {ex : List Addr} {H : Hp} : ∀ {ds : List PyData} {vs : List V} (n : Nat), Reps ex H ds vs → Reps ex H (ds.drop n) (vs.drop n)
  | _, _, 0, r => r
  | _, _, _ + 1, .nil => .nil
  | _, _, n + 1, .cons _ t => Reps.drop n t
theorem Reps.ints {ex : List Addr} {H : Hp} : ∀ ns : List Int, Reps ex H (ns.map PyData.int) (ns.map V.int)
  | [] => .nil
  | n :: r => .cons (.int n) (Reps.ints r)
theorem Reps.ints_inv {ex : List Addr} {H : Hp} : ∀ {ns : List Int} {vs : List V}, Reps ex H (ns.map PyData.int) vs → vs = ns.map V.int
  | [], _, .nil => rfl
  | n :: r, _, .cons (.int _) t => by rw [Reps.ints_inv t]; rfl
theorem Reps.rep {ex : List Addr} {H : Hp} {ds : List PyData} {vs : List V} (h : Reps ex H ds vs) : ∀ k : Nat, Reps ex H (List.replicate k ds).flatten (List.replicate k vs).flatten
  | 0 => .nil
  | k + 1 => by
    rw [List.replicate_succ, List.replicate_succ, List.flatten_cons, List.flatten_cons]
    exact Reps.append h (Reps.rep h k)
mutual
/-- data has no dict -/
def noDict : PyData → Bool
  | .none | .bool _ | .int _ | .str _ => true
  | .list xs | .tuple xs => noDictAll xs
  | .dict _ => false
def noDictAll : List PyData → Bool
  | [] => true
  | x :: xs => noDict x && noDictAll xs
end
mutual
theorem Rep.reads {ex : List Addr} {P : Program} {w : World} {H : Hp} {h : Heap} (ok : HOk P w H h) : ∀ {d : PyData} {v : V} {u : Value}, Rep ex H d v → RelV v u → ∃ as, Reads h u d as
  | _, _, _, .none, r => by cases (show _ = Value.none from r); exact ⟨_, .none⟩
  | _, _, _, .bool b, r => by cases (show _ = Value.bool b from r); exact ⟨_, .bool b⟩
  | _, _, _, .int i, r => by obtain ⟨t, rfl⟩ := (show ∃ t, _ = Value.int i t from r); exact ⟨_, .int i t⟩
  | _, _, _, .str x, r => by obtain ⟨t, rfl⟩ := (show ∃ t, _ = Value.str x t from r); exact ⟨_, .str x t⟩
  | _, _, _, .tuple (a := a) (xs := xs) e n _ rs, r => by
    cases (show _ = Value.ref a from r)
    obtain ⟨z, its, rv, o, e1, e2, n', e3⟩ := (show ObjOk P w H h a (.tup xs) from ok a _ e)
    obtain ⟨as, ra⟩ := Reps.reads ok rs rv
    exact ⟨as, .tuple e1 e2 e3 (by simpa using ra)⟩
  | _, _, _, .list (a := a) (xs := xs) e n _ rs, r => by
    cases (show _ = Value.ref a from r)
    obtain ⟨z, its, n', rv, e1⟩ := (show ObjOk P w H h a (.lst xs) from ok a _ e)
    obtain ⟨as, ra⟩ := Reps.reads ok rs rv
    exact ⟨_, .list e1 rfl rfl (by simpa using ra)⟩
theorem Reps.reads {ex : List Addr} {P : Program} {w : World} {H : Hp} {h : Heap} (ok : HOk P w H h) : ∀ {ds : List PyData} {vs : List V} {us : List Value}, Reps ex H ds vs → Vals vs us → ∃ as, ReadsAll h us ds as
  | _, _, _, .nil, r => by cases r; exact ⟨_, .nil⟩
  | _, _, _, .cons q t, r => by
    cases r with
    | cons r1 r2 =>
      obtain ⟨as, h1⟩ := Rep.reads ok q r1
      obtain ⟨bs, h2⟩ := Reps.reads ok t r2
      exact ⟨_, .cons h1 h2⟩
end

section
variable {X : Cx}
/-- == of data -/
def rEqD : R2 := fun x y H Q => ∃ ex da db, Rep ex H da x ∧ Rep ex H db y ∧ da.canLay0 = true ∧ db.canLay0 = true ∧ min da.depth db.depth ≤ 50 ∧ Q (.bl (PyData.eqv da db)) H
def rNeD : R2 := fun x y H Q => ∃ ex da db, Rep ex H da x ∧ Rep ex H db y ∧ da.canLay0 = true ∧ db.canLay0 = true ∧ min da.depth db.depth ≤ 50 ∧ Q (.bl (!PyData.eqv da db)) H
theorem op_eqD (hu : X.A.units + 64 < cLine) : OpR X (compareOp .Eq) rEqD := by
  intro pins s σ H x y v u Q I rx ry h
  obtain ⟨ex, da, db, r1, r2, c1, c2, hd, q⟩ := h
  obtain ⟨as, h1⟩ := r1.reads I.hok rx
  obtain ⟨bs, h2⟩ := r2.reads I.hok ry
  exact SeqAt.compareEq_reads h1 h2 c1 c2 (by omega) ⟨.bl (PyData.eqv da db), H, I, rfl, q⟩
theorem call_all : CallR X (.builtin "all") (fun xs H Q => X.calm = true ∧ ∃ (p : Addr) (bs : List Bool), xs = [.ref p] ∧ SqL X.K H p (bs.map V.bl) ∧ Q (.bl (bs.all id)) H) := by
  intro pins s σ H xs us Q I r h
  obtain ⟨hc, p, bs, rfl, hq, q⟩ := h
  obtain ⟨u, rfl, ru⟩ := vals1 r
  cases ru
  obtain ⟨its, rv, pl, hz⟩ := I.list hq
  have hl := pl.isList
  have hlt : p < s.heap.objs.size := by obtain ⟨_, e, _⟩ := hl; exact Heap.lt_size e
  refine call_all_walk (wpAny_pyIter_list hl ?_)
  refine ⟨_, _, _, _, _, _, fun i => bs.getD i true, rfl, Walks.list (A := X.A.in1) (I.ok.hd hc) _ p (Nat.ne_of_lt hlt) its.toArray, ⟨⟨_, Heap.get?_push_size _ rfl, rfl, rfl⟩, hl.push _⟩, ?_, fun h' tk hk => ?_⟩
  · intro i v s' Q' E' hP hQ
    have hP : its[i]? = some v := by simpa using hP
    have hi : i < its.length := (List.getElem?_eq_some_iff.mp hP).1
    have hlen := rv.length
    have hb : (bs.map V.bl)[i]? = some (V.bl (bs.getD i true)) := by
      rw [List.length_map] at hlen
      rw [List.getElem?_map, List.getElem?_eq_getElem (by omega), List.getD_eq_getElem?_getD, List.getElem?_eq_getElem (by omega)]
      rfl
    obtain ⟨u, hu, ru⟩ := rv.get hb
    rw [hP] at hu
    cases hu
    cases (show v = Value.bool _ from ru)
    exact wpAny_truthy_bool hQ
  · have e : ((List.range its.toArray.size).all fun i => bs.getD i true) = bs.all id := by
      have hlen := rv.length
      rw [List.length_map] at hlen
      rw [List.size_toArray, ← hlen, Bool.eq_iff_iff]
      simp only [List.all_eq_true, List.mem_range]
      constructor
      · intro h b hb
        obtain ⟨i, hi, rfl⟩ := List.mem_iff_getElem.mp hb
        have := h i hi
        rw [List.getD_eq_getElem?_getD, List.getElem?_eq_getElem hi] at this
        exact this
      · intro h i hi
        rw [List.getD_eq_getElem?_getD, List.getElem?_eq_getElem hi]
        exact h _ (List.getElem_mem hi)
    rw [e]
    exact ⟨.bl (bs.all id), H, I.kept (t' := tk) (old_kept hk), rfl, q⟩
theorem vals_ints_inv : ∀ {ns : List Int} {us : List Value}, Vals (ns.map V.int) us → IntsAre us ns := fun h => intsAre_of h
theorem call_sum : CallR X (.builtin "sum") (fun xs H Q => X.calm = true ∧ ∃ (p : Addr) (ns : List Int), xs = [.ref p] ∧ SqL X.K H p (ns.map V.int) ∧ Q (.int ns.sum) H) := by
  intro pins s σ H xs us Q I r h
  obtain ⟨hc, p, ns, rfl, hq, q⟩ := h
  obtain ⟨u, rfl, ru⟩ := vals1 r
  cases ru
  obtain ⟨its, rv, pl, hz⟩ := I.list hq
  have hl := pl.isList
  have hi := intsAre_of rv
  obtain ⟨xs, e⟩ := hi.allInts.items
  rw [e] at hl
  refine sum_intListG (I.ok.hd hc) hl fun h' tk t' hk => ?_
  have e2 : preSum (numAt xs) xs.size = ns.sum := by
    have h1 := hi.numsOf
    have h2 : numsOf its.toArray.toList = (xs.toList.map (·.1)) := by rw [e, nums_intItems]
    rw [preSum_eq, List.take_of_length_le (by simp)]
    have h2' : numsOf its = (xs.toList.map (·.1)) := by simpa using h2
    rw [← h2', h1]
  rw [e2]
  exact ⟨.int ns.sum, H, I.kept (t' := tk) hk, ⟨_, rfl⟩, q⟩
/-- isinstance(x, T), T a built-in type -/
theorem call_isinst : CallR X (.builtin "isinstance") (fun xs H Q => ∃ x T t b, xs = [x, .ty T] ∧ TyOf X.K H x t ∧ PySem.W.kitOne X.K t (.type T) = some b ∧ Q (.bl b) H) := by
  intro pins s σ H xs us Q I r h
  obtain ⟨x, T, t, b, rfl, ty, e, q⟩ := h
  obtain ⟨u, w', rfl, ru, rw'⟩ := vals2 r
  cases (show w' = Value.type T from rw')
  exact isinst_ok I ru ty e fun tk => ⟨.bl b, H, I.tok tk, rfl, q⟩
def tyName : PyData → String
  | .none => "NoneType"
  | .bool _ => "bool"
  | .int _ => "int"
  | .str _ => "str"
  | .list _ => "list"
  | .tuple _ => "tuple"
  | .dict _ => "dict"
theorem Rep.tyOf {ex : List Addr} {H : Hp} {K : PySem.W.Frag} {d : PyData} {v : V} (r : Rep ex H d v) : TyOf K H v (.type (tyName d)) := by
  cases r with
  | none => exact .non
  | bool b => exact .bl b
  | int i => exact .int i
  | str x => exact .str x
  | tuple e n z r => exact .tup e
  | list e n z r => exact .lst e
/-- // by a positive divisor of at most 8999 bits -/
def CDivB (i j : Int) : Prop := 0 < j ∧ j.natAbs.log2 < 9000
theorem op_fdivB : OpR X (binaryOp .FloorDiv) (rI CDivB fun i j => .int (i / j)) := opI fun i j _ _ _ _ _ hc q => by
  have h1 : (0 : Int) < j := hc.1
  exact floordiv_int (by omega) (by rw [Int.fdiv_eq_ediv_of_nonneg i (by omega)]; exact q) (.inl (PyProof.noPylong_of_log2 hc.2))
end
theorem cdivB_of {i j : Int} (h0 : 0 < j) (h1 : j < 2 ^ 9000) : CDivB i j := by
  refine ⟨h0, ?_⟩
  have hn : j.natAbs ≠ 0 := by omega
  rw [Nat.log2_lt hn]
  have : (j.natAbs : Int) = j := Int.natAbs_of_nonneg (by omega)
  have h2 : ((j.natAbs : Nat) : Int) < ((2 ^ 9000 : Nat) : Int) := by rw [this]; exact_mod_cast h1
  exact_mod_cast h2
end L2

namespace L2
open PySem PySem.Spec PyProof.Rows

/-! ## a def of the text with its promise -/
def Cal (P : Program) (w : World) (K : PySem.W.Frag) (mg : Str → Option Value) (base : Heap) (name : Str) (k : Nat) (ps : List Str) (sp : Sp) : Prop :=
  ∃ f fd, mg name = some (.ref f) ∧ PySem.W.keepIn K (.ref f) = true ∧ Binds K fd ps [] ∧ FnOk P w K mg base CX0 k f fd ps sp
/-- a def's stand in the text -/
def Def (K : PySem.W.Frag) (mg : Str → Option Value) (name : Str) (st : Stmt) (ps : List Str) : Prop :=
  ∃ f fd, mg name = some (.ref f) ∧ Fun K name name st f fd ∧ Binds K fd ps []
theorem Def.cal {P : Program} {w : World} {K : PySem.W.Frag} {mg : Str → Option Value} {base : Heap} {name : Str} {st : Stmt} {ps : List Str} {k : Nat} {sp : Sp} (d : Def K mg name st ps)
    (h : ∀ f fd, Fun K name name st f fd → FnOk P w K mg base CX0 k f fd ps sp) : Cal P w K mg base name k ps sp := by
  obtain ⟨f, fd, hm, F, b⟩ := d
  exact ⟨f, fd, hm, F.kp, b, h f fd F⟩
theorem Cal.imp {P : Program} {w : World} {K : PySem.W.Frag} {mg : Str → Option Value} {base : Heap} {name : Str} {k : Nat} {ps : List Str} {sp sp' : Sp} (c : Cal P w K mg base name k ps sp) (h : ∀ vs H Q E, sp' vs H Q E → sp vs H Q E) : Cal P w K mg base name k ps sp' := by
  obtain ⟨f, fd, hm, hk, b, F⟩ := c
  exact ⟨f, fd, hm, hk, b, F.imp h⟩
section
variable {X : Cx} {x : Str} {e : Expr} {es : List Expr} {p pos : Pos} {t : TA} {k : Nat} {ps : List Str} {sp : Sp}
theorem pe_c (c : Cal X.prog X.w X.K X.mg X.base x k ps sp) (hr : Room k X.A) (hg : Gl X x) (ha : PA X (e :: es) t) (hdb : (x == ("__debug__" : Str)) = false := by decide)
    (he : starEach (e :: es) X.env = (false, eval e X.env) :: starEach es X.env := by rfl) (hpl : (backTo pos (starEach es X.env)).any (·.1) = false := by rfl) :
    PE X (.Call (.Name x p) (e :: es) [] pos) (tCall sp [] E0 t) := by
  obtain ⟨f, fd, hm, hk, b, F⟩ := c
  exact pe_call F hr hg hm hk b .nil pass0 ha hdb he hpl
/-- a module's int -/
def GInt (mg : Str → Option Value) (x : Str) (i : Int) : Prop := ∃ t, mg x = some (.int i t)
theorem pe_gint {i : Int} (h : GInt X.mg x i) (hg : Gl X x) (hd : (x == ("__debug__" : Str)) = false := by decide) : PE X (.Name x pos) (tC (.int i)) := by
  obtain ⟨t, h⟩ := h
  exact pe_glob hg h ⟨t, rfl⟩ hd
end

/-! ## comprehensions over n items, one name -/
def CW (n : Nat) (l : Addr) (fr : St) (Pv : Nat → List V → Hp → Prop) (i m : Nat) (σ : St) (H : Hp) : Prop := i ≤ n ∧ m = n - i ∧ ∃ o ys, σ = o :: fr ∧ H l = some (.lst ys) ∧ Pv i ys H
def CNext (n : Nat) (l : Addr) (fr : St) (Pv : Nat → List V → Hp → Prop) (i : Nat) (x : V) : VK := fun y H4 =>
  ∃ xs, H4 l = some (.lst xs) ∧ xs.length < sizeLine ∧ ∃ m', m' < n - i ∧ CW n l fr Pv (i + 1) m' (some x :: fr) (upd H4 l (.lst (xs ++ [y])))
def CSkip (n : Nat) (l : Addr) (fr : St) (Pv : Nat → List V → Hp → Prop) (i : Nat) (x : V) (H3 : Hp) : Prop := ∃ m', m' < n - i ∧ CW n l fr Pv (i + 1) m' (some x :: fr) H3
theorem CNext.intro {n : Nat} {l : Addr} {fr : St} {Pv : Nat → List V → Hp → Prop} {i : Nat} {x y : V} {H4 : Hp} {ys : List V} (hi : i < n) (h1 : H4 l = some (.lst ys)) (h2 : ys.length < sizeLine) (h3 : Pv (i + 1) (ys ++ [y]) (upd H4 l (.lst (ys ++ [y])))) : CNext n l fr Pv i x y H4 :=
  ⟨ys, h1, h2, n - (i + 1), by omega, by omega, rfl, _, _, rfl, upd_same, h3⟩
theorem CSkip.intro {n : Nat} {l : Addr} {fr : St} {Pv : Nat → List V → Hp → Prop} {i : Nat} {x : V} {H3 : Hp} {ys : List V} (hi : i < n) (h1 : H3 l = some (.lst ys)) (h3 : Pv (i + 1) ys H3) : CSkip n l fr Pv i x H3 :=
  ⟨n - (i + 1), by omega, by omega, rfl, _, _, rfl, h1, h3⟩
theorem comp1 {J : It} {tt : TT} {te : TE} {l : Addr} {fr : St} {o0 : Option V} {H0 : Hp} {Q : Hp → Prop} (n : Nat) (Pv : Nat → List V → Hp → Prop) (h0 : Pv 0 [] H0) (hl0 : H0 l = some (.lst []))
    (hgo : ∀ i H ys, i < n → Pv i ys H → H l = some (.lst ys) → J.go i H) (hstop : ∀ H ys, Pv n ys H → H l = some (.lst ys) → J.stop n H)
    (step : ∀ i H ys x H', i < n → Pv i ys H → H l = some (.lst ys) → J.yld i H x H' → tt (some x :: fr) H' fun c H3 =>
      if c = true then te (some x :: fr) H3 (CNext n l fr Pv i x) else CSkip n l fr Pv i x H3)
    (fin : ∀ H ys, Pv n ys H → H l = some (.lst ys) → Q H) :
    cTurns J (gName 0) tt te l (o0 :: fr) H0 Q := by
  refine ⟨CW n l fr Pv, ⟨n, Nat.zero_le _, rfl, o0, [], rfl, hl0, h0⟩, ?_⟩
  rintro i m σ H ⟨hi, rfl, o, ys, rfl, hl, hp⟩
  rcases Nat.lt_or_ge i n with h | h
  · exact .inr ⟨hgo i H ys h hp hl, fun x H' y => step i H ys x H' h hp hl y⟩
  · have e : i = n := by omega
    subst e
    exact .inl ⟨hstop H ys hp hl, fin H ys hp hl⟩
theorem noTest {σ : St} {H : Hp} {P : Bool → Hp → Prop} (h : P true H) : tNoTest σ H P := h
/-- each item a value fe i that needs no heap; nothing is changed -/
def CPure (H1 : Hp) (fe : Nat → V) (i : Nat) (ys : List V) (H : Hp) : Prop := Kp [] H1 H ∧ ys = (List.range i).map fe
theorem cpure_next {H1 H H4 : Hp} {fe : Nat → V} {n i : Nat} {l : Addr} {fr : St} {x : V} (hi : i < n) (hn : n ≤ sizeLine) (hl0 : H1 l = none) (h : CPure H1 fe i ((List.range i).map fe) H) (hl : H l = some (.lst ((List.range i).map fe))) (k : Kp [] H H4) :
    CNext n l fr (CPure H1 fe) i x (fe i) H4 := by
  refine CNext.intro hi (k _ _ hl (by simp)) (by simp; omega) ⟨fun b o e _ => ?_, ?_⟩
  · rw [upd_ne (ne_of_none e hl0)]; exact k _ _ (h.1 _ _ e (by simp)) (by simp)
  · rw [List.range_succ, List.map_append]; rfl
theorem comp1_tup {K : PySem.W.Frag} {a : Addr} {xs : List V} {te : TE} {l : Addr} {fr : St} {o0 : Option V} {H1 : Hp} {Q : Hp → Prop} (fe : Nat → V) (hq : SqT K H1 a xs) (hz : xs.length ≤ sizeLine) (hl0 : H1 l = none)
    (step : ∀ i x H (N : VK), xs[i]? = some x → Kp [] H1 H → (∀ H4, Kp [] H H4 → N (fe i) H4) → te (some x :: fr) H N)
    (fin : ∀ H, Kp [] H1 H → H l = some (.lst ((List.range xs.length).map fe)) → Q H) :
    cTurns (Itt K a) (gName 0) tNoTest te l (o0 :: fr) (upd H1 l (.lst [])) Q := by
  have hs : ∀ {H : Hp}, Kp [] H1 H → SqT K H a xs := fun {H} k => by
    rcases hq with (q | ⟨o, q⟩) | q
    · exact .inl (.inl (k _ _ q (by simp)))
    · exact .inl (.inr ⟨o, k _ _ q (by simp)⟩)
    · exact .inr q
  refine comp1 xs.length (CPure H1 fe) ⟨Kp.new hl0 _, rfl⟩ upd_same (fun i H ys hi p _ => ⟨xs, xs[i], hs p.1, List.getElem?_eq_getElem hi⟩) (fun H ys p _ => ⟨xs, hs p.1, Nat.le_refl _⟩) (fun i H ys x H' hi p hl y => ?_) fun H ys p hl => ?_
  · obtain ⟨rfl, hx⟩ := y
    obtain ⟨k1, rfl⟩ := p
    refine noTest ?_
    exact iteT (step i x H' _ (hx xs (hs k1)) k1 fun H4 k => cpure_next hi hz hl0 ⟨k1, rfl⟩ hl k)
  · obtain ⟨k1, rfl⟩ := p
    exact fin H k1 hl
theorem comp1_list {K : PySem.W.Frag} {a : Addr} {xs : List V} {te : TE} {l : Addr} {fr : St} {o0 : Option V} {H1 : Hp} {Q : Hp → Prop} (fe : Nat → V) (hq : SqL K H1 a xs) (hz : xs.length ≤ sizeLine) (hl0 : H1 l = none)
    (step : ∀ i x H (N : VK), xs[i]? = some x → Kp [] H1 H → (∀ H4, Kp [] H H4 → N (fe i) H4) → te (some x :: fr) H N)
    (fin : ∀ H, Kp [] H1 H → H l = some (.lst ((List.range xs.length).map fe)) → Q H) :
    cTurns (Itl K a) (gName 0) tNoTest te l (o0 :: fr) (upd H1 l (.lst [])) Q := by
  have hs : ∀ {H : Hp}, Kp [] H1 H → SqL K H a xs := fun {H} k => by
    rcases hq with (q | ⟨o, q⟩) | q
    · exact .inl (.inl (k _ _ q (by simp)))
    · exact .inl (.inr ⟨o, k _ _ q (by simp)⟩)
    · exact .inr q
  refine comp1 xs.length (CPure H1 fe) ⟨Kp.new hl0 _, rfl⟩ upd_same (fun i H ys hi p _ => ⟨xs, xs[i], hs p.1, List.getElem?_eq_getElem hi⟩) (fun H ys p _ => ⟨xs, hs p.1, Nat.le_refl _⟩) (fun i H ys x H' hi p hl y => ?_) fun H ys p hl => ?_
  · obtain ⟨rfl, hx⟩ := y
    obtain ⟨k1, rfl⟩ := p
    refine noTest ?_
    exact iteT (step i x H' _ (hx xs (hs k1)) k1 fun H4 k => cpure_next hi hz hl0 ⟨k1, rfl⟩ hl k)
  · obtain ⟨k1, rfl⟩ := p
    exact fin H k1 hl
theorem comp1_rng {te : TE} {l : Addr} {fr : St} {o0 : Option V} {H1 : Hp} {Q : Hp → Prop} {lo : Int} {n : Nat} (fe : Nat → V) (hz : n ≤ sizeLine) (hl0 : H1 l = none)
    (step : ∀ i H (N : VK), i < n → Kp [] H1 H → (∀ H4, Kp [] H H4 → N (fe i) H4) → te (some (.int (lo + i)) :: fr) H N)
    (fin : ∀ H, Kp [] H1 H → H l = some (.lst ((List.range n).map fe)) → Q H) :
    cTurns (Itr lo n) (gName 0) tNoTest te l (o0 :: fr) (upd H1 l (.lst [])) Q := by
  refine comp1 n (CPure H1 fe) ⟨Kp.new hl0 _, rfl⟩ upd_same (fun i H ys hi p _ => hi) (fun H ys p _ => Nat.le_refl n) (fun i H ys x H' hi p hl y => ?_) fun H ys p hl => ?_
  · obtain ⟨rfl, rfl⟩ := y
    obtain ⟨k1, rfl⟩ := p
    refine noTest ?_
    exact iteT (step i H' _ hi k1 fun H4 k => cpure_next hi hz hl0 ⟨k1, rfl⟩ hl k)
  · obtain ⟨k1, rfl⟩ := p
    exact fin H k1 hl
/-- over a range, with a word of one's own -/
theorem comp1_rngP {te : TE} {l : Addr} {fr : St} {o0 : Option V} {H0 : Hp} {Q : Hp → Prop} {lo : Int} {n : Nat} (Pv : Nat → List V → Hp → Prop) (h0 : Pv 0 [] H0) (hl0 : H0 l = some (.lst []))
    (step : ∀ i H ys (N : VK), i < n → Pv i ys H → H l = some (.lst ys) → (∀ y H4, H4 l = some (.lst ys) → ys.length < sizeLine → Pv (i + 1) (ys ++ [y]) (upd H4 l (.lst (ys ++ [y]))) → N y H4) → te (some (.int (lo + i)) :: fr) H N)
    (fin : ∀ H ys, Pv n ys H → H l = some (.lst ys) → Q H) :
    cTurns (Itr lo n) (gName 0) tNoTest te l (o0 :: fr) H0 Q := by
  refine comp1 n Pv h0 hl0 (fun i H ys hi p _ => hi) (fun H ys p _ => Nat.le_refl n) (fun i H ys x H' hi p hl y => ?_) fin
  obtain ⟨rfl, rfl⟩ := y
  refine noTest ?_
  exact iteT (step i H' ys _ hi p hl fun y H4 h1 h2 h3 => CNext.intro hi h1 h2 h3)
end L2

namespace L2
open PySem PySem.Spec PyProof.Rows
section
variable {X : Cx}
theorem op_neD (hu : X.A.units + 64 < cLine) : OpR X (compareOp .NotEq) rNeD := by
  intro pins s σ H x y v u Q I rx ry h
  obtain ⟨ex, da, db, r1, r2, c1, c2, hd, q⟩ := h
  obtain ⟨as, h1⟩ := r1.reads I.hok rx
  obtain ⟨bs, h2⟩ := r2.reads I.hok ry
  exact SeqAt.compareNe_reads h1 h2 c1 c2 (by omega) ⟨.bl (!PyData.eqv da db), H, I, rfl, q⟩
/-- x is True, x is False, of a bool -/
theorem op_isB : OpR X (compareOp .Is) (fun x y H Q => ∃ a b, x = .bl a ∧ y = .bl b ∧ Q (.bl (a == b)) H) := by
  intro pins s σ H x y v u Q I rx ry h
  obtain ⟨a, b, rfl, rfl, q⟩ := h
  cases rx
  cases ry
  exact is_bool ⟨.bl (a == b), H, I, rfl, q⟩
theorem op_isnotB : OpR X (compareOp .IsNot) (fun x y H Q => ∃ a b, x = .bl a ∧ y = .bl b ∧ Q (.bl (!(a == b))) H) := by
  intro pins s σ H x y v u Q I rx ry h
  obtain ⟨a, b, rfl, rfl, q⟩ := h
  cases rx
  cases ry
  exact isnot_bool ⟨.bl (!(a == b)), H, I, rfl, q⟩
end
/-! ### t * k -/
theorem noFill_tuple_mul : fillsNumberSlot (.type "tuple") "mul" = pure false :=
  PySem.fillsNumberSlot_seq (id := "tuple.__mul__") (r := some (.builtin "tuple.__rmul__")) PySem.F.slot_tuple_mul.lookup (by decide +kernel) PySem.F.slot_tuple_rmul.lookup (by decide +kernel)
theorem repeat_tuple : seqRepeat? (.type "tuple") = pure (some (.builtin "tuple.__mul__")) := by
  unfold seqRepeat?
  rw [PySem.seqSlot_of (T := "tuple") (name := "__mul__") (id := "tuple.__mul__") PySem.F.slot_tuple_mul.lookup (by decide +kernel), PySem.seqSlot_of (T := "tuple") (name := "__rmul__") (id := "tuple.__rmul__") PySem.F.slot_tuple_rmul.lookup (by decide +kernel)]
  rfl
theorem int_rmul_tuple (a : Int) (t : Tok) (l : Addr) (items : Array Value) (n : Nat) (dd : Option Addr) (sl : Array (Option Value)) :
    Meets (Builtin.«int.__rmul__» ⟨[.int a t, .ref l], []⟩) (fun _ R s => s.heap.get? l = some { cls := .type "tuple", dict := dd, data := .seq items n, slots := sl } ∧ R (.ok (.ret Value.notImplemented)) s) :=
  .of_wp fun prog w A R s h => by obtain ⟨hp, g, d, tk, os⟩ := s; obtain ⟨hl, h⟩ := h; wp_walk; exact ⟨_, rfl, h⟩
theorem tuple_mul1 (l : Addr) (items : Array Value) (n : Nat) (dd : Option Addr) (sl : Array (Option Value)) (u : Tok) :
    Meets (Builtin.«tuple.__mul__» ⟨[.ref l, .int 1 u], []⟩) (fun _ R s => s.heap.get? l = some { cls := .type "tuple", dict := dd, data := .seq items n, slots := sl } ∧ R (.ok (.ret (Value.ref l))) s) :=
  .of_wp fun prog w A R s h => by
    obtain ⟨hp, g, d, tk, os⟩ := s; obtain ⟨hl, h⟩ := h
    have f1 := AutoSeq1.idx_int
    wp_walk using AutoSeq1.wpAny_loadPart' hl
    exact ⟨_, rfl, h⟩
theorem tuple_mul0 (l : Addr) (items : Array Value) (n : Nat) (dd : Option Addr) (sl : Array (Option Value)) (x : Int) (u : Tok) (he : ¬ items.isEmpty = true) (h0 : x ≤ 0) (h1 : -(2 ^ 63) ≤ x) :
    Meets (Builtin.«tuple.__mul__» ⟨[.ref l, .int x u], []⟩) (fun _ R s => s.heap.get? l = some { cls := .type "tuple", dict := dd, data := .seq items n, slots := sl } ∧ R (.ok (.ret (Value.ref s.heap.objs.size))) { s with heap := s.heap.push { cls := Value.type "tuple", data := Data.seq #[] }, toks := s.toks }) :=
  .of_wp fun prog w A R s h => by
    obtain ⟨hp, g, d, tk, os⟩ := s; obtain ⟨hl, h⟩ := h
    have f1 := AutoSeq1.idx_int
    have c0 : ¬ (decide (x < -2 ^ 63) || decide (x ≥ 2 ^ 63)) = true := by simp; omega
    have c1 : ¬ (items.isEmpty || x == 1) = true := by
      have : ¬ x = 1 := by omega
      simp_all
    have c2 : (decide (x ≤ 0) || items.isEmpty) = true := by simp [h0]
    wp_walk using AutoSeq1.wpAny_loadPart' hl
    refine wpAny_ite_false (decide_eq_false c0) ?_
    wp_walk using AutoSeq1.wpAny_loadPart' hl
    refine wpAny_ite_false (decide_eq_false c1) ?_
    wp_walk using AutoSeq1.wpAny_loadPart' hl
    exact ⟨_, rfl, h⟩
theorem tuple_mul2 (l : Addr) (items : Array Value) (n : Nat) (dd : Option Addr) (sl : Array (Option Value)) (x : Int) (u : Tok) (he : ¬ items.isEmpty = true) (h0 : 2 ≤ x) (hz : (items.size : Int) * x ≤ sizeLine) :
    Meets (Builtin.«tuple.__mul__» ⟨[.ref l, .int x u], []⟩) (fun _ R s => s.heap.get? l = some { cls := .type "tuple", dict := dd, data := .seq items n, slots := sl } ∧ R (.ok (.ret (Value.ref s.heap.objs.size))) { s with heap := s.heap.push { cls := Value.type "tuple", data := Data.seq ((List.replicate x.toNat items).foldl (· ++ ·) #[]) }, toks := s.toks }) :=
  .of_wp fun prog w A R s h => by
    obtain ⟨hp, g, d, tk, os⟩ := s; obtain ⟨hl, h⟩ := h
    have f1 := AutoSeq1.idx_int
    have hs : sizeLine = 16777216 := sizeLine_eq
    have hpos : 1 ≤ (items.size : Int) := by
      have : items.size ≠ 0 := fun z => he (by simpa using z)
      omega
    have hx : x ≤ (items.size : Int) * x := by
      have := Int.mul_le_mul_of_nonneg_right hpos (show 0 ≤ x by omega)
      omega
    have c0 : ¬ (decide (x < -2 ^ 63) || decide (x ≥ 2 ^ 63)) = true := by simp; omega
    have c1 : ¬ (items.isEmpty || x == 1) = true := by
      have : ¬ x = 1 := by omega
      simp_all
    have c2 : ¬ (decide (x ≤ 0) || items.isEmpty) = true := by
      have : ¬ x ≤ 0 := by omega
      simp_all
    have c3 : ¬ (items.size : Int) * x > (2 ^ 63 - 1) / 8 := by omega
    have c4 : ¬ Builtin.Tuple.tupleTooMany ((items.size : Int) * x) = true := by unfold Builtin.Tuple.tupleTooMany; simp; omega
    have c5 : ¬ (List.foldl (fun x1 x2 => x1 ++ x2) #[] (List.replicate x.toNat items)).size > sizeLine := by
      have e := foldl_rep items.toList x.toNat []
      have e2 : items.toList.toArray = items := rfl
      rw [List.nil_append, e2] at e
      rw [e, List.size_toArray, len_rep]
      have e3 : (((x.toNat * items.toList.length : Nat)) : Int) = (items.size : Int) * x := by
        rw [Int.natCast_mul, Int.toNat_of_nonneg (by omega), Int.mul_comm]; rfl
      omega
    wp_walk using AutoSeq1.wpAny_loadPart' hl
    refine wpAny_ite_false (decide_eq_false c0) ?_
    wp_walk using AutoSeq1.wpAny_loadPart' hl
    refine wpAny_ite_false (decide_eq_false c1) ?_
    wp_walk using AutoSeq1.wpAny_loadPart' hl
    refine wpAny_ite_false (decide_eq_false c2) ?_
    wp_walk
    refine wpAny_ite_false (decide_eq_false c3) ?_
    wp_walk
    refine wpAny_ite_false (decide_eq_false c5) ?_
    wp_walk
    exact ⟨_, rfl, h⟩
section
variable {X : Cx}
/-- t * k: t not empty -/
def rRepT (K : PySem.W.Frag) : R2 := fun x y H Q => ∃ a k xs, x = .ref a ∧ y = .int k ∧ SqT K H a xs ∧ xs ≠ [] ∧ -(2 ^ 63) ≤ k ∧ (xs.length : Int) * k ≤ sizeLine ∧
  (k = 1 → Q (.ref a) H) ∧ (k ≠ 1 → ∀ p, H p = none → Q (.ref p) (upd H p (.tup (List.replicate k.toNat xs).flatten)))
theorem op_repT : OpR X (binaryOp .Mult) (rRepT X.K) := by
  intro pins s σ H x y v u Q I rx ry h
  obtain ⟨a, k, xs, rfl, rfl, hq, hne, h1, hz, q1, q2⟩ := h
  cases rx
  obtain ⟨t, rfl⟩ := ry
  obtain ⟨its, r, pl, hz'⟩ := I.tuple hq
  have hl := r.length
  obtain ⟨⟨cls, dd, data, sl⟩, ho, hc, n, hd⟩ := id pl
  simp only at hc hd
  subst hc hd
  have hne' : ¬ its.toArray.isEmpty = true := by
    cases xs with
    | nil => exact absurd rfl hne
    | cons z zs => cases its with
      | nil => simp at hl
      | cons _ _ => simp
  have f0 : ∀ m : Nat, List.foldl (fun x1 x2 => x1 ++ x2) #[] (List.replicate m its.toArray) = (List.replicate m its).flatten.toArray := fun m => by
    have := foldl_rep its m []
    rw [List.nil_append] at this
    exact this
  have road : ∀ {R : Value → Shared → Prop}, wpAny (model X.prog X.w) X.A (call (.builtin "tuple.__mul__") [.ref a, .int k t]) R X.xe s → wpAny (model X.prog X.w) X.A (binaryOp .Mult (.ref a) (.int k t)) R X.xe s := fun {R} hw =>
    wpAny_binaryOp_repeat_ref (T := "tuple") (U := "int") (by decide) ⟨_, ho, rfl⟩ (fun s' => typeIs_int s' k t) noFill_tuple_mul PySem.F.fills_int_mul PySem.F.slot_int_rmul repeat_tuple PySem.F.slot_int_index.lookup
      (call_meets PySem.F.slot_int_rmul (typeIs_int s k t) PySem.F.entry_int_rmul (PySem.F.args_int_rmul_2 _ _) (int_rmul_tuple k t a its.toArray n dd sl) ⟨ho, rfl, ⟨_, ho, rfl⟩, hw⟩)
  refine road ?_
  have new : ∀ (zs : List V) (ws : List Value), Vals zs ws → zs.length ≤ sizeLine → Q (.ref s.heap.objs.size) (upd H s.heap.objs.size (.tup zs)) →
      EP X pins σ Q (.ref s.heap.objs.size) { s with heap := s.heap.push { cls := .type "tuple", data := .seq ws.toArray }, toks := s.toks } := fun zs ws rv hz q =>
    ⟨.ref s.heap.objs.size, _, I.laid (t' := s.toks) (fun b u e => Heap.get?_push_of_some _ e) (Nat.le_refl _) (show ObjOk _ _ _ _ _ (.tup zs) from ⟨hz, ws, rv, _, Heap.get?_push_size _ rfl, rfl, 0, rfl⟩), rfl, q⟩
  have hs : sizeLine = 16777216 := sizeLine_eq
  by_cases k1 : k = 1
  · subst k1
    exact call_meets PySem.F.slot_tuple_mul ⟨_, ho, rfl⟩ PySem.F.entry_tuple_mul (PySem.F.args_tuple_mul_2 _ _) (tuple_mul1 a its.toArray n dd sl t) ⟨ho, .ref a, H, I, rfl, q1 rfl⟩
  · by_cases k0 : k ≤ 0
    · refine call_meets PySem.F.slot_tuple_mul ⟨_, ho, rfl⟩ PySem.F.entry_tuple_mul (PySem.F.args_tuple_mul_2 _ _) (tuple_mul0 a its.toArray n dd sl k t hne' k0 h1) ⟨ho, ?_⟩
      have := q2 k1 _ I.fresh
      rw [show k.toNat = 0 by omega] at this
      exact new [] [] .nil (by simp) this
    · have hz2 : ((its.toArray.size : Nat) : Int) * k ≤ sizeLine := by rw [List.size_toArray, ← hl]; exact hz
      refine call_meets PySem.F.slot_tuple_mul ⟨_, ho, rfl⟩ PySem.F.entry_tuple_mul (PySem.F.args_tuple_mul_2 _ _) (tuple_mul2 a its.toArray n dd sl k t hne' (by omega) hz2) ⟨ho, ?_⟩
      rw [f0]
      refine new _ _ (r.rep k.toNat) ?_ (q2 k1 _ I.fresh)
      rw [len_rep]
      have e : (((k.toNat * xs.length : Nat)) : Int) = (xs.length : Int) * k := by
        rw [Int.natCast_mul, Int.toNat_of_nonneg (by omega), Int.mul_comm]
      omega
end
end L2
namespace L2
open PySem PySem.Spec PyProof.Rows
/-! ### isinstance of data -/
def instD (d : PyData) (T : String) : Bool := tyName d == T || (tyName d == "bool" && T == "int")
theorem kit_D (K : PySem.W.Frag) (d : PyData) (T : String) (hT : T = "int" ∨ T = "bool" ∨ T = "str" ∨ T = "tuple" ∨ T = "list") : PySem.W.kitOne K (.type (tyName d)) (.type T) = some (instD d T) := by
  rcases hT with rfl | rfl | rfl | rfl | rfl <;> cases d <;> first | rfl | kernel_rfl
theorem call_isD {X : Cx} : CallR X (.builtin "isinstance") (fun xs H Q => ∃ ex d x T, xs = [x, .ty T] ∧ Rep ex H d x ∧ (T = "int" ∨ T = "bool" ∨ T = "str" ∨ T = "tuple" ∨ T = "list") ∧ Q (.bl (instD d T)) H) := by
  intro pins s σ H xs us Q I r h
  obtain ⟨ex, d, x, T, rfl, rd, hT, q⟩ := h
  exact call_isinst pins s σ H _ us Q I r ⟨x, T, _, _, rfl, rd.tyOf, kit_D _ _ _ hT, q⟩
theorem isT_int : ("int" : String) = "int" ∨ ("int" : String) = "bool" ∨ ("int" : String) = "str" ∨ ("int" : String) = "tuple" ∨ ("int" : String) = "list" := .inl rfl
theorem isT_bool : ("bool" : String) = "int" ∨ ("bool" : String) = "bool" ∨ ("bool" : String) = "str" ∨ ("bool" : String) = "tuple" ∨ ("bool" : String) = "list" := .inr (.inl rfl)
theorem isT_str : ("str" : String) = "int" ∨ ("str" : String) = "bool" ∨ ("str" : String) = "str" ∨ ("str" : String) = "tuple" ∨ ("str" : String) = "list" := .inr (.inr (.inl rfl))
theorem isT_tuple : ("tuple" : String) = "int" ∨ ("tuple" : String) = "bool" ∨ ("tuple" : String) = "str" ∨ ("tuple" : String) = "tuple" ∨ ("tuple" : String) = "list" := .inr (.inr (.inr (.inl rfl)))
theorem isT_list : ("list" : String) = "int" ∨ ("list" : String) = "bool" ∨ ("list" : String) = "str" ∨ ("list" : String) = "tuple" ∨ ("list" : String) = "list" := .inr (.inr (.inr (.inr rfl)))
/-! ### bits -/
theorem xor_bound {x y : Int} (hx : 0 ≤ x) (hx2 : x < 2 ^ 64) (hy : 0 ≤ y) (hy2 : y < 2 ^ 64) : 0 ≤ Builtin.bitXor x y ∧ Builtin.bitXor x y < 2 ^ 64 := by
  have e1 : Builtin.bitAnd x y = ((x.toNat &&& y.toNat : Nat) : Int) := by
    show Spec.bitAnd x y = _
    unfold Spec.bitAnd
    rw [decide_eq_true hx, decide_eq_true hy]
  have e2 : Builtin.bitOr x y = ((x.toNat ||| y.toNat : Nat) : Int) := by
    show Spec.bitOr x y = _
    unfold Spec.bitOr Spec.bitAnd Spec.bitNot
    rw [decide_eq_false (show ¬ 0 ≤ -x - 1 by omega), decide_eq_false (show ¬ 0 ≤ -y - 1 by omega)]
    simp only
    rw [show (-(-x - 1) - 1) = x by omega, show (-(-y - 1) - 1) = y by omega]
    omega
  have e : Builtin.bitXor x y = ((x.toNat ||| y.toNat : Nat) : Int) - ((x.toNat &&& y.toNat : Nat) : Int) := by
    show Builtin.bitOr x y - Builtin.bitAnd x y = _
    rw [e1, e2]
  have h1 : x.toNat ||| y.toNat < 2 ^ 64 := Nat.or_lt_two_pow (by omega) (by omega)
  have h2 : x.toNat &&& y.toNat ≤ x.toNat := Nat.and_le_left
  have h3 : x.toNat ≤ x.toNat ||| y.toNat := Nat.left_le_or
  rw [e]
  omega
end L2

namespace My
open PySem PySem.Spec PyProof.Rows L2
def wholeD : PyData → Bool
  | .int _ => true
  | _ => false
def betwD (d : PyData) (lo hi : Int) : Bool := match d with
  | .int i => decide (lo ≤ i) && decide (i ≤ hi)
  | _ => false
def tupD (d : PyData) (n : Int) : Bool := match d with
  | .tuple xs => decide ((xs.length : Int) = n)
  | _ => false
def gainsD (d : PyData) (n : Int) : Bool := match d with
  | .tuple xs => decide ((xs.length : Int) = n) && xs.all fun x => betwD x (-99) 99
  | _ => false
def wayD (d : PyData) (r p : Int) : Bool := match d with
  | .tuple [a, b, g] => betwD a 0 (r - 1) && (betwD b 0 (r - 1) && gainsD g p)
  | _ => false
def bookD (d : PyData) : Bool := match d with
  | .tuple [.int r, .int p, .tuple ws] => betwD (.int r) 1 12 && betwD (.int p) 1 6 && (decide ((ws.length : Int) ≤ 60) && ws.all fun x => wayD x r p)
  | _ => false
def spWhole : Sp := fun vs H Q _ => ∃ ex d v, vs = [v] ∧ Rep ex H d v ∧ Q (.bl (wholeD d)) H
def spBetw : Sp := fun vs H Q _ => ∃ ex d v lo hi, vs = [v, .int lo, .int hi] ∧ Rep ex H d v ∧ Q (.bl (betwD d lo hi)) H
def spTup : Sp := fun vs H Q _ => ∃ ex d v n, vs = [v, .int n] ∧ Rep ex H d v ∧ Q (.bl (tupD d n)) H
def spGains : Sp := fun vs H Q _ => ∃ ex d v n, vs = [v, .int n] ∧ Rep ex H d v ∧ ∀ H', Kp [] H H' → Q (.bl (gainsD d n)) H'
def spWay : Sp := fun vs H Q _ => ∃ ex d v r p, vs = [v, .int r, .int p] ∧ Rep ex H d v ∧ ∀ H', Kp [] H H' → Q (.bl (wayD d r p)) H'
def spBook : Sp := fun vs H Q _ => ∃ ex d v, vs = [v] ∧ Rep ex H d v ∧ ∀ H', Kp [] H H' → Q (.bl (bookD d)) H'
theorem rep_tup {ex : List Addr} {H : Hp} {ds : List PyData} {v : V} (r : Rep ex H (.tuple ds) v) : ∃ a xs, v = .ref a ∧ H a = some (.tup xs) ∧ a ∉ ex ∧ xs.length ≤ sizeLine ∧ Reps ex H ds xs := by
  cases r with | tuple e n z rs => exact ⟨_, _, rfl, e, n, z, rs⟩
theorem rep_lst {ex : List Addr} {H : Hp} {ds : List PyData} {v : V} (r : Rep ex H (.list ds) v) : ∃ a xs, v = .ref a ∧ H a = some (.lst xs) ∧ a ∉ ex ∧ xs.length ≤ sizeLine ∧ Reps ex H ds xs := by
  cases r with | list e n z rs => exact ⟨_, _, rfl, e, n, z, rs⟩
theorem reps_3 {ex : List Addr} {H : Hp} {a b c : PyData} {vs : List V} (r : Reps ex H [a, b, c] vs) : ∃ x y z, vs = [x, y, z] ∧ Rep ex H a x ∧ Rep ex H b y ∧ Rep ex H c z := by
  cases r with | cons r1 r => cases r with | cons r2 r => cases r with | cons r3 r => cases r; exact ⟨_, _, _, rfl, r1, r2, r3⟩
theorem reps_2 {ex : List Addr} {H : Hp} {a b : PyData} {vs : List V} (r : Reps ex H [a, b] vs) : ∃ x y, vs = [x, y] ∧ Rep ex H a x ∧ Rep ex H b y := by
  cases r with | cons r1 r => cases r with | cons r2 r => cases r; exact ⟨_, _, rfl, r1, r2⟩
theorem rep_tup3 {ex : List Addr} {H : Hp} {a b c : PyData} {v : V} (r : Rep ex H (.tuple [a, b, c]) v) : ∃ at' x y z, v = .ref at' ∧ H at' = some (.tup [x, y, z]) ∧ at' ∉ ex ∧ Rep ex H a x ∧ Rep ex H b y ∧ Rep ex H c z := by
  obtain ⟨at', xs, rfl, e, n, _, rs⟩ := rep_tup r
  obtain ⟨x, y, z, rfl, r1, r2, r3⟩ := reps_3 rs
  exact ⟨at', x, y, z, rfl, e, n, r1, r2, r3⟩
theorem rep_int {ex : List Addr} {H : Hp} {i : Int} {v : V} (r : Rep ex H (.int i) v) : v = .int i := by cases r; rfl
/-- True and False told apart -/
theorem ite_b {c : Bool} {A B : Prop} (h1 : c = true → A) (h2 : c = false → B) : if c = true then A else B := by
  cases c with
  | true => exact h1 rfl
  | false => exact h2 rfl
theorem wholeD_int {d : PyData} (h : wholeD d = true) : ∃ i, d = .int i := by
  cases d with
  | int i => exact ⟨i, rfl⟩
  | _ => cases h
theorem betwD_int {d : PyData} {lo hi : Int} (h : betwD d lo hi = true) : ∃ i, d = .int i ∧ lo ≤ i ∧ i ≤ hi := by
  cases d with
  | int i => refine ⟨i, rfl, ?_⟩; unfold betwD at h; simpa using h
  | _ => cases h
theorem instD_tuple {d : PyData} (h : instD d "tuple" = true) : ∃ xs, d = .tuple xs := by
  cases d with
  | tuple xs => exact ⟨xs, rfl⟩
  | _ => simp [instD, tyName] at h
theorem instD_notuple {d : PyData} (h : instD d "tuple" = false) : ∀ xs, d ≠ .tuple xs := by
  rintro xs rfl
  simp [instD, tyName] at h
theorem tupD_3 {d : PyData} (h : tupD d 3 = true) : ∃ a b c, d = .tuple [a, b, c] := by
  cases d with
  | tuple xs =>
    unfold tupD at h
    have h : (xs.length : Int) = 3 := by simpa using h
    match xs, h with
    | [a, b, c], _ => exact ⟨a, b, c, rfl⟩
    | [], h => simp at h
    | [_], h => simp at h
    | [_, _], h => simp at h
    | _ :: _ :: _ :: _ :: _, h => simp at h; omega
  | _ => cases h
theorem wayD_no3 {d : PyData} {r p : Int} (h : tupD d 3 = false) : wayD d r p = false := by
  unfold wayD
  split
  · exfalso; simp [tupD] at h
  · rfl
theorem bookD_no3 {d : PyData} (h : tupD d 3 = false) : bookD d = false := by
  unfold bookD
  split
  · exfalso; simp [tupD] at h
  · rfl
theorem all_range {α : Type} (f : α → Bool) (xs : List α) (dflt : α) : ((List.range xs.length).map fun i => f (xs.getD i dflt)).all id = xs.all f := by
  rw [Bool.eq_iff_iff]
  simp only [List.all_eq_true, List.mem_map, List.mem_range]
  constructor
  · intro h x hx
    obtain ⟨i, hi, rfl⟩ := List.mem_iff_getElem.mp hx
    have := h _ ⟨i, hi, rfl⟩
    rw [List.getD_eq_getElem?_getD, List.getElem?_eq_getElem hi] at this
    exact this
  · rintro h b ⟨i, hi, rfl⟩
    rw [List.getD_eq_getElem?_getD, List.getElem?_eq_getElem hi]
    exact h _ (List.getElem_mem hi)
theorem map_bl (f : Nat → Bool) (l : List Nat) : (l.map fun i => V.bl (f i)) = (l.map f).map V.bl := by simp
end My

namespace My
open PySem PySem.Spec PyProof.Rows L2
/-! ## the jar of draws -/
def jarKV (c : Addr) (rest seed turn : Int) : List (Key × V) := [(Sum.inr "cells", V.ref c), (Sum.inr "rest", V.int rest), (Sum.inr "seed", V.int seed), (Sum.inr "turn", V.int turn)]
structure Jar (H : Hp) (p c : Addr) : Prop where
  ex : ∃ (ns : List Int) (rest seed turn : Int), H p = some (.dK (jarKV c rest seed turn)) ∧ H c = some (.lst (ns.map V.int)) ∧ ns.length ≤ 63 ∧ 0 ≤ seed ∧ seed < 2 ^ 64
theorem Jar.ne {H : Hp} {p c : Addr} (J : Jar H p c) : p ≠ c := by
  obtain ⟨ns, r, s, t, h1, h2, _⟩ := J.ex
  exact ne_of h1 h2 (by intro z; cases z)
theorem Jar.fresh {H : Hp} {p c l : Addr} (J : Jar H p c) (h : H l = none) : l ∉ [p, c] := by
  obtain ⟨ns, r, s, t, h1, h2, _⟩ := J.ex
  intro z
  rcases List.mem_cons.mp z with rfl | z
  · rw [h] at h1; cases h1
  · cases List.mem_singleton.mp z; rw [h] at h2; cases h2
theorem Jar.keep {H H' : Hp} {p c : Addr} (J : Jar H p c) (k : Kp [] H H') : Jar H' p c := by
  obtain ⟨ns, r, s, t, h1, h2, h3⟩ := J.ex
  exact ⟨ns, r, s, t, k _ _ h1 (by simp), k _ _ h2 (by simp), h3⟩
theorem str_cr : ¬ ((Sum.inr ("cells" : Str) : Key) = (Sum.inr ("rest" : Str) : Key)) := by intro h; injection h with h; revert h; decide +kernel
theorem str_cs : ¬ ((Sum.inr ("cells" : Str) : Key) = (Sum.inr ("seed" : Str) : Key)) := by intro h; injection h with h; revert h; decide +kernel
theorem str_ct : ¬ ((Sum.inr ("cells" : Str) : Key) = (Sum.inr ("turn" : Str) : Key)) := by intro h; injection h with h; revert h; decide +kernel
theorem str_rs : ¬ ((Sum.inr ("rest" : Str) : Key) = (Sum.inr ("seed" : Str) : Key)) := by intro h; injection h with h; revert h; decide +kernel
theorem str_rt : ¬ ((Sum.inr ("rest" : Str) : Key) = (Sum.inr ("turn" : Str) : Key)) := by intro h; injection h with h; revert h; decide +kernel
theorem str_st : ¬ ((Sum.inr ("seed" : Str) : Key) = (Sum.inr ("turn" : Str) : Key)) := by intro h; injection h with h; revert h; decide +kernel
section
variable (c : Addr) (r s t x : Int)
theorem jar_cells : valV (jarKV c r s t) (Sum.inr "cells") = some (V.ref c) := valV_pos rfl
theorem jar_rest : valV (jarKV c r s t) (Sum.inr "rest") = some (V.int r) := by
  unfold jarKV; rw [valV_neg str_cr]; exact valV_pos rfl
theorem jar_seed : valV (jarKV c r s t) (Sum.inr "seed") = some (V.int s) := by
  unfold jarKV; rw [valV_neg str_cs, valV_neg str_rs]; exact valV_pos rfl
theorem jar_turn : valV (jarKV c r s t) (Sum.inr "turn") = some (V.int t) := by
  unfold jarKV; rw [valV_neg str_ct, valV_neg str_rt, valV_neg str_st]; exact valV_pos rfl
theorem jar_put_rest : putK (jarKV c r s t) (Sum.inr "rest") (V.int x) = jarKV c x s t := by
  unfold putK
  rw [if_pos (by rw [valV_any, jar_rest]; rfl)]
  unfold jarKV
  simp only [List.map_cons, List.map_nil, if_neg str_cr, if_neg (Ne.symm str_rs), if_neg (Ne.symm str_rt), if_true]
theorem jar_put_seed : putK (jarKV c r s t) (Sum.inr "seed") (V.int x) = jarKV c r x t := by
  unfold putK
  rw [if_pos (by rw [valV_any, jar_seed]; rfl)]
  unfold jarKV
  simp only [List.map_cons, List.map_nil, if_neg str_cs, if_neg str_rs, if_neg (Ne.symm str_st), if_true]
theorem jar_put_turn : putK (jarKV c r s t) (Sum.inr "turn") (V.int x) = jarKV c r s x := by
  unfold putK
  rw [if_pos (by rw [valV_any, jar_turn]; rfl)]
  unfold jarKV
  simp only [List.map_cons, List.map_nil, if_neg str_ct, if_neg str_rt, if_neg str_st, if_true]
end
abbrev kC : Key := Sum.inr ("cells" : Str)
abbrev kR : Key := Sum.inr ("rest" : Str)
abbrev kS : Key := Sum.inr ("seed" : Str)
abbrev kT : Key := Sum.inr ("turn" : Str)
theorem jar_made (l : Addr) (r s t : Int) : mergeK [] [(kC, V.ref l), (kR, V.int r), (kS, V.int s), (kT, V.int t)] = jarKV l r s t := by
  have e1 : putK ([] : List (Key × V)) kC (V.ref l) = [] ++ [(kC, V.ref l)] := putK_new _ valV_nil
  have e2 : putK ([(kC, V.ref l)] : List (Key × V)) kR (V.int r) = [(kC, V.ref l)] ++ [(kR, V.int r)] := putK_new _ (by rw [valV_neg str_cr]; exact valV_nil)
  have e3 : putK ([(kC, V.ref l), (kR, V.int r)] : List (Key × V)) kS (V.int s) = [(kC, V.ref l), (kR, V.int r)] ++ [(kS, V.int s)] := putK_new _ (by rw [valV_neg str_cs, valV_neg str_rs]; exact valV_nil)
  have e4 : putK ([(kC, V.ref l), (kR, V.int r), (kS, V.int s)] : List (Key × V)) kT (V.int t) = [(kC, V.ref l), (kR, V.int r), (kS, V.int s)] ++ [(kT, V.int t)] := putK_new _ (by rw [valV_neg str_ct, valV_neg str_rt, valV_neg str_st]; exact valV_nil)
  unfold mergeK
  simp only [List.foldl]
  rw [e1, List.nil_append, e2, List.cons_append, List.nil_append, e3, List.cons_append, List.cons_append, List.nil_append, e4]
  rfl
structure JarX (H : Hp) (p c : Addr) (ns : List Int) (r sd tn : Int) : Prop where
  d : H p = some (.dK (jarKV c r sd tn))
  l : H c = some (.lst (ns.map V.int))
theorem JarX.ne {H : Hp} {p c : Addr} {ns : List Int} {r sd tn : Int} (J : JarX H p c ns r sd tn) : p ≠ c := ne_of J.d J.l (by intro z; cases z)
theorem JarX.new {H : Hp} {p c l : Addr} {ns : List Int} {r sd tn : Int} {o : HO} (J : JarX H p c ns r sd tn) (h : H l = none) : JarX (upd H l o) p c ns r sd tn :=
  ⟨by rw [upd_ne (ne_of_none J.d h)]; exact J.d, by rw [upd_ne (ne_of_none J.l h)]; exact J.l⟩
theorem JarX.put {H : Hp} {p c : Addr} {ns : List Int} {r sd tn : Int} (J : JarX H p c ns r sd tn) (r' sd' tn' : Int) : JarX (upd H p (.dK (jarKV c r' sd' tn'))) p c ns r' sd' tn' :=
  ⟨upd_same, by rw [upd_ne (Ne.symm J.ne)]; exact J.l⟩
theorem JarX.cut {H : Hp} {p c : Addr} {ns : List Int} {r sd tn : Int} (J : JarX H p c ns r sd tn) (ms : List Int) : JarX (upd H c (.lst (ms.map V.int))) p c ms r sd tn :=
  ⟨by rw [upd_ne J.ne]; exact J.d, upd_same⟩
theorem JarX.cells {H : Hp} {p c : Addr} {ns : List Int} {r sd tn : Int} (J : JarX H p c ns r sd tn) : DGet H p (V.str "cells") (some (V.ref c)) := by rw [← jar_cells c r sd tn]; exact DGet.k (k := Sum.inr "cells") J.d
theorem JarX.rest {H : Hp} {p c : Addr} {ns : List Int} {r sd tn : Int} (J : JarX H p c ns r sd tn) : DGet H p (V.str "rest") (some (V.int r)) := by rw [← jar_rest c r sd tn]; exact DGet.k (k := Sum.inr "rest") J.d
theorem JarX.seed {H : Hp} {p c : Addr} {ns : List Int} {r sd tn : Int} (J : JarX H p c ns r sd tn) : DGet H p (V.str "seed") (some (V.int sd)) := by rw [← jar_seed c r sd tn]; exact DGet.k (k := Sum.inr "seed") J.d
theorem JarX.turn {H : Hp} {p c : Addr} {ns : List Int} {r sd tn : Int} (J : JarX H p c ns r sd tn) : DGet H p (V.str "turn") (some (V.int tn)) := by rw [← jar_turn c r sd tn]; exact DGet.k (k := Sum.inr "turn") J.d
theorem JarX.pRest {H : Hp} {p c : Addr} {ns : List Int} {r sd tn : Int} (J : JarX H p c ns r sd tn) (x : Int) : DPut H p (V.str "rest") (V.int x) (upd H p (.dK (jarKV c x sd tn))) := by rw [← jar_put_rest c r sd tn x]; exact DPut.k (k := Sum.inr "rest") J.d (by show 4 < sizeLine; decide)
theorem JarX.pSeed {H : Hp} {p c : Addr} {ns : List Int} {r sd tn : Int} (J : JarX H p c ns r sd tn) (x : Int) : DPut H p (V.str "seed") (V.int x) (upd H p (.dK (jarKV c r x tn))) := by rw [← jar_put_seed c r sd tn x]; exact DPut.k (k := Sum.inr "seed") J.d (by show 4 < sizeLine; decide)
theorem JarX.pTurn {H : Hp} {p c : Addr} {ns : List Int} {r sd tn : Int} (J : JarX H p c ns r sd tn) (x : Int) : DPut H p (V.str "turn") (V.int x) (upd H p (.dK (jarKV c r sd x))) := by rw [← jar_put_turn c r sd tn x]; exact DPut.k (k := Sum.inr "turn") J.d (by show 4 < sizeLine; decide)
theorem JarX.jar {H : Hp} {p c : Addr} {ns : List Int} {r sd tn : Int} (J : JarX H p c ns r sd tn) (h1 : ns.length ≤ 63) (h2 : 0 ≤ sd) (h3 : sd < 2 ^ 64) : Jar H p c := ⟨ns, r, sd, tn, J.d, J.l, h1, h2, h3⟩
theorem Jar.x {H : Hp} {p c : Addr} (J : Jar H p c) : ∃ ns r sd tn, JarX H p c ns r sd tn ∧ ns.length ≤ 63 ∧ 0 ≤ sd ∧ sd < 2 ^ 64 := by
  obtain ⟨ns, r, sd, tn, h1, h2, h3⟩ := J.ex
  exact ⟨ns, r, sd, tn, ⟨h1, h2⟩, h3⟩
theorem seqIndex_0 (n : Nat) : seqIndex? 0 (n + 1) = some 0 := by
  unfold seqIndex?
  simp
theorem seq_by {t u : TS} {D : Ends} {σ : L2.St} {H : Hp} (Mid : L2.St → Hp → Prop) (h1 : ∀ N : L2.St → Hp → Prop, (∀ σ' H', Mid σ' H' → N σ' H') → t { D with nx := N } σ H) (h2 : ∀ σ' H', Mid σ' H' → u D σ' H') : tSeq t u D σ H := h1 _ h2
def two64 : Int := 18446744073709551616
def spMix : Sp := fun vs H Q _ => ∃ n : Int, vs = [.int n] ∧ 0 ≤ n ∧ n < 2 ^ 64 ∧ ∀ r : Int, 0 ≤ r → r < 2 ^ 64 → Q (.int r) H
def spJar (K : PySem.W.Frag) : Sp := fun vs H Q _ => ∃ (a : Addr) (ns : List Int), vs = [.ref a] ∧ SqL K H a (ns.map V.int) ∧ ns.length ≤ 63 ∧ ∀ p c H', Kp [] H H' → H p = none → H c = none → Jar H' p c → Q (.ref p) H'
def spPick : Sp := fun vs H Q _ => ∃ (p c : Addr) (many : Int), vs = [.ref p, .int many] ∧ Jar H p c ∧ 0 < many ∧ many < 2 ^ 9000 ∧ ∀ (r : Int) (H' : Hp), 0 ≤ r → r < many → Jar H' p c → Kp [p, c] H H' → Q (.int r) H'
theorem cutV_ints (ns : List Int) (lo hi : Option Int) : ∃ ms : List Int, cutV (ns.map V.int) lo hi = ms.map V.int ∧ ms.length ≤ ns.length := by
  unfold cutV
  refine ⟨_, by rw [← List.map_drop, ← List.map_take], ?_⟩
  rw [List.length_take, List.length_drop]
  omega
theorem canLay_ints : ∀ ns : List Int, PyData.canLayAll0 (ns.map PyData.int) = true
  | [] => rfl
  | n :: r => by rw [List.map_cons]; unfold PyData.canLayAll0; rw [canLay_ints r]; rfl
theorem eqv_nil : ∀ ns : List Int, PyData.eqv (.list (ns.map PyData.int)) (.list []) = ns.isEmpty
  | [] => rfl
  | _ :: _ => rfl
end My

namespace My
open PySem PySem.Spec PyProof.Rows L2
mutual
theorem Rep.mono {ex ex' : List Addr} {H : Hp} (h : ∀ b ∈ ex, b ∈ ex') : ∀ {d : PyData} {v : V}, Rep ex' H d v → Rep ex H d v
  | _, _, .none => .none
  | _, _, .bool b => .bool b
  | _, _, .int i => .int i
  | _, _, .str x => .str x
  | _, _, .tuple e n z r => .tuple e (fun q => n (h _ q)) z (Reps.mono h r)
  | _, _, .list e n z r => .list e (fun q => n (h _ q)) z (Reps.mono h r)
theorem Reps.mono {ex ex' : List Addr} {H : Hp} (h : ∀ b ∈ ex, b ∈ ex') : ∀ {ds : List PyData} {vs : List V}, Reps ex' H ds vs → Reps ex H ds vs
  | _, _, .nil => .nil
  | _, _, .cons r t => .cons (Rep.mono h r) (Reps.mono h t)
end
theorem at_P {P : Int → Prop} (ns : List Int) {i : Int} (h : ∀ n ∈ ns, P n) (h0 : 0 ≤ i) (h1 : i < ns.length) : ∃ n, atI (ns.map V.int) i = some (V.int n) ∧ P n := by
  have hk : i.toNat < ns.length := by omega
  have e : i = ((i.toNat : Nat) : Int) := by omega
  refine ⟨ns[i.toNat], ?_, h _ (List.getElem_mem hk)⟩
  have q : atI (ns.map V.int) ((i.toNat : Nat) : Int) = some (V.int ns[i.toNat]) := atI_nat (by rw [List.getElem?_map, List.getElem?_eq_getElem hk]; rfl)
  rw [← e] at q
  exact q
theorem at_any (ns : List Int) {i : Int} (h0 : 0 ≤ i) (h1 : i < ns.length) : ∃ n, atI (ns.map V.int) i = some (V.int n) := by
  obtain ⟨n, e, _⟩ := at_P (P := fun _ => True) ns (fun _ _ => trivial) h0 h1
  exact ⟨n, e⟩
/-- a new tuple of data -/
theorem Rep.newT {ex : List Addr} {H : Hp} {ds : List PyData} {xs : List V} {t : Addr} (r : Reps ex H ds xs) (h : H t = none) (hn : t ∉ ex) (z : xs.length ≤ sizeLine) : Rep ex (upd H t (.tup xs)) (.tuple ds) (.ref t) :=
  .tuple upd_same hn z (r.keep (Kp.new h _))
theorem Rep.newL {ex : List Addr} {H : Hp} {ds : List PyData} {xs : List V} {t : Addr} (r : Reps ex H ds xs) (h : H t = none) (hn : t ∉ ex) (z : xs.length ≤ sizeLine) : Rep ex (upd H t (.lst xs)) (.list ds) (.ref t) :=
  .list upd_same hn z (r.keep (Kp.new h _))
theorem Jar.kp {H H' : Hp} {p c : Addr} (J : Jar H p c) (k : Kp [] H H') : Jar H' p c := J.keep k
theorem Jar.new {H : Hp} {p c l : Addr} {o : HO} (J : Jar H p c) (h : H l = none) : Jar (upd H l o) p c := J.keep (Kp.new h _)
theorem Kp.free {H H' : Hp} {ex : List Addr} {l : Addr} (k : Kp ex H H') (h : H' l = none) (hn : l ∉ ex) : H l = none := by
  cases e : H l with
  | none => rfl
  | some o => rw [k l o e hn] at h; cases h
theorem rRepT_by {K : PySem.W.Frag} {a : Addr} {k : Int} {xs : List V} {H : Hp} {Q : VK} (e : H a = some (.tup xs)) (hne : xs ≠ []) (h1 : -(2 ^ 63) ≤ k) (hz : (xs.length : Int) * k ≤ sizeLine)
    (h : ∀ t H', Kp [] H H' → H' t = some (.tup (List.replicate k.toNat xs).flatten) → (t = a ∨ H t = none) → Q (.ref t) H') : rRepT K (.ref a) (.int k) H Q := by
  refine ⟨a, k, xs, rfl, rfl, SqT.of e, hne, h1, hz, fun k1 => ?_, fun _ p hp => h p _ (Kp.new hp _) upd_same (.inr hp)⟩
  subst k1
  exact h a H .refl (by rw [e]; simp) (.inl rfl)
theorem flat1 {α : Type} (n : Nat) (x : α) : (List.replicate n [x]).flatten = List.replicate n x := by
  induction n with
  | zero => rfl
  | succ n ih => rw [List.replicate_succ, List.flatten_cons, ih, List.replicate_succ]; rfl
theorem Reps.repl {ex : List Addr} {H : Hp} {d : PyData} {v : V} (r : Rep ex H d v) : ∀ n : Nat, Reps ex H (List.replicate n d) (List.replicate n v)
  | 0 => .nil
  | n + 1 => .cons r (Reps.repl r n)
theorem Jar.upd {H : Hp} {p c l : Addr} {o : HO} (J : Jar H p c) (h : l ∉ [p, c]) : Jar (L2.upd H l o) p c := by
  obtain ⟨ns, r, sd, tn, h1, h2, h3⟩ := J.ex
  refine ⟨ns, r, sd, tn, ?_, ?_, h3⟩
  · rw [upd_ne (fun z => h (by rw [← z]; simp))]; exact h1
  · rw [upd_ne (fun z => h (by rw [← z]; simp))]; exact h2
theorem cutV_take (xs : List V) (k : Nat) : cutV xs none (some (k : Int)) = xs.take k := by
  unfold cutV
  rw [HT.sIx_none, HT.sIx_nat, List.drop_zero, Nat.sub_zero]
  rcases Nat.le_total k xs.length with h | h
  · rw [Nat.min_eq_left h]
  · rw [Nat.min_eq_right h, List.take_of_length_le (Nat.le_refl _), List.take_of_length_le h]
theorem ixN_of {n : Nat} {i : Int} (h0 : 0 ≤ i) (h1 : i < n) : ixN n i = some i.toNat := by
  unfold ixN; rw [if_pos h0, if_pos h1]
def spLaw (K : PySem.W.Frag) : Sp := fun vs H Q _ => ∃ (a : Addr) (ns : List Int), vs = [.ref a] ∧ SqL K H a (ns.map V.int) ∧ ns.length ≤ 63 ∧ ∀ H', Q (.bl true) H'
/-- a thing and whether it is a book -/
def spTD : Sp := fun vs H Q _ => ∃ (p c : Addr), vs = [.ref p] ∧ Jar H p c ∧ ∀ (d : PyData) (v : V) (t : Addr) (H' : Hp), Jar H' p c → Kp [p, c] H H' → H' t = some (.tup [v, .bl (bookD d)]) → Rep [p, c] H' d v → Q (.ref t) H'
theorem small4 {α : Type} {l : List α} (h : l.length ≤ 1000) : l.length ≤ sizeLine := Nat.le_of_lt (small1000 h)
theorem book_rooms (r one other : Int) : bookD (.tuple [.int r, .int 1, .tuple [.tuple [.int one, .int other, .tuple [.int 0]]]]) = ((decide (1 ≤ r) && decide (r ≤ 12)) && ((decide (0 ≤ one) && decide (one < r)) && (decide (0 ≤ other) && decide (other < r)))) := by
  have e1 : decide (one ≤ r - 1) = decide (one < r) := by rw [decide_eq_decide]; omega
  have e2 : decide (other ≤ r - 1) = decide (other < r) := by rw [decide_eq_decide]; omega
  simp [bookD, wayD, betwD, gainsD, e1, e2]
theorem all_rep (n : Nat) : (List.replicate n (PyData.int 1)).all (fun x => betwD x (-99) 99) = true := by
  rw [List.all_eq_true]
  intro x hx
  rw [(List.mem_replicate.mp hx).2]
  rfl
theorem book_purses (q m : Int) (hm : 0 ≤ m) : bookD (.tuple [.int 2, .int q, .tuple [.tuple [.int 0, .int 1, .tuple (List.replicate m.toNat (.int 1))]]]) = ((decide (1 ≤ q) && decide (q ≤ 6)) && decide (m = q)) := by
  have e : decide (((m.toNat : Nat) : Int) = q) = decide (m = q) := by rw [Int.toNat_of_nonneg hm]
  simp only [bookD, wayD, gainsD, List.length_replicate, all_rep, e, List.all_cons, List.all_nil, Bool.and_true]
  simp [betwD]
theorem book_gains (j : Nat) (a : Int) (hj : j < 3) : bookD (.tuple [.int 1, .int 3, .tuple [.tuple [.int 0, .int 0, .tuple [.int 0, .int 0, .int 0]], .tuple [.int 0, .int 0, .tuple (([0, 0, 0].set j a).map PyData.int)]]]) = (decide (-99 ≤ a) && decide (a ≤ 99)) := by
  match j, hj with
  | 0, _ => simp [bookD, wayD, betwD, gainsD]
  | 1, _ => simp [bookD, wayD, betwD, gainsD]
  | 2, _ => simp [bookD, wayD, betwD, gainsD]
theorem book_ways (ws : List PyData) (h : ws.all (fun x => wayD x 2 1) = true) : bookD (.tuple [.int 2, .int 1, .tuple ws]) = decide ((ws.length : Int) ≤ 60) := by
  have e : bookD (.tuple [.int 2, .int 1, .tuple ws]) = (decide ((ws.length : Int) ≤ 60) && ws.all fun x => wayD x 2 1) := by
    simp [bookD, betwD]
  rw [e, h, Bool.and_true]
end My

namespace L2
open PySem PySem.Spec PyProof.Rows
theorem assign_sub_gen (o i : Expr) (pos : Pos) (env : Env) (v : Value) : assign (.Subscript o i pos) env v = (do
      let ov ← holding [v] (eval o env)
      let iv ← holding [v, ov] (eval i env)
      standAt pos
      holding [v, ov, iv] (setItem ov iv v)
      release (match i with | .Slice _ _ none _ => [iv, v, ov] | _ => [v, ov, iv]) []) := rfl
theorem assign_sub_call (o f : Expr) (args : List Expr) (kws : List Keyword) (p pos : Pos) (env : Env) (v : Value) : assign (.Subscript o (.Call f args kws p) pos) env v = (do
      let ov ← holding [v] (eval o env)
      let iv ← holding [v, ov] (eval (.Call f args kws p) env)
      standAt pos
      holding [v, ov, iv] (setItem ov iv v)
      release [v, ov, iv] []) := assign_sub_gen _ _ _ _ _
theorem assign_sub_name (o : Expr) (x : Str) (p pos : Pos) (env : Env) (v : Value) : assign (.Subscript o (.Name x p) pos) env v = (do
      let ov ← holding [v] (eval o env)
      let iv ← holding [v, ov] (eval (.Name x p) env)
      standAt pos
      holding [v, ov, iv] (setItem ov iv v)
      release [v, ov, iv] []) := assign_sub_gen _ _ _ _ _
section
variable {X : Cx} {es : List Expr} {te : TE} {t : TA} {pos : Pos}
theorem pa_tuple {xs : List Expr} {k : Nat} (ha : PE X (.Tuple xs k pos) te) (hr : PA X es t) : PA X (.Tuple xs k pos :: es) (tCons te t) := pa_cons ha hr rfl
theorem pa_list {xs : List Expr} (ha : PE X (.List xs pos) te) (hr : PA X es t) : PA X (.List xs pos :: es) (tCons te t) := pa_cons ha hr rfl
theorem pa_const {k : Const} {j : Nat} (ha : PE X (.Constant k j pos) te) (hr : PA X es t) : PA X (.Constant k j pos :: es) (tCons te t) := pa_cons ha hr rfl
theorem pa_name {x : Str} (ha : PE X (.Name x pos) te) (hr : PA X es t) : PA X (.Name x pos :: es) (tCons te t) := pa_cons ha hr rfl
theorem pa_call {f : Expr} {xs : List Expr} {ks : List Keyword} (ha : PE X (.Call f xs ks pos) te) (hr : PA X es t) : PA X (.Call f xs ks pos :: es) (tCons te t) := pa_cons ha hr rfl
theorem pa_binop {a b : Expr} {op : Operator} (ha : PE X (.BinOp a op b pos) te) (hr : PA X es t) : PA X (.BinOp a op b pos :: es) (tCons te t) := pa_cons ha hr rfl
theorem pa_unary {a : Expr} {op : UnaryOp} (ha : PE X (.UnaryOp op a pos) te) (hr : PA X es t) : PA X (.UnaryOp op a pos :: es) (tCons te t) := pa_cons ha hr rfl
theorem pa_cmp {a : Expr} {ops : List CmpOp} {bs : List Expr} (ha : PE X (.Compare a ops bs pos) te) (hr : PA X es t) : PA X (.Compare a ops bs pos :: es) (tCons te t) := pa_cons ha hr rfl
theorem pa_bool {op : BoolOp} {vs : List Expr} (ha : PE X (.BoolOp op vs pos) te) (hr : PA X es t) : PA X (.BoolOp op vs pos :: es) (tCons te t) := pa_cons ha hr rfl
theorem pa_if {a b c : Expr} (ha : PE X (.IfExp a b c pos) te) (hr : PA X es t) : PA X (.IfExp a b c pos :: es) (tCons te t) := pa_cons ha hr rfl
theorem pa_sub {a b : Expr} (ha : PE X (.Subscript a b pos) te) (hr : PA X es t) : PA X (.Subscript a b pos :: es) (tCons te t) := pa_cons ha hr rfl
theorem pa_comp {e : Expr} {gs : List Comprehension} {sc : Scope} (ha : PE X (.ListComp e gs sc pos) te) (hr : PA X es t) : PA X (.ListComp e gs sc pos :: es) (tCons te t) := pa_cons ha hr rfl
end
structure PEs (X : Cx) (e : Expr) (t : TE) : Prop where
  out : PE X e t
structure PAs (X : Cx) (es : List Expr) (t : TA) : Prop where
  out : PA X es t
section
variable {X : Cx} {es : List Expr} {te : TE} {t : TA} {pos : Pos}
theorem pes_of {e : Expr} (h : PE X e te) : PEs X e te := ⟨h⟩
theorem pes_tup {k : Nat} (h : PAs X es t) : PEs X (.Tuple es k pos) (tTup t) := ⟨pe_tup h.out⟩
theorem pes_lst (h : PAs X es t) : PEs X (.List es pos) (tLst t) := ⟨pe_lst h.out⟩
theorem pes_int {i : Int} {j : Nat} : PEs X (.Constant (.int i) j pos) (tC (.int i)) := ⟨pe_int⟩
theorem pes_str {i : Str} {j : Nat} : PEs X (.Constant (.str i) j pos) (tC (.str i)) := ⟨pe_str⟩
theorem pes_bl {i : Bool} {j : Nat} : PEs X (.Constant (.bool i) j pos) (tC (.bl i)) := ⟨pe_bl⟩
theorem pes_non {j : Nat} : PEs X (.Constant .none j pos) (tC .non) := ⟨pe_non⟩
theorem pas_nil : PAs X [] tNil := ⟨pa_nil⟩
theorem pas_tuple {xs : List Expr} {k : Nat} (ha : PEs X (.Tuple xs k pos) te) (hr : PAs X es t) : PAs X (.Tuple xs k pos :: es) (tCons te t) := ⟨pa_tuple ha.out hr.out⟩
theorem pas_list {xs : List Expr} (ha : PEs X (.List xs pos) te) (hr : PAs X es t) : PAs X (.List xs pos :: es) (tCons te t) := ⟨pa_list ha.out hr.out⟩
theorem pas_const {k : Const} {j : Nat} (ha : PEs X (.Constant k j pos) te) (hr : PAs X es t) : PAs X (.Constant k j pos :: es) (tCons te t) := ⟨pa_const ha.out hr.out⟩
theorem pas_name {x : Str} (ha : PEs X (.Name x pos) te) (hr : PAs X es t) : PAs X (.Name x pos :: es) (tCons te t) := ⟨pa_name ha.out hr.out⟩
theorem pas_call {f : Expr} {xs : List Expr} {ks : List Keyword} (ha : PEs X (.Call f xs ks pos) te) (hr : PAs X es t) : PAs X (.Call f xs ks pos :: es) (tCons te t) := ⟨pa_call ha.out hr.out⟩
theorem pas_binop {a b : Expr} {op : Operator} (ha : PEs X (.BinOp a op b pos) te) (hr : PAs X es t) : PAs X (.BinOp a op b pos :: es) (tCons te t) := ⟨pa_binop ha.out hr.out⟩
theorem pas_unary {a : Expr} {op : UnaryOp} (ha : PEs X (.UnaryOp op a pos) te) (hr : PAs X es t) : PAs X (.UnaryOp op a pos :: es) (tCons te t) := ⟨pa_unary ha.out hr.out⟩
theorem pas_cmp {a : Expr} {ops : List CmpOp} {bs : List Expr} (ha : PEs X (.Compare a ops bs pos) te) (hr : PAs X es t) : PAs X (.Compare a ops bs pos :: es) (tCons te t) := ⟨pa_cmp ha.out hr.out⟩
theorem pas_bool {op : BoolOp} {vs : List Expr} (ha : PEs X (.BoolOp op vs pos) te) (hr : PAs X es t) : PAs X (.BoolOp op vs pos :: es) (tCons te t) := ⟨pa_bool ha.out hr.out⟩
theorem pas_if {a b c : Expr} (ha : PEs X (.IfExp a b c pos) te) (hr : PAs X es t) : PAs X (.IfExp a b c pos :: es) (tCons te t) := ⟨pa_if ha.out hr.out⟩
theorem pas_sub {a b : Expr} (ha : PEs X (.Subscript a b pos) te) (hr : PAs X es t) : PAs X (.Subscript a b pos :: es) (tCons te t) := ⟨pa_sub ha.out hr.out⟩
theorem pas_comp {e : Expr} {gs : List Comprehension} {sc : Scope} (ha : PEs X (.ListComp e gs sc pos) te) (hr : PAs X es t) : PAs X (.ListComp e gs sc pos :: es) (tCons te t) := ⟨pa_comp ha.out hr.out⟩
end
end L2
namespace L2
open PySem PySem.Spec PyProof.Rows
/-- a def of the text, from what the top has written -/
theorem def_mk {K : PySem.W.Frag} {h : Heap} {mg : Str → Option Value} {x : Str} {st : Stmt} {ps : List Str} {f : Addr} {oc : Value} {od an : Option Addr} {osl : Array (Option Value)} {kV doc pm cdv ct : Value} (X : K.In h) (G : h.Ns mainGlobals mg)
    (a : PySem.W.nsIn K mainGlobals x = some (some (.ref f))) (l : K.lookup f = some ⟨oc, od, .func (PySem.W.fnOf x x (defArgs st) (defBody st) (defScope st) .none kV doc pm an cdv ct), osl⟩) (c : PySem.W.codeIn K cdv x = true) (k : PySem.W.keepIn K (.ref f) = true)
    (hb : ∀ (kV doc pm : Value) (an : Option Addr) (cdv ct : Value) (us : List Value), us.length = ps.length → bindArgs (PySem.W.fnOf x x (defArgs st) (defBody st) (defScope st) .none kV doc pm an cdv ct) ⟨us, []⟩ = pure (ps.zip us)) : Def K mg x st ps :=
  ⟨f, _, PySem.W.mg_of X G a, fun_mk (st := st) l c k, (fun_mk (st := st) l c k).binds hb⟩
theorem gint_mk {K : PySem.W.Frag} {h : Heap} {mg : Str → Option Value} {x : Str} {i : Int} {t : Tok} (X : K.In h) (G : h.Ns mainGlobals mg) (a : PySem.W.nsIn K mainGlobals x = some (some (.int i t))) : GInt mg x i := ⟨t, PySem.W.mg_of X G a⟩
end L2

namespace My
open PySem PySem.Spec PyProof.Rows L2
/-! ## a book as drawn -/
structure Way where
  a : Int
  b : Int
  g : List Int
def wayPD (w : Way) : PyData := .tuple [.int w.a, .int w.b, .tuple (w.g.map PyData.int)]
def bookPD (R P : Int) (ws : List Way) : PyData := .tuple [.int R, .int P, .tuple (ws.map wayPD)]
structure WayOk (R P : Int) (w : Way) : Prop where
  a0 : 0 ≤ w.a
  a1 : w.a < R
  b0 : 0 ≤ w.b
  b1 : w.b < R
  len : (w.g.length : Int) = P
  small : ∀ x ∈ w.g, -99 ≤ x ∧ x ≤ 99
structure BookOk (R P : Int) (ws : List Way) : Prop where
  r0 : 1 ≤ R
  r1 : R ≤ 12
  p0 : 1 ≤ P
  p1 : P ≤ 6
  len : ws.length ≤ 60
  ways : ∀ w ∈ ws, WayOk R P w
def spGain : Sp := fun vs H Q _ => ∃ (p c : Addr), vs = [.ref p] ∧ Jar H p c ∧ ∀ (r : Int) (H' : Hp), -99 ≤ r → r ≤ 99 → Jar H' p c → Kp [p, c] H H' → Q (.int r) H'
def spBookD : Sp := fun vs H Q _ => ∃ (p c : Addr) (mr mw : Int), vs = [.ref p, .int mr, .int mw] ∧ Jar H p c ∧ (1 ≤ mr ∧ mr ≤ 12) ∧ (0 ≤ mw ∧ mw ≤ 60) ∧
  ∀ (R P : Int) (ws : List Way) (v : V) (H' : Hp), BookOk R P ws → (ws.length : Int) ≤ mw → Jar H' p c → Kp [p, c] H H' → Rep [p, c] H' (bookPD R P ws) v → Q v H'
theorem small9000 {n : Int} (h : n ≤ 100000) : n < 2 ^ 9000 := Int.lt_of_le_of_lt h (by decide +kernel)
theorem not_mem3 {p c l t : Addr} {H : Hp} {o : HO} (J : Jar H p c) (hl : H l = some o) (ht : H t = none) : t ∉ [p, c, l] := by
  intro z
  rcases List.mem_cons.mp z with z | z
  · exact J.fresh ht (by rw [z]; simp)
  · rcases List.mem_cons.mp z with z | z
    · exact J.fresh ht (by rw [z]; simp)
    · rw [List.mem_singleton.mp z, hl] at ht; cases ht
end My

namespace L2
open PySem PySem.Spec PyProof.Rows
/-! ## sources that are drawn from: tuples (true) and lists (false) -/
section
variable {prog : Program} {w : World} {A : Around} {E : Value → Shared → Prop} {s : Shared}
theorem nextT_item {j t : Addr} {i : Nat} {vs : Array Value} {y : Value} {Q : Value → Shared → Prop} (g : s.heap.IsTupleIter j t i) (gt : s.heap.IsTuple t vs) (gy : vs[i]? = some y)
    (q : ∀ h', h'.IsTupleIter j t (i + 1) → Heap.SameBut j s.heap h' → Q y { s with heap := h' }) : wpAny (model prog w) A (Builtin.SmallTypes.nextOf (.ref j)) Q E s := by
  obtain ⟨oj, e1, e2, e3⟩ := id g
  obtain ⟨ot, e4, _, n4, e5⟩ := gt
  have goal2 : wpAny (model prog w) A.in1 (Builtin.«tuple_iterator.__next__» ⟨[.ref j], []⟩) (fun fin s' => ∃ v, fin = .done (.ret v) ∧ wpAny (model prog w) A (pure v) Q E s') E s := by
    show wpAny _ _ (field (.ref j) 0 >>= _) _ _ s
    refine wpAny_bind (wpAny_field e1 e3 (x := .ref t) rfl ?_)
    show wpAny _ _ (if (Value.ref t == Value.none) = true then _ else _) _ _ s; rw [if_neg (show ¬ ((Value.ref t == Value.none) = true) from fun z => Bool.noConfusion z)]
    show wpAny _ _ (field (.ref j) 1 >>= _) _ _ s
    refine wpAny_bind (wpAny_field e1 e3 (x := .int i 0) rfl ?_)
    show wpAny _ _ (seqItems? (.ref t) >>= _) _ _ s
    refine wpAny_bind (wpAny_seqItems e4 e5 ?_)
    simp only [Int.toNat_natCast, gy]
    refine wpAny_bind (wpAny_setField e1 e3 (by simp) (wpAny_pure ⟨y, rfl, wpAny_pure (q _ ⟨_, Heap.get?_update_self _ e1 (Obj.isFreed_of_fields (Obj.data_mapFields e3 _)), (Obj.cls_mapFields ..).trans e2, ?_⟩ (Heap.SameBut.update ..))⟩))
    rw [Obj.data_mapFields e3]; simp [rawInt]
  unfold Builtin.SmallTypes.nextOf
  exact wpAny_bind (wpAny_callSpecial?_slot (name := Str.ofString "__next__") g.typeIs F.slot_tuple_iterator_next (wpAny_call_entry F.slot_tuple_iterator_next g.typeIs F.entry_tuple_iterator_next goal2 (F.args_tuple_iterator_next_1 _)))
theorem nextT_end {j t : Addr} {i : Nat} {vs : Array Value} {Q : Value → Shared → Prop} (hh : A.handled = none) (g : s.heap.IsTupleIter j t i) (gt : s.heap.IsTuple t vs) (gy : vs[i]? = none)
    (q : ∀ h' e, Heap.ExtBut j s.heap h' → (∃ o, h'.get? e = some o ∧ o.cls = .type "StopIteration") → E (.ref e) { s with heap := h' }) : wpAny (model prog w) A (Builtin.SmallTypes.nextOf (.ref j)) Q E s := by
  obtain ⟨oj, e1, e2, e3⟩ := id g
  obtain ⟨ot, e4, _, n4, e5⟩ := gt
  unfold Builtin.SmallTypes.nextOf
  refine wpAny_bind (wpAny_callSpecial?_slot (name := Str.ofString "__next__") g.typeIs F.slot_tuple_iterator_next (wpAny_call_entry F.slot_tuple_iterator_next g.typeIs F.entry_tuple_iterator_next ?_ (F.args_tuple_iterator_next_1 _)))
  show wpAny _ _ (field (.ref j) 0 >>= _) _ _ s
  refine wpAny_bind (wpAny_field e1 e3 (x := .ref t) rfl ?_)
  show wpAny _ _ (if (Value.ref t == Value.none) = true then _ else _) _ _ s; rw [if_neg (show ¬ ((Value.ref t == Value.none) = true) from fun z => Bool.noConfusion z)]
  show wpAny _ _ (field (.ref j) 1 >>= _) _ _ s
  refine wpAny_bind (wpAny_field e1 e3 (x := .int i 0) rfl ?_)
  show wpAny _ _ (seqItems? (.ref t) >>= _) _ _ s
  refine wpAny_bind (wpAny_seqItems e4 e5 ?_)
  simp only [Int.toNat_natCast, gy]
  refine wpAny_bind (wpAny_rule (wpAny_bind (wpAny_setField e1 e3 (by simp) ?_)))
  show wpAny _ _ (newExc (.type "StopIteration") [] >>= _) _ _ _; refine wpAny_bind ?_; simp only [newExc, newTuple]
  refine wpAny_bind (wpAny_newObj_type ?_ (by size_fits)); refine wpAny_bind (m := firstArgMember _ _) (wpAny_of_eq (a := Value.none) (by first | rfl | (simp only [firstArgMember]; rfl)) ?_); refine wpAny_newObj_type ?_ (by size_fits)
  simp only [raiseNew]; refine wpAny_bind (wpAny_handled ?_); first | rw [show A.in1.handled = none from hh] | rw [hh]
  refine wpAny_bind (wpAny_pure (wpAny_throw (q _ _ (((Heap.SameBut.update ..).extBut.push _).push _) ⟨_, Heap.get?_push_size _ rfl, rfl⟩)))
end
/-- a tuple's or a list's items in the heap; its iterator -/
def SqAt (b : Bool) (h : Heap) (a : Addr) (vs : Array Value) : Prop := match b with | true => h.IsTuple a vs | false => h.IsList a vs
def ItAt (b : Bool) (h : Heap) (j a : Addr) (i : Nat) : Prop := match b with | true => h.IsTupleIter j a i | false => h.IsListIter j a i
theorem SqAt.at {b : Bool} {h h' : Heap} {a : Addr} {vs : Array Value} (x : SqAt b h a vs) (k : ∀ o, h.get? a = some o → h'.get? a = some o) : SqAt b h' a vs := by
  cases b with
  | true => exact let ⟨o, e, r⟩ := x; ⟨o, k o e, r⟩
  | false => exact let ⟨o, e, r⟩ := x; ⟨o, k o e, r⟩
theorem ItAt.at {b : Bool} {h h' : Heap} {j a : Addr} {i : Nat} (x : ItAt b h j a i) (k : ∀ o, h.get? j = some o → h'.get? j = some o) : ItAt b h' j a i := by
  cases b with
  | true => exact let ⟨o, e, r⟩ := x; ⟨o, k o e, r⟩
  | false => exact let ⟨o, e, r⟩ := x; ⟨o, k o e, r⟩
theorem ItAt.obj {b : Bool} {h : Heap} {j a : Addr} {i : Nat} (x : ItAt b h j a i) : ∃ o, h.get? j = some o ∧ ∀ v, o.data ≠ .cell v := by
  cases b with
  | true => exact let ⟨o, e, _, d⟩ := x; ⟨o, e, fun v z => by rw [d] at z; cases z⟩
  | false => exact let ⟨o, e, _, d⟩ := x; ⟨o, e, fun v z => by rw [d] at z; cases z⟩
theorem SqAt.lt {b : Bool} {h : Heap} {a : Addr} {vs : Array Value} (x : SqAt b h a vs) : a < h.objs.size := by
  cases b with
  | true => exact let ⟨o, e, r⟩ := x; Heap.lt_size e
  | false => exact let ⟨o, e, r⟩ := x; Heap.lt_size e
theorem draws_of {prog : Program} {w : World} {A : Around} (b : Bool) (hh : A.handled = none) (j a : Addr) (hne : a ≠ j) (vs : Array Value) :
    Draws prog w A j [j, a] vs.size (fun i v => vs[i]? = some v) (fun i h => ItAt b h j a i ∧ SqAt b h a vs) := by
  cases b with
  | false => exact Draws.list hh j a hne vs
  | true => exact {
      live := fun _ _ st => let ⟨o, ho, _⟩ := st.1; ⟨o, ho⟩
      frame := fun _ _ _ st hk => ⟨ItAt.at (b := true) st.1 fun o e => hk j (by simp) o e, SqAt.at (b := true) st.2 fun o e => hk a (by simp) o e⟩
      item := fun i s Q E hi st hQ => by
        have e : vs[i]? = some vs[i] := by simp [hi]
        exact nextT_item st.1 st.2 e fun h' g' sb => hQ _ h' s.toks e ⟨g', SqAt.at (b := true) st.2 fun o z => (sb.2 a hne).trans z⟩ sb
      done := fun s Q E st hE => nextT_end hh st.1 st.2 (by simp) hE }
theorem pyIter_kind {prog : Program} {w : World} {A : Around} {E : Value → Shared → Prop} {s : Shared} (b : Bool) {a : Addr} {vs : Array Value} {Q : Value → Shared → Prop} (x : SqAt b s.heap a vs)
    (q : ∀ o : Obj, o.isFreed = false → (∀ h : Heap, h.get? s.heap.objs.size = some o → ItAt b h s.heap.objs.size a 0) → Q (.ref s.heap.objs.size) { s with heap := s.heap.push o }) : wpAny (model prog w) A (pyIter (.ref a)) Q E s := by
  cases b with
  | true => exact wpAny_pyIter_tuple x (q _ rfl fun h e => ⟨_, e, rfl, rfl⟩)
  | false => exact wpAny_pyIter_list x (q _ rfl fun h e => ⟨_, e, rfl, rfl⟩)
/-! ### enumerate(x), zip(x, y): made -/
section
open AutoSeq1 (wpAny_loadPart')
theorem enumT_new (l : Addr) (vs : Array Value) (n : Nat) (dc : Option Addr) (sl : Array (Option Value)) :
    Meets (Builtin.«enumerate.__new__» ⟨[.type "enumerate", .ref l], []⟩) (fun _ R s => s.heap.get? l = some { cls := .type "tuple", dict := dc, data := .seq vs n, slots := sl } ∧
      R (.ok (.ret (.ref (s.heap.push { cls := .type "tuple_iterator", data := .fields #[.ref l, .int 0 0] }).objs.size)))
        { s with heap := (s.heap.push { cls := .type "tuple_iterator", data := .fields #[.ref l, .int 0 0] }).push { cls := .type "enumerate", data := .fields #[.none, .bool false, .ref s.heap.objs.size, rawInt 0, .none, .none] } }) :=
  .of_wp fun prog w A R s h => by
    obtain ⟨hp, g, d, tk, os⟩ := s; obtain ⟨hl, h⟩ := h; have hsub := sub_enumerate
    have hL : Heap.IsTuple (Shared.heap ⟨hp, g, d, tk, os⟩) l vs := ⟨_, hl, rfl, n, rfl⟩
    wp_walk using wpAny_loadPart' hl
    refine wpAny_stack_any fun st => wpAny_pure ?_
    split
    · rename_i c _ _ _ _ _
      cases (c == Value.type "enumerate") <;> (wp_walk using wpAny_loadPart' hl, wpAny_pyIter_tuple hL; exact ⟨_, rfl, h⟩)
    · wp_walk using wpAny_loadPart' hl, wpAny_pyIter_tuple hL
      exact ⟨_, rfl, h⟩
end
theorem call_enum {prog : Program} {w : World} {A : Around} {E : Value → Shared → Prop} {s : Shared} (b : Bool) {l : Addr} {vs : Array Value} {Q : Value → Shared → Prop} (x : SqAt b s.heap l vs)
    (q : ∀ h', IsEnum h' (s.heap.objs.size + 1) s.heap.objs.size 0 .none → ItAt b h' s.heap.objs.size l 0 → h'.objs.size = s.heap.objs.size + 2 →
      (∀ c o, s.heap.get? c = some o → h'.get? c = some o) → Q (.ref (s.heap.objs.size + 1)) { s with heap := h' }) :
    wpAny (model prog w) A (call (.type "enumerate") [.ref l]) Q E s := by
  cases b with
  | false => exact call_enumerate_list x q
  | true =>
    obtain ⟨⟨c, dc, dt, sl⟩, hl, hc, n, hd⟩ := x
    replace hc : c = .type "tuple" := hc
    replace hd : dt = .seq vs n := hd
    subst hc hd
    refine callType_new F.called_enumerate (by decide) (F.typeCall_enumerate_1 _) (F.newCall_enumerate_1 _) (fun obj => F.args_object_init_2 obj _) F.entry_enumerate_new (enumT_new l vs n dc sl) ⟨hl, ?_⟩
    have hz : (s.heap.push { cls := .type "tuple_iterator", data := .fields #[.ref l, .int 0 0] }).objs.size = s.heap.objs.size + 1 := Heap.size_push ..
    show _ ∧ _
    rw [hz]
    have he : IsEnum ((s.heap.push { cls := .type "tuple_iterator", data := .fields #[.ref l, .int 0 0] }).push { cls := .type "enumerate", data := .fields #[.none, .bool false, .ref s.heap.objs.size, rawInt 0, .none, .none] }) (s.heap.objs.size + 1) s.heap.objs.size 0 .none := by
      have z := Heap.get?_push_size (s.heap.push { cls := .type "tuple_iterator", data := .fields #[.ref l, .int 0 0] }) (o := { cls := .type "enumerate", data := .fields #[.none, .bool false, .ref s.heap.objs.size, rawInt 0, .none, .none] }) rfl
      rw [hz] at z; exact z
    exact ⟨⟨_, he, rfl⟩, q _ he ⟨_, Heap.get?_push_of_some _ (Heap.get?_push_size _ rfl), rfl, rfl⟩ (by rw [Heap.size_push, hz]) fun c o y => Heap.get?_push_of_some _ (Heap.get?_push_of_some _ y)⟩
/-- the iterator's record of a kind -/
def itObj (b : Bool) (l : Addr) : Obj := { cls := .type (match b with | true => "tuple_iterator" | false => "list_iterator"), data := .fields #[.ref l, .int 0 0] }
theorem itObj_at {b : Bool} {h : Heap} {j l : Addr} (e : h.get? j = some (itObj b l)) : ItAt b h j l 0 := by
  cases b with
  | true => exact ⟨_, e, rfl, rfl⟩
  | false => exact ⟨_, e, rfl, rfl⟩
theorem pyIter_itObj {prog : Program} {w : World} {A : Around} {E : Value → Shared → Prop} {s : Shared} {b : Bool} {a : Addr} {vs : Array Value} {Q : Value → Shared → Prop} (x : SqAt b s.heap a vs)
    (q : Q (.ref s.heap.objs.size) { s with heap := s.heap.push (itObj b a) }) : wpAny (model prog w) A (pyIter (.ref a)) Q E s := by
  cases b with
  | true => exact wpAny_pyIter_tuple x q
  | false => exact wpAny_pyIter_list x q
abbrev zz1 (b : Bool) (h : Heap) (l : Addr) : Heap := h.push (itObj b l)
abbrev zz2 (b b' : Bool) (h : Heap) (l m : Addr) : Heap := (zz1 b h l).push (itObj b' m)
abbrev zz3 (b b' : Bool) (h : Heap) (l m : Addr) : Heap := (zz2 b b' h l m).push { cls := .type "tuple", data := .seq #[.ref h.objs.size, .ref (zz1 b h l).objs.size] }
abbrev zz4 (b b' : Bool) (h : Heap) (l m : Addr) : Heap := (zz3 b b' h l m).push { cls := .type "tuple", data := .seq #[.none, .none] }
abbrev zz5 (b b' : Bool) (h : Heap) (l m : Addr) : Heap := (zz4 b b' h l m).push { cls := .type "zip", data := .fields #[.none, .bool false, .bool false, .ref (zz2 b b' h l m).objs.size, .ref (zz3 b b' h l m).objs.size] }
theorem zip_new (b b' : Bool) (l m : Addr) (xs ys : Array Value) :
    Meets (Builtin.«zip.__new__» ⟨[.type "zip", .ref l, .ref m], []⟩) (fun _ R s => SqAt b s.heap l xs ∧ SqAt b' s.heap m ys ∧
      R (.ok (.ret (.ref (zz4 b b' s.heap l m).objs.size))) { s with heap := zz5 b b' s.heap l m }) :=
  .of_wp fun prog w A R s h => by
    obtain ⟨hp, g, d, tk, os⟩ := s; obtain ⟨x1, x2, h⟩ := h
    have hsub := sub_zip
    have x1' : SqAt b (Shared.heap ⟨hp, g, d, tk, os⟩) l xs := x1
    have x2' : SqAt b' (Shared.heap ⟨hp.push (itObj b l), g, d, tk, os⟩) m ys := SqAt.at x2 fun o e => Heap.get?_push_of_some _ e
    wp_walk using pyIter_itObj x1', pyIter_itObj x2'
    exact ⟨_, rfl, h⟩
end L2

namespace L2
open PySem PySem.Spec PyProof.Rows
structure ZApart (z TI TO j1 j2 : Addr) (f1 f2 : List Addr) : Prop where
  m1 : j1 ∈ f1
  m2 : j2 ∈ f2
  z1 : z ∉ f1
  z2 : z ∉ f2
  o1 : TO ∉ f1
  o2 : TO ∉ f2
  q1 : j1 ∉ f2
  q2 : j2 ∉ f1
  iz : TI ≠ z
  io : TI ≠ TO
  i1 : TI ≠ j1
  i2 : TI ≠ j2
  oz : TO ≠ z
theorem ZApart.j1z {z TI TO j1 j2 : Addr} {f1 f2 : List Addr} (D : ZApart z TI TO j1 j2 f1 f2) : j1 ≠ z := fun e => D.z1 (e ▸ D.m1)
theorem ZApart.j2z {z TI TO j1 j2 : Addr} {f1 f2 : List Addr} (D : ZApart z TI TO j1 j2 f1 f2) : j2 ≠ z := fun e => D.z2 (e ▸ D.m2)
theorem ZApart.j1o {z TI TO j1 j2 : Addr} {f1 f2 : List Addr} (D : ZApart z TI TO j1 j2 f1 f2) : j1 ≠ TO := fun e => D.o1 (e ▸ D.m1)
theorem ZApart.j2o {z TI TO j1 j2 : Addr} {f1 f2 : List Addr} (D : ZApart z TI TO j1 j2 f1 f2) : j2 ≠ TO := fun e => D.o2 (e ▸ D.m2)
theorem ne_mem {a b : Addr} {l : List Addr} (h : a ∉ l) (hb : b ∈ l) : b ≠ a := fun e => h (e ▸ hb)
section
variable {prog : Program} {w : World} {A : Around} {E : Value → Shared → Prop} {s : Shared} {z TI TO j1 j2 : Addr} {f1 f2 : List Addr} {n1 n2 i : Nat} {P1 P2 : Nat → Value → Prop} {St1 St2 : Nat → Heap → Prop} {a b : Value}
theorem zipD_item {Q : Value → Shared → Prop} (D : ZApart z TI TO j1 j2 f1 f2) (D1 : Draws prog w A j1 f1 n1 P1 St1) (D2 : Draws prog w A j2 f2 n2 P2 St2) (hz : IsZip s.heap z TI TO .none) (hI : IsPair s.heap TI (.ref j1) (.ref j2)) (hO : IsPair s.heap TO a b)
    (st1 : St1 i s.heap) (st2 : St2 i s.heap) (l1 : i < n1) (l2 : i < n2)
    (q : ∀ x y h' tk, P1 i x → P2 i y → IsZip h' z TI TO (rawInt s.heap.objs.size) → IsPair h' TO x y → St1 (i + 1) h' → St2 (i + 1) h' → IsPair h' s.heap.objs.size x y → h'.objs.size = s.heap.objs.size + 1 →
      (∀ c o, c ≠ z → c ≠ TO → c ≠ j1 → c ≠ j2 → s.heap.get? c = some o → h'.get? c = some o) → Q (.ref s.heap.objs.size) { s with heap := h', toks := tk }) :
    wpAny (model prog w) A (Builtin.«zip.__next__» ⟨[.ref z], []⟩) (fun fin s' => ∃ v, fin = .done (.ret v) ∧ Q v s') E s := by
  obtain ⟨hp, gg, dd, t0, os⟩ := s
  show wpAny _ _ (field (.ref z) 2 >>= _) _ _ _; refine wpAny_bind (wpAny_field hz rfl (x := .bool false) rfl ?_)
  show wpAny _ _ (field (.ref z) 3 >>= _) _ _ _; refine wpAny_bind (wpAny_field hz rfl (x := .ref TI) rfl ?_)
  refine wpAny_bind (wpAny_seqItems hI rfl ?_)
  show wpAny _ _ (Builtin.SmallTypes.ownedTupleIsFree (.ref z) >>= _) _ _ _; refine wpAny_bind ?_; unfold Builtin.SmallTypes.ownedTupleIsFree
  refine wpAny_bind (wpAny_field hz rfl (x := .none) rfl (wpAny_pure ?_)); simp only [if_true]; refine wpAny_bind (wpAny_rule ?_)
  refine wpAny_bind (wpAny_field hz rfl (x := .ref TO) rfl ?_)
  refine wpAny_bind (wpAny_setField_rec hz (by simp) fun g1 z1 b1 => ?_); replace z1 : IsZip g1 z TI TO .ellipsis := z1; replace b1 : Heap.SameBut z hp g1 := b1
  refine wpAny_bind ?_; simp only [List.zipIdx_cons, List.zipIdx_nil, List.forIn_cons, List.forIn_nil]
  refine wpAny_bind (wpAny_bind (wpAny_onRaise ?_))
  show wpAny _ _ (Builtin.SmallTypes.nextOf (.ref j1) >>= _) _ _ _
  refine wpAny_bind (D1.item i _ _ _ l1 (D1.frame _ _ _ st1 fun c hc o e => b1.extBut c o (ne_mem D.z1 hc) e) fun x g2 t2 px s12 b2 => wpAny_pure ?_); replace b2 : Heap.SameBut j1 g1 g2 := b2
  have o2 : IsPair g2 TO a b := b2.extBut _ _ (Ne.symm D.j1o) (b1.extBut _ _ D.oz hO)
  refine wpAny_bind (wpAny_seqItems o2 rfl ?_)
  refine wpAny_bind (wpAny_updateSeq_pair o2 fun g3 o3 b3 => ?_); replace o3 : IsPair g3 TO x b := o3; replace b3 : Heap.SameBut TO g2 g3 := b3
  refine wpAny_bind (wpAny_letGo (wpAny_pure ?_)); refine wpAny_bind (wpAny_bind (wpAny_onRaise ?_))
  show wpAny _ _ (Builtin.SmallTypes.nextOf (.ref j2) >>= _) _ _ _
  refine wpAny_bind (D2.item i _ _ _ l2 (D2.frame _ _ _ st2 fun c hc o e => b3.extBut c o (ne_mem D.o2 hc) (b2.extBut c o (ne_mem D.q1 hc) (b1.extBut c o (ne_mem D.z2 hc) e))) fun y g4 t4 py s24 b4 => wpAny_pure ?_); replace b4 : Heap.SameBut j2 g3 g4 := b4
  have o4 : IsPair g4 TO x b := b4.extBut _ _ (Ne.symm D.j2o) o3
  refine wpAny_bind (wpAny_seqItems o4 rfl ?_)
  refine wpAny_bind (wpAny_updateSeq_pair o4 fun g5 o5 b5 => ?_); replace o5 : IsPair g5 TO x y := o5; replace b5 : Heap.SameBut TO g4 g5 := b5
  refine wpAny_bind (wpAny_letGo (wpAny_pure (wpAny_pure ?_)))
  refine wpAny_bind (wpAny_seqItems o5 rfl ?_); refine wpAny_bind (wpAny_newTuple ?_)
  have sz : g5.objs.size = hp.objs.size := by rw [b5.1, b4.1, b3.1, b2.1, b1.1]
  have z5 : IsZip g5 z TI TO .ellipsis := b5.extBut _ _ (Ne.symm D.oz) (b4.extBut _ _ (Ne.symm D.j2z) (b3.extBut _ _ (Ne.symm D.oz) (b2.extBut _ _ (Ne.symm D.j1z) z1)))
  have k5 : ∀ c o, c ≠ z → c ≠ TO → c ≠ j1 → c ≠ j2 → hp.get? c = some o → g5.get? c = some o := fun c o c1 c2 c3 c4 e => b5.extBut _ _ c2 (b4.extBut _ _ c4 (b3.extBut _ _ c2 (b2.extBut _ _ c3 (b1.extBut _ _ c1 e))))
  have s15 : St1 (i + 1) g5 := D1.frame _ _ _ s12 fun c hc o e => b5.extBut c o (ne_mem D.o1 hc) (b4.extBut c o (ne_mem D.q2 hc) (b3.extBut c o (ne_mem D.o1 hc) e))
  have s25 : St2 (i + 1) g5 := D2.frame _ _ _ s24 fun c hc o e => b5.extBut c o (ne_mem D.o2 hc) e
  have zl : z < g5.objs.size := Heap.lt_size z5
  show wpAny _ _ (Builtin.SmallTypes.ownedTupleHandOut (.ref z) (.ref g5.objs.size) >>= _) _ _ _; refine wpAny_bind ?_; unfold Builtin.SmallTypes.ownedTupleHandOut
  have z6 : IsZip (g5.push { cls := .type "tuple", data := .seq #[x, y] }) z TI TO .ellipsis := Heap.get?_push_of_some _ z5
  refine wpAny_bind (wpAny_setField_rec z6 (by simp) fun g7 z7 b7 => ?_); replace z7 : IsZip g7 z TI TO (rawInt g5.objs.size) := z7
  refine wpAny_setField_rec z7 (by simp) fun g8 z8 b8 => ?_; replace z8 : IsZip g8 z TI TO (rawInt g5.objs.size) := z8
  have up : ∀ c o, c ≠ z → g5.get? c = some o → g8.get? c = some o := fun c o c1 e => b8.extBut _ _ c1 (b7.extBut _ _ c1 (Heap.get?_push_of_some _ e))
  have t8 : IsPair g8 g5.objs.size x y := b8.extBut _ _ (Nat.ne_of_gt zl) (b7.extBut _ _ (Nat.ne_of_gt zl) (Heap.get?_push_size _ rfl))
  have s8 : g8.objs.size = g5.objs.size + 1 := by rw [b8.1, b7.1, Heap.size_push]
  rw [sz] at z8 t8 s8
  refine wpAny_pure ⟨_, rfl, ?_⟩; show Q (.ref g5.objs.size) _; rw [sz]
  exact q x y g8 t4 px py z8 (up _ _ D.oz o5) (D1.frame _ _ _ s15 fun c hc o e => up c o (ne_mem D.z1 hc) e) (D2.frame _ _ _ s25 fun c hc o e => up c o (ne_mem D.z2 hc) e) t8 s8 fun c o c1 c2 c3 c4 e => up c o c1 (k5 c o c1 c2 c3 c4 e)
theorem zipD_end {Q : Fin → Shared → Prop} (D : ZApart z TI TO j1 j2 f1 f2) (D1 : Draws prog w A j1 f1 n1 P1 St1) (D2 : Draws prog w A j2 f2 n2 P2 St2) (hz : IsZip s.heap z TI TO .none) (hI : IsPair s.heap TI (.ref j1) (.ref j2)) (hO : IsPair s.heap TO a b)
    (st1 : St1 i s.heap) (st2 : St2 i s.heap) (hend : i = n1 ∨ (i < n1 ∧ i = n2))
    (q : ∀ h' e tk, (∀ c o, c ≠ z → c ≠ TO → c ≠ j1 → c ≠ j2 → s.heap.get? c = some o → h'.get? c = some o) → (∃ o, h'.get? e = some o ∧ o.cls = .type "StopIteration") → E (.ref e) { s with heap := h', toks := tk }) :
    wpAny (model prog w) A (Builtin.«zip.__next__» ⟨[.ref z], []⟩) Q E s := by
  obtain ⟨hp, gg, dd, t0, os⟩ := s
  show wpAny _ _ (field (.ref z) 2 >>= _) _ _ _; refine wpAny_bind (wpAny_field hz rfl (x := .bool false) rfl ?_)
  show wpAny _ _ (field (.ref z) 3 >>= _) _ _ _; refine wpAny_bind (wpAny_field hz rfl (x := .ref TI) rfl ?_)
  refine wpAny_bind (wpAny_seqItems hI rfl ?_)
  show wpAny _ _ (Builtin.SmallTypes.ownedTupleIsFree (.ref z) >>= _) _ _ _; refine wpAny_bind ?_; unfold Builtin.SmallTypes.ownedTupleIsFree
  refine wpAny_bind (wpAny_field hz rfl (x := .none) rfl (wpAny_pure ?_)); simp only [if_true]; refine wpAny_bind (wpAny_rule ?_)
  refine wpAny_bind (wpAny_field hz rfl (x := .ref TO) rfl ?_)
  refine wpAny_bind (wpAny_setField_rec hz (by simp) fun g1 z1 b1 => ?_); replace z1 : IsZip g1 z TI TO .ellipsis := z1; replace b1 : Heap.SameBut z hp g1 := b1
  refine wpAny_bind ?_; simp only [List.zipIdx_cons, List.zipIdx_nil, List.forIn_cons, List.forIn_nil]
  refine wpAny_bind (wpAny_bind (wpAny_onRaise ?_))
  show wpAny _ _ (Builtin.SmallTypes.nextOf (.ref j1) >>= _) _ _ _
  have s11 := D1.frame _ _ _ st1 fun c hc o e => b1.extBut c o (ne_mem D.z1 hc) e
  rcases hend with he | ⟨l1, he⟩
  · subst he
    refine wpAny_bind (D1.done _ _ _ s11 fun g2 e b2 he => ?_)
    obtain ⟨oe, hoe, hce⟩ := he
    have z2 : IsZip g2 z TI TO .ellipsis := b2 _ _ (Ne.symm D.j1z) z1
    have ez : e ≠ z := fun x => by subst x; rw [z2] at hoe; cases hoe; simp at hce
    refine wpAny_setField_rec z2 (by simp) fun g3 _ b3 => ?_
    exact q g3 e t0 (fun c o c1 _ c3 _ x => b3.extBut _ _ c1 (b2 _ _ c3 (b1.extBut _ _ c1 x))) ⟨oe, b3.extBut _ _ ez hoe, hce⟩
  · subst he
    refine wpAny_bind (D1.item i _ _ _ l1 s11 fun x g2 t2 px s12 b2 => wpAny_pure ?_); replace b2 : Heap.SameBut j1 g1 g2 := b2
    have o2 : IsPair g2 TO a b := b2.extBut _ _ (Ne.symm D.j1o) (b1.extBut _ _ D.oz hO)
    refine wpAny_bind (wpAny_seqItems o2 rfl ?_)
    refine wpAny_bind (wpAny_updateSeq_pair o2 fun g3 o3 b3 => ?_); replace b3 : Heap.SameBut TO g2 g3 := b3
    refine wpAny_bind (wpAny_letGo (wpAny_pure ?_)); refine wpAny_bind (wpAny_bind (wpAny_onRaise ?_))
    show wpAny _ _ (Builtin.SmallTypes.nextOf (.ref j2) >>= _) _ _ _
    refine wpAny_bind (D2.done _ _ _ (D2.frame _ _ _ st2 fun c hc o e => b3.extBut c o (ne_mem D.o2 hc) (b2.extBut c o (ne_mem D.q1 hc) (b1.extBut c o (ne_mem D.z2 hc) e))) fun g4 e b4 he => ?_)
    obtain ⟨oe, hoe, hce⟩ := he
    have z4 : IsZip g4 z TI TO .ellipsis := b4 _ _ (Ne.symm D.j2z) (b3.extBut _ _ (Ne.symm D.oz) (b2.extBut _ _ (Ne.symm D.j1z) z1))
    have ez : e ≠ z := fun x => by subst x; rw [z4] at hoe; cases hoe; simp at hce
    refine wpAny_setField_rec z4 (by simp) fun g5 _ b5 => ?_
    exact q g5 e t2 (fun c o c1 c2 c3 c4 x => b5.extBut _ _ c1 (b4 _ _ c4 (b3.extBut _ _ c2 (b2.extBut _ _ c3 (b1.extBut _ _ c1 x))))) ⟨oe, b5.extBut _ _ ez hoe, hce⟩
theorem zipD_next_item {Q : Option Value → Shared → Prop} (D : ZApart z TI TO j1 j2 f1 f2) (D1 : Draws prog w A.in1 j1 f1 n1 P1 St1) (D2 : Draws prog w A.in1 j2 f2 n2 P2 St2) (hz : IsZip s.heap z TI TO .none) (hI : IsPair s.heap TI (.ref j1) (.ref j2)) (hO : IsPair s.heap TO a b)
    (st1 : St1 i s.heap) (st2 : St2 i s.heap) (l1 : i < n1) (l2 : i < n2)
    (q : ∀ x y h' tk, P1 i x → P2 i y → IsZip h' z TI TO (rawInt s.heap.objs.size) → IsPair h' TO x y → St1 (i + 1) h' → St2 (i + 1) h' → IsPair h' s.heap.objs.size x y → h'.objs.size = s.heap.objs.size + 1 →
      (∀ c o, c ≠ z → c ≠ TO → c ≠ j1 → c ≠ j2 → s.heap.get? c = some o → h'.get? c = some o) → Q (some (.ref s.heap.objs.size)) { s with heap := h', toks := tk }) :
    wpAny (model prog w) A (pyNext (.ref z)) Q E s := by
  have hT : s.TypeIs (.ref z) "zip" := ⟨_, hz, rfl⟩
  unfold pyNext
  exact wpAny_bind (wpAny_attempt (wpAny_callSpecial?_slot (name := Str.ofString "__next__") hT F.slot_zip_next (wpAny_call_entry F.slot_zip_next hT F.entry_zip_next
      (zipD_item D D1 D2 hz hI hO st1 st2 l1 l2 fun x y h' tk a1 a2 a3 a4 a5 a6 a7 a8 a9 => wpAny_pure (q x y h' tk a1 a2 a3 a4 a5 a6 a7 a8 a9)) (F.args_zip_next_1 _))))
theorem zipD_next_end {Q : Option Value → Shared → Prop} (D : ZApart z TI TO j1 j2 f1 f2) (D1 : Draws prog w A.in1 j1 f1 n1 P1 St1) (D2 : Draws prog w A.in1 j2 f2 n2 P2 St2) (hz : IsZip s.heap z TI TO .none) (hI : IsPair s.heap TI (.ref j1) (.ref j2)) (hO : IsPair s.heap TO a b)
    (st1 : St1 i s.heap) (st2 : St2 i s.heap) (hend : i = n1 ∨ (i < n1 ∧ i = n2))
    (q : ∀ h' tk, (∀ c o, c ≠ z → c ≠ TO → c ≠ j1 → c ≠ j2 → s.heap.get? c = some o → h'.get? c = some o) → Q none { s with heap := h', toks := tk }) : wpAny (model prog w) A (pyNext (.ref z)) Q E s := by
  have hT : s.TypeIs (.ref z) "zip" := ⟨_, hz, rfl⟩
  unfold pyNext
  refine wpAny_bind (wpAny_attempt (wpAny_callSpecial?_slot (name := Str.ofString "__next__") hT F.slot_zip_next (wpAny_call_entry F.slot_zip_next hT F.entry_zip_next (zipD_end D D1 D2 hz hI hO st1 st2 hend fun h' e tk hk he => ?_) (F.args_zip_next_1 _))))
  obtain ⟨o, ho, hc⟩ := he
  refine wpAny_bind (wpAny_isInstance (T := "StopIteration") (b := true) ⟨o, ho, hc⟩ isSubtype_stop ?_)
  exact wpAny_pure (q _ _ hk)
end
theorem call_zipK {prog : Program} {w : World} {A : Around} {E : Value → Shared → Prop} {s : Shared} (b b' : Bool) {l m : Addr} {xs ys : Array Value} {Q : Value → Shared → Prop} (x1 : SqAt b s.heap l xs) (x2 : SqAt b' s.heap m ys)
    (q : ∀ h', IsZip h' (s.heap.objs.size + 4) (s.heap.objs.size + 2) (s.heap.objs.size + 3) .none → IsPair h' (s.heap.objs.size + 2) (.ref s.heap.objs.size) (.ref (s.heap.objs.size + 1)) →
      IsPair h' (s.heap.objs.size + 3) .none .none → ItAt b h' s.heap.objs.size l 0 → ItAt b' h' (s.heap.objs.size + 1) m 0 → h'.objs.size = s.heap.objs.size + 5 →
      (∀ c o, s.heap.get? c = some o → h'.get? c = some o) → Q (.ref (s.heap.objs.size + 4)) { s with heap := h' }) :
    wpAny (model prog w) A (call (.type "zip") [.ref l, .ref m]) Q E s := by
  refine callType_new F.called_zip (by decide) (F.typeCall_zip_2 _ _) (F.newCall_zip_2 _ _) (fun obj => F.args_object_init_3 obj _ _) F.entry_zip_new (zip_new b b' l m xs ys) ⟨x1, x2, ?_⟩
  have y1 : (zz1 b s.heap l).objs.size = s.heap.objs.size + 1 := Heap.size_push ..
  have y2 : (zz2 b b' s.heap l m).objs.size = s.heap.objs.size + 2 := by rw [Heap.size_push, y1]
  have y3 : (zz3 b b' s.heap l m).objs.size = s.heap.objs.size + 3 := by rw [Heap.size_push, y2]
  have y4 : (zz4 b b' s.heap l m).objs.size = s.heap.objs.size + 4 := by rw [Heap.size_push, y3]
  have y5 : (zz5 b b' s.heap l m).objs.size = s.heap.objs.size + 5 := by rw [Heap.size_push, y4]
  have fr : ∀ b l, (itObj b l).isFreed = false := fun b l => by cases b <;> rfl
  have g5 : (zz5 b b' s.heap l m).get? (zz4 b b' s.heap l m).objs.size = some _ := Heap.get?_push_size _ rfl
  have g4 : (zz5 b b' s.heap l m).get? (zz3 b b' s.heap l m).objs.size = some _ := Heap.get?_push_of_some _ (Heap.get?_push_size _ rfl)
  have g3 : (zz5 b b' s.heap l m).get? (zz2 b b' s.heap l m).objs.size = some _ := Heap.get?_push_of_some _ (Heap.get?_push_of_some _ (Heap.get?_push_size _ rfl))
  have g2 : (zz5 b b' s.heap l m).get? (zz1 b s.heap l).objs.size = some _ := Heap.get?_push_of_some _ (Heap.get?_push_of_some _ (Heap.get?_push_of_some _ (Heap.get?_push_size _ (fr b' m))))
  have g1 : (zz5 b b' s.heap l m).get? s.heap.objs.size = some _ := Heap.get?_push_of_some _ (Heap.get?_push_of_some _ (Heap.get?_push_of_some _ (Heap.get?_push_of_some _ (Heap.get?_push_size _ (fr b l)))))
  show _ ∧ _
  rw [y2, y3, y4] at g5; rw [y1, y2] at g3; rw [y3] at g4; rw [y1] at g2; rw [y4]
  exact ⟨⟨_, g5, rfl⟩, q _ g5 g3 g4 (itObj_at g1) (itObj_at g2) y5 fun c o x => Heap.get?_push_of_some _ (Heap.get?_push_of_some _ (Heap.get?_push_of_some _ (Heap.get?_push_of_some _ (Heap.get?_push_of_some _ x))))⟩
end L2

namespace L2
open PySem PySem.Spec PyProof.Rows
def SqK (b : Bool) (K : PySem.W.Frag) (H : Hp) (a : Addr) (xs : List V) : Prop := match b with | true => SqT K H a xs | false => SqL K H a xs
section
variable {X : Cx} {pins : List (Addr × Obj)} {σ : St} {H : Hp} {s : Shared} {a c : Addr} {xs ys : List V} {b : Bool} {h' : Heap}
theorem Inv.seqK (I : Inv X pins σ H s) (h : SqK b X.K H a xs) : ∃ its : List Value, Vals xs its ∧ SqAt b s.heap a its.toArray ∧ xs.length ≤ sizeLine := by
  cases b with
  | true => exact let ⟨its, r, p, z⟩ := I.tuple h; ⟨its, r, p, z⟩
  | false => exact let ⟨its, r, p, z⟩ := I.list h; ⟨its, r, p.isList, z⟩
theorem Inv.seqK_inj (I : Inv X pins σ H s) (h : SqK b X.K H a xs) (h' : SqK b X.K H a ys) : xs = ys := by
  cases b with
  | true => exact I.tuple_inj h h'
  | false => exact I.list_inj h h'
theorem SqK.kp {K : PySem.W.Frag} {H' : Hp} (h : SqK b K H a xs) (k : Kp [] H H') : SqK b K H' a xs := by
  cases b with
  | true =>
    rcases h with (q | ⟨o, q⟩) | q
    · exact .inl (.inl (k _ _ q (by simp)))
    · exact .inl (.inr ⟨o, k _ _ q (by simp)⟩)
    · exact .inr q
  | false =>
    rcases h with (q | ⟨o, q⟩) | q
    · exact .inl (.inl (k _ _ q (by simp)))
    · exact .inl (.inr ⟨o, k _ _ q (by simp)⟩)
    · exact .inr q
theorem Inv.seqK_ne (I : Inv X pins σ H s) (h : SqK b X.K H a xs) (f : FpOk X pins H c) : a ≠ c := by
  have base : ∀ o, X.K.lookup a = some o → a ≠ c := fun o hk e => by
    have e1 := I.ok.mod.kin a o hk
    rcases f.2.2.2.1 with z | z
    · exact I.ok.noex a o e1 (e ▸ z)
    · exact absurd (Nat.lt_of_lt_of_le (Heap.lt_size e1) (Nat.le_trans I.ok.bsz (e ▸ z))) (Nat.lt_irrefl _)
  cases b with
  | true =>
    rcases h with (q | ⟨o, q⟩) | ⟨o, _, _, hk, _⟩
    · exact ne_of_none q f.1
    · exact ne_of_none q f.1
    · exact base o hk
  | false =>
    rcases h with (q | ⟨o, q⟩) | ⟨o, _, _, hk, _⟩
    · exact ne_of_none q f.1
    · exact ne_of_none q f.1
    · exact base o hk
/-- several untracked records of ours have turned -/
theorem Inv.turnedL {t' : Nat} {fp : List Addr} (I : Inv X pins σ H s) (k : ∀ b o, b ∉ fp → s.heap.get? b = some o → h'.get? b = some o) (hf : ∀ b ∈ fp, FpOk X pins H b) : Inv X pins σ H { s with heap := h', toks := t' } := by
  refine I.step (g' := s.gens) (d' := s.drawn) (ch := fp) (fun b hb => ⟨(hf b hb).2.2.2.1, (hf b hb).2.1, (hf b hb).2.2.2.2.1, (hf b hb).2.2.2.2.2⟩) (fun b o _ _ hc e _ => k b o hc e) (fun b o _ _ hc e _ => ⟨o.slots, k b o hc e⟩) (fun _ _ _ _ n => n)
    (fun b o hc e => ⟨o, k b o hc e⟩) (fun _ _ e => e) (fun _ _ _ e => e) (fun b ps e => ⟨#[], by rw [e]; simp⟩) (fun m hm => ?_) (fun b u e => ?_) I.bare
  · obtain ⟨o, es, ep, ho, r⟩ := hm
    exact ⟨o, es, ep, k _ o (fun z => (hf _ z).2.1 rfl) ho, r⟩
  · refine (I.hok b u e).stay (fun c v hc q => k c v (fun z => ?_) q) (fun _ q => q) fun _ _ q => q
    have hn := (hf c z).1
    rcases hc with hc | hc
    · rw [hc, e] at hn; cases hn
    · rw [hc] at hn; cases hn
/-- and a new object is laid -/
theorem Inv.turnLay {t' : Nat} {fp : List Addr} {p : Addr} {o : HO} (I : Inv X pins σ H s) (k : ∀ b o, b ∉ fp → s.heap.get? b = some o → h'.get? b = some o) (hf : ∀ b ∈ fp, FpOk X pins H b)
    (hp : s.heap.objs.size ≤ p) (new : ObjOk X.prog X.w (upd H p o) h' p o) : Inv X pins σ (upd H p o) { s with heap := h', toks := t' } := by
  have hn := I.hok.fresh hp
  refine I.step (g' := s.gens) (d' := s.drawn) (ch := fp) (fun b hb => ⟨(hf b hb).2.2.2.1, (hf b hb).2.1, (hf b hb).2.2.2.2.1, (hf b hb).2.2.2.2.2⟩) (fun b o _ _ hc e _ => k b o hc e) (fun b o _ _ hc e _ => ⟨o.slots, k b o hc e⟩) (fun b ob _ e n => ?_)
    (fun b o hc e => ⟨o, k b o hc e⟩) (fun b xs e => ?_) (fun b _ _ e => ?_) (fun b ps e => ⟨#[], ?_⟩) (fun m hm => ?_) (fun b u e => ?_) I.bare
  · have hbp : b ≠ p := Nat.ne_of_lt (Nat.lt_of_lt_of_le (Heap.lt_size e) hp); rw [upd_ne hbp]; exact n
  · rw [upd_ne (ne_of_none e hn)]; exact e
  · rw [upd_ne (ne_of_none e hn)]; exact e
  · rw [upd_ne (ne_of_none e hn)]; simpa using e
  · obtain ⟨o, es, ep, ho, r⟩ := hm
    exact ⟨o, es, ep, k _ o (fun z => (hf _ z).2.1 rfl) ho, r⟩
  · by_cases hb : b = p
    · subst hb
      rw [upd_same] at e; cases e
      exact new
    · rw [upd_ne hb] at e
      refine (I.hok b u e).stay (fun c v hc q => k c v (fun z => ?_) q) (fun c q => by rw [upd_ne (ne_of_none q hn)]; exact q) fun c _ q => by rw [upd_ne (ne_of_none q hn)]; exact q
      have hn := (hf c z).1
      rcases hc with hc | hc
      · rw [hc, e] at hn; cases hn
      · rw [hc] at hn; cases hn
end
/-- (i, x), x the i-th -/
def Ite (b : Bool) (K : PySem.W.Frag) (a : Addr) : It :=
  ⟨fun i H => ∃ xs x, SqK b K H a xs ∧ xs[i]? = some x, fun i H v H' => ∃ p y, H p = none ∧ H' = upd H p (.tup [.int i, y]) ∧ v = .ref p ∧ ∀ xs, SqK b K H a xs → xs[i]? = some y, fun i H => ∃ xs, SqK b K H a xs ∧ xs.length = i⟩
/-- (x, y), the i-th ones -/
def Itz (b b' : Bool) (K : PySem.W.Frag) (a c : Addr) : It :=
  ⟨fun i H => ∃ xs ys x y, SqK b K H a xs ∧ SqK b' K H c ys ∧ xs[i]? = some x ∧ ys[i]? = some y, fun i H v H' => ∃ p x y, H p = none ∧ H' = upd H p (.tup [x, y]) ∧ v = .ref p ∧ (∀ xs, SqK b K H a xs → xs[i]? = some x) ∧ ∀ ys, SqK b' K H c ys → ys[i]? = some y,
   fun i H => ∃ xs ys, SqK b K H a xs ∧ SqK b' K H c ys ∧ min xs.length ys.length = i⟩
theorem turn_enum {P : Program} {w : World} {K : PySem.W.Frag} {es : List Expr} {kk : Nat} {tp : Pos} (b : Bool) (a e j : Addr) (hej : e ≠ j) : Turn P w K (.Tuple es kk tp) (Ite b K a) [e, j] e (fun i h => (∃ old, IsEnum h e j i old) ∧ ItAt b h j a i) where
  mem := by simp
  obj := fun i h st c hc => by
    obtain ⟨⟨old, he⟩, hj⟩ := st
    rcases List.mem_cons.mp hc with rfl | hc
    · exact ⟨_, he, fun v z => by have z' : Data.fields _ = Data.cell v := z; cases z'⟩
    · rw [List.mem_singleton.mp hc]; exact hj.obj
  keep := fun i h h' st k => by
    obtain ⟨⟨old, he⟩, hj⟩ := st
    exact ⟨⟨old, k e (by simp) _ he⟩, hj.at fun o q => k j (by simp) o q⟩
  item := by
    intro X hP hw hK hc i pins s σ H E I hf st hg
    subst hP hw hK
    obtain ⟨xs, x, hq, hx⟩ := hg
    obtain ⟨its, rv, p, hz⟩ := I.seqK hq
    obtain ⟨u, hu, ru⟩ := rv.get hx
    obtain ⟨⟨old, he⟩, hj⟩ := st
    have nae := I.seqK_ne hq (hf e (by simp))
    have naj := I.seqK_ne hq (hf j (by simp))
    have hlt : i < its.toArray.size := by
      have := (List.getElem?_eq_some_iff.mp hu).1
      simpa using this
    refine wpAny_pyNext_enum_itemD (draws_of b (A := X.A.in1) (I.ok.hd hc) j a naj its.toArray) he ⟨hj, p⟩ hlt hej (by simp; exact ⟨hej, Ne.symm nae⟩) fun y h1 tk hP ho st1 hT hsz hk => ?_
    have ey : y = u := by
      have hP : its.toArray[i]? = some y := hP
      have : its[i]? = some y := by simpa using hP
      rw [hu] at this; exact (Option.some.inj this).symm
    subst ey
    refine ⟨_, rfl, wpAny_letOwnedTupleGo_enum ho fun h2 he2 hs2 => ?_⟩
    replace hs2 : Heap.SameBut e h1 h2 := hs2
    have hes : e < s.heap.objs.size := Heap.lt_size he
    have hjs : j < s.heap.objs.size := by obtain ⟨o, q, _⟩ := hj.obj; exact Heap.lt_size q
    have kk : ∀ c o, c ∉ [e, j] → s.heap.get? c = some o → h2.get? c = some o := fun c o hc q => by
      have h1' : c ≠ e := fun z => hc (by simp [z])
      exact hs2.extBut _ _ h1' (hk c o h1' (fun z => hc (by simp [z])) q)
    refine ⟨.ref s.heap.objs.size, upd H s.heap.objs.size (.tup [.int i, x]), I.turnLay (t' := tk + 1) kk hf (Nat.le_refl _) ?_, rfl, ⟨_, x, I.hok.fresh (Nat.le_refl _), rfl, rfl, fun ys hy => by rw [I.seqK_inj hy hq]; exact hx⟩, ⟨⟨y, by simpa using he2⟩, st1.1.at fun o q => hs2.extBut _ _ (Ne.symm hej) q⟩, fun c hc => ?_⟩
    · exact ⟨by simp [sizeLine_eq], [.int i tk, y], .cons ⟨tk, rfl⟩ (.cons ru .nil), _, hs2.extBut _ _ (Nat.ne_of_gt hes) hT, rfl, 0, rfl⟩
    · rw [upd_ne]
      · exact (hf c hc).1
      · rcases List.mem_cons.mp hc with rfl | hc
        · exact Nat.ne_of_lt hes
        · rw [List.mem_singleton.mp hc]; exact Nat.ne_of_lt hjs
  done := by
    intro X hP hw hK hc i pins s σ H E I hf st hg
    subst hP hw hK
    obtain ⟨xs, hq, hx⟩ := hg
    obtain ⟨its, rv, p, hz⟩ := I.seqK hq
    obtain ⟨⟨old, he⟩, hj⟩ := st
    have naj := I.seqK_ne hq (hf j (by simp))
    have hl := rv.length
    have hn : its.toArray.size = i := by simp; omega
    refine wpAny_pyNext_enum_endD (draws_of b (A := X.A.in1) (I.ok.hd hc) j a naj its.toArray) he (by rw [hn]; exact ⟨hj, p⟩) fun h1 hk => ⟨rfl, ?_⟩
    exact I.turnedL (t' := s.toks) (fun c o hc q => hk c o (fun z => hc (by simp [z])) q) hf
  self := fun _ _ _ _ _ st q => by
    obtain ⟨⟨old, he⟩, _⟩ := st
    exact wpAny_pyIter_enum he q
theorem turn_zip {P : Program} {w : World} {K : PySem.W.Frag} {es : List Expr} {kk : Nat} {tp : Pos} (b b' : Bool) (a c z TI TO j1 j2 : Addr) (dz : [z, TI, TO, j1, j2].Nodup) :
    Turn P w K (.Tuple es kk tp) (Itz b b' K a c) [z, TI, TO, j1, j2] z (fun i h => IsZip h z TI TO .none ∧ IsPair h TI (.ref j1) (.ref j2) ∧ (∃ u v, IsPair h TO u v) ∧ ItAt b h j1 a i ∧ ItAt b' h j2 c i) where
  mem := by simp
  obj := fun i h st d hd => by
    obtain ⟨hz, hI, ⟨u, v, hO⟩, h1, h2⟩ := st
    have notup : ∀ (o : Obj) {w : Value} {vs : Array Value} {n : Nat}, o.data = .seq vs n → o.data ≠ .cell w := fun o w vs n e z => by rw [e] at z; cases z
    rcases List.mem_cons.mp hd with rfl | hd
    · exact ⟨_, hz, fun v z => by have z' : Data.fields _ = Data.cell v := z; cases z'⟩
    · rcases List.mem_cons.mp hd with rfl | hd
      · exact ⟨_, hI, fun w z => by have z' : Data.seq _ _ = Data.cell w := z; cases z'⟩
      · rcases List.mem_cons.mp hd with rfl | hd
        · exact ⟨_, hO, fun w z => by have z' : Data.seq _ _ = Data.cell w := z; cases z'⟩
        · rcases List.mem_cons.mp hd with rfl | hd
          · exact h1.obj
          · rw [List.mem_singleton.mp hd]; exact h2.obj
  keep := fun i h h' st k => by
    obtain ⟨hz, hI, ⟨u, v, hO⟩, h1, h2⟩ := st
    exact ⟨k z (by simp) _ hz, k TI (by simp) _ hI, ⟨u, v, k TO (by simp) _ hO⟩, h1.at fun o q => k j1 (by simp) o q, h2.at fun o q => k j2 (by simp) o q⟩
  item := by
    intro X hP hw hK hc i pins s σ H E I hf st hg
    subst hP hw hK
    obtain ⟨xs, ys, x, y, hq, hq', hx, hy⟩ := hg
    obtain ⟨its, rv, p, _⟩ := I.seqK hq
    obtain ⟨its', rv', p', _⟩ := I.seqK hq'
    obtain ⟨u, hu, ru⟩ := rv.get hx
    obtain ⟨u', hu', ru'⟩ := rv'.get hy
    obtain ⟨hz, hI, ⟨o1, o2, hO⟩, h1, h2⟩ := st
    have na := fun d hd => I.seqK_ne hq (hf d hd)
    have na' := fun d hd => I.seqK_ne hq' (hf d hd)
    simp only [List.nodup_cons, List.mem_cons, List.not_mem_nil, or_false, not_or] at dz
    obtain ⟨⟨d1, d2, d3, d4⟩, ⟨d5, d6, d7⟩, ⟨d8, d9⟩, d10, _⟩ := dz
    have hlt : i < its.toArray.size := by have := (List.getElem?_eq_some_iff.mp hu).1; simpa using this
    have hlt' : i < its'.toArray.size := by have := (List.getElem?_eq_some_iff.mp hu').1; simpa using this
    have D : ZApart z TI TO j1 j2 [j1, a] [j2, c] := ⟨by simp, by simp, by simp; exact ⟨d3, Ne.symm (na z (by simp))⟩, by simp; exact ⟨d4, Ne.symm (na' z (by simp))⟩, by simp; exact ⟨d8, Ne.symm (na TO (by simp))⟩, by simp; exact ⟨d9, Ne.symm (na' TO (by simp))⟩,
      by simp; exact ⟨d10, Ne.symm (na' j1 (by simp))⟩, by simp; exact ⟨Ne.symm d10, Ne.symm (na j2 (by simp))⟩, Ne.symm d1, d5, d6, d7, Ne.symm d2⟩
    refine zipD_next_item D (draws_of b (A := X.A.in1) (I.ok.hd hc) j1 a (na j1 (by simp)) its.toArray) (draws_of b' (A := X.A.in1) (I.ok.hd hc) j2 c (na' j2 (by simp)) its'.toArray) hz hI hO ⟨h1, p⟩ ⟨h2, p'⟩ hlt hlt' fun v v' g1 tk e1 e2 z1 O1 s1 s2 T1 sz1 k1 => ?_
    have ev : v = u := by
      have e1 : its.toArray[i]? = some v := e1
      have : its[i]? = some v := by simpa using e1
      rw [hu] at this; exact (Option.some.inj this).symm
    have ev' : v' = u' := by
      have e2 : its'.toArray[i]? = some v' := e2
      have : its'[i]? = some v' := by simpa using e2
      rw [hu'] at this; exact (Option.some.inj this).symm
    subst ev ev'
    refine ⟨_, rfl, wpAny_letOwnedTupleGo_zip z1 fun g2 z2 b2 => ?_⟩
    replace b2 : Heap.SameBut z g1 g2 := b2
    have hzs : z < s.heap.objs.size := Heap.lt_size hz
    have kk : ∀ d o, d ∉ [z, TI, TO, j1, j2] → s.heap.get? d = some o → g2.get? d = some o := fun d o hd q => by
      have h1' : d ≠ z := fun e => hd (by simp [e])
      exact b2.extBut _ _ h1' (k1 d o h1' (fun e => hd (by simp [e])) (fun e => hd (by simp [e])) (fun e => hd (by simp [e])) q)
    refine ⟨.ref s.heap.objs.size, upd H s.heap.objs.size (.tup [x, y]), I.turnLay (t' := tk) kk hf (Nat.le_refl _) ?_, rfl, ⟨_, x, y, I.hok.fresh (Nat.le_refl _), rfl, rfl, fun zs hy => by rw [I.seqK_inj hy hq]; exact hx, fun zs hy' => by rw [I.seqK_inj hy' hq']; exact hy⟩,
      ⟨z2, b2.extBut _ _ (Ne.symm d1) (k1 _ _ (Ne.symm d1) d5 d6 d7 hI), ⟨_, _, b2.extBut _ _ (Ne.symm d2) O1⟩, s1.1.at fun o q => b2.extBut _ _ (Ne.symm d3) q, s2.1.at fun o q => b2.extBut _ _ (Ne.symm d4) q⟩, fun d hd => ?_⟩
    · exact ⟨by simp [sizeLine_eq], [v, v'], .cons ru (.cons ru' .nil), _, b2.extBut _ _ (Nat.ne_of_gt hzs) T1, rfl, 0, rfl⟩
    · have lt : d < s.heap.objs.size := by
        rcases List.mem_cons.mp hd with rfl | hd
        · exact hzs
        · rcases List.mem_cons.mp hd with rfl | hd
          · exact Heap.lt_size hI
          · rcases List.mem_cons.mp hd with rfl | hd
            · exact Heap.lt_size hO
            · rcases List.mem_cons.mp hd with rfl | hd
              · obtain ⟨o, q, _⟩ := h1.obj; exact Heap.lt_size q
              · rw [List.mem_singleton.mp hd]; obtain ⟨o, q, _⟩ := h2.obj; exact Heap.lt_size q
      rw [upd_ne (Nat.ne_of_lt lt)]
      exact (hf d hd).1
  done := by
    intro X hP hw hK hc i pins s σ H E I hf st hg
    subst hP hw hK
    obtain ⟨xs, ys, hq, hq', hm⟩ := hg
    obtain ⟨its, rv, p, _⟩ := I.seqK hq
    obtain ⟨its', rv', p', _⟩ := I.seqK hq'
    obtain ⟨hz, hI, ⟨o1, o2, hO⟩, h1, h2⟩ := st
    have na := fun d hd => I.seqK_ne hq (hf d hd)
    have na' := fun d hd => I.seqK_ne hq' (hf d hd)
    simp only [List.nodup_cons, List.mem_cons, List.not_mem_nil, or_false, not_or] at dz
    obtain ⟨⟨d1, d2, d3, d4⟩, ⟨d5, d6, d7⟩, ⟨d8, d9⟩, d10, _⟩ := dz
    have D : ZApart z TI TO j1 j2 [j1, a] [j2, c] := ⟨by simp, by simp, by simp; exact ⟨d3, Ne.symm (na z (by simp))⟩, by simp; exact ⟨d4, Ne.symm (na' z (by simp))⟩, by simp; exact ⟨d8, Ne.symm (na TO (by simp))⟩, by simp; exact ⟨d9, Ne.symm (na' TO (by simp))⟩,
      by simp; exact ⟨d10, Ne.symm (na' j1 (by simp))⟩, by simp; exact ⟨Ne.symm d10, Ne.symm (na j2 (by simp))⟩, Ne.symm d1, d5, d6, d7, Ne.symm d2⟩
    have hl := rv.length
    have hl' := rv'.length
    refine zipD_next_end D (draws_of b (A := X.A.in1) (I.ok.hd hc) j1 a (na j1 (by simp)) its.toArray) (draws_of b' (A := X.A.in1) (I.ok.hd hc) j2 c (na' j2 (by simp)) its'.toArray) hz hI hO ⟨h1, p⟩ ⟨h2, p'⟩ (by simp; omega) fun g1 tk k1 => ⟨rfl, ?_⟩
    exact I.turnedL (t' := tk) (fun d o hd q => k1 d o (fun e => hd (by simp [e])) (fun e => hd (by simp [e])) (fun e => hd (by simp [e])) (fun e => hd (by simp [e])) q) hf
  self := fun _ _ _ _ _ st q => wpAny_pyIter_zip st.1 q
section
variable {X : Cx} {es : List Expr} {kk : Nat} {tp : Pos}
def iEnum (K : PySem.W.Frag) (ta : TA) : TI := fun σ H R => ta σ H fun vs H1 => ∃ b l xs, vs = [.ref l] ∧ SqK b K H1 l xs ∧ R (Ite b K l) H1
def iZip (K : PySem.W.Frag) (ta : TA) : TI := fun σ H R => ta σ H fun vs H1 => ∃ b b' l m xs ys, vs = [.ref l, .ref m] ∧ SqK b K H1 l xs ∧ SqK b' K H1 m ys ∧ R (Itz b b' K l m) H1
theorem pi_enum {a : Expr} {ta : TA} {p pos : Pos} (hg : Gl X "enumerate") (hm : X.mg "enumerate" = none) (ha : PA X [a] ta) (hs : starEach [a] X.env = [(false, eval a X.env)] := by rfl) : PI X (.Tuple es kk tp) (.Call (.Name "enumerate" p) [a] [] pos) (iEnum X.K ta) := by
  intro pins s σ H R I h
  refine Call_ (ld_blt I hg hm boot_enumerate (PyProof.Rows.callWith_type1 (thn (ha pos pins s σ H _ I h) fun us s1 ⟨vs, H1, I1, r1, q1⟩ => ?_) hs rfl))
  obtain ⟨b, l, xs, e, hq, q⟩ := q1
  subst e
  obtain ⟨u, rfl, ru⟩ := vals1 r1
  cases ru
  obtain ⟨its, rv, p, _⟩ := I1.seqK hq
  refine call_enum b p fun h1 he hj hsz hk => wpAny_pyIter_enum he ?_
  refine ⟨_, [s1.heap.objs.size + 1, s1.heap.objs.size], _, _, H1, rfl, I1.kept (t' := s1.toks) hk, turn_enum b l _ _ (Nat.succ_ne_self _), ⟨⟨_, he⟩, hj⟩, fun c hc => ?_, q⟩
  rcases List.mem_cons.mp hc with rfl | hc
  · exact I1.fpOk (Nat.le_succ _) (I1.hok.fresh (Nat.le_succ _))
  · rw [List.mem_singleton.mp hc]; exact I1.fpOk (Nat.le_refl _) (I1.hok.fresh (Nat.le_refl _))
theorem pi_zip {a b : Expr} {ta : TA} {p pos : Pos} (hg : Gl X "zip") (hm : X.mg "zip" = none) (ha : PA X [a, b] ta) (hs : starEach [a, b] X.env = [(false, eval a X.env), (false, eval b X.env)] := by rfl) (hs2 : starEach [b] X.env = [(false, eval b X.env)] := by rfl) :
    PI X (.Tuple es kk tp) (.Call (.Name "zip" p) [a, b] [] pos) (iZip X.K ta) := by
  intro pins s σ H R I h
  refine Call_ (ld_blt I hg hm boot_zip (PyProof.Rows.callWith_type1 (thn (ha pos pins s σ H _ I h) fun us s1 ⟨vs, H1, I1, r1, q1⟩ => ?_) (by rw [hs, hs2]) (by rw [hs2]; rfl)))
  obtain ⟨b, b', l, m, xs, ys, e, hq, hq', q⟩ := q1
  subst e
  obtain ⟨u, u', rfl, ru, ru'⟩ := vals2 r1
  cases ru
  cases ru'
  obtain ⟨its, rv, p, _⟩ := I1.seqK hq
  obtain ⟨its', rv', p', _⟩ := I1.seqK hq'
  refine call_zipK b b' p p' fun h1 hz hI hO i1 i2 hsz hk => wpAny_pyIter_zip hz ?_
  refine ⟨_, [s1.heap.objs.size + 4, s1.heap.objs.size + 2, s1.heap.objs.size + 3, s1.heap.objs.size, s1.heap.objs.size + 1], _, _, H1, rfl, I1.kept (t' := s1.toks) hk, turn_zip b b' l m _ _ _ _ _ (by simp), ⟨hz, hI, ⟨_, _, hO⟩, i1, i2⟩, fun c hc => ?_, q⟩
  have hc' : s1.heap.objs.size ≤ c := by
    simp only [List.mem_cons, List.not_mem_nil, or_false] at hc
    rcases hc with rfl | rfl | rfl | rfl | rfl
    · exact Nat.le_add_right _ _
    · exact Nat.le_add_right _ _
    · exact Nat.le_add_right _ _
    · exact Nat.le_refl _
    · exact Nat.le_add_right _ _
  exact I1.fpOk hc' (I1.hok.fresh hc')
end
end L2

namespace L2
open PySem PySem.Spec PyProof.Rows
/-! ## comprehensions of two names -/
abbrev gTwo (K : PySem.W.Frag) : TG := gTup K 2 (gCons (gName 0) (gCons (gName 1) gNil))
section
variable {X : Cx} {pos : Pos} {k : Nat}
abbrev Sto (X : Cx) (i : Nat) (x : Str) : Prop := X.N[i]? = some x ∧ Loc X.env.scope x ∧ (X.fn x = true ∨ X.env.scope.names.lookup x = some .local)
theorem pg_pair {K' : PySem.W.Frag} {i j : Nat} {x y : Str} {px py : Pos} (hc : X.calm = true) (hN : X.N.Nodup) (hx : Sto X i x) (hy : Sto X j y) (hK : X.K = K') : PG X (.Tuple [.Name x px, .Name y py] k pos) (gTup K' 2 (gCons (gName i) (gCons (gName j) gNil))) :=
  hK ▸ pg_tup hc (pgs_cons (pg_name hN hx.1 hx.2.1 hx.2.2) (pgs_cons (pg_name hN hy.1 hy.2.1 hy.2.2) pgs_nil))
theorem pg_trio {K' : PySem.W.Frag} {i j m : Nat} {x y z : Str} {px py pz : Pos} (hc : X.calm = true) (hN : X.N.Nodup) (hx : Sto X i x) (hy : Sto X j y) (hz : Sto X m z) (hK : X.K = K') : PG X (.Tuple [.Name x px, .Name y py, .Name z pz] k pos) (gTup K' 3 (gCons (gName i) (gCons (gName j) (gCons (gName m) gNil)))) :=
  hK ▸ pg_tup hc (pgs_cons (pg_name hN hx.1 hx.2.1 hx.2.2) (pgs_cons (pg_name hN hy.1 hy.2.1 hy.2.2) (pgs_cons (pg_name hN hz.1 hz.2.1 hz.2.2) pgs_nil)))
end
def CW2 (n : Nat) (l : Addr) (fr : St) (Pv : Nat → List V → Hp → Prop) (i m : Nat) (σ : St) (H : Hp) : Prop := i ≤ n ∧ m = n - i ∧ ∃ o o' ys, σ = o :: o' :: fr ∧ H l = some (.lst ys) ∧ Pv i ys H
def CNext2 (n : Nat) (l : Addr) (fr : St) (Pv : Nat → List V → Hp → Prop) (i : Nat) (x x' : V) : VK := fun y H4 =>
  ∃ xs, H4 l = some (.lst xs) ∧ xs.length < sizeLine ∧ ∃ m', m' < n - i ∧ CW2 n l fr Pv (i + 1) m' (some x :: some x' :: fr) (upd H4 l (.lst (xs ++ [y])))
def CSkip2 (n : Nat) (l : Addr) (fr : St) (Pv : Nat → List V → Hp → Prop) (i : Nat) (x x' : V) (H3 : Hp) : Prop := ∃ m', m' < n - i ∧ CW2 n l fr Pv (i + 1) m' (some x :: some x' :: fr) H3
theorem CNext2.intro {n : Nat} {l : Addr} {fr : St} {Pv : Nat → List V → Hp → Prop} {i : Nat} {x x' y : V} {H4 : Hp} {ys : List V} (hi : i < n) (h1 : H4 l = some (.lst ys)) (h2 : ys.length < sizeLine) (h3 : Pv (i + 1) (ys ++ [y]) (upd H4 l (.lst (ys ++ [y])))) : CNext2 n l fr Pv i x x' y H4 :=
  ⟨ys, h1, h2, n - (i + 1), by omega, by omega, rfl, _, _, _, rfl, upd_same, h3⟩
theorem CSkip2.intro {n : Nat} {l : Addr} {fr : St} {Pv : Nat → List V → Hp → Prop} {i : Nat} {x x' : V} {H3 : Hp} {ys : List V} (hi : i < n) (h1 : H3 l = some (.lst ys)) (h3 : Pv (i + 1) ys H3) : CSkip2 n l fr Pv i x x' H3 :=
  ⟨n - (i + 1), by omega, by omega, rfl, _, _, _, rfl, h1, h3⟩
theorem comp2 {K : PySem.W.Frag} {J : It} {tt : TT} {te : TE} {l : Addr} {fr : St} {o0 o1 : Option V} {H0 : Hp} {Q : Hp → Prop} (n : Nat) (Pv : Nat → List V → Hp → Prop) (h0 : Pv 0 [] H0) (hl0 : H0 l = some (.lst []))
    (hgo : ∀ i H ys, i < n → Pv i ys H → H l = some (.lst ys) → J.go i H) (hstop : ∀ H ys, Pv n ys H → H l = some (.lst ys) → J.stop n H)
    (step : ∀ i H ys v H', i < n → Pv i ys H → H l = some (.lst ys) → J.yld i H v H' → ∃ a x x', v = .ref a ∧ SqT K H' a [x, x'] ∧ tt (some x :: some x' :: fr) H' fun c H3 =>
      if c = true then te (some x :: some x' :: fr) H3 (CNext2 n l fr Pv i x x') else CSkip2 n l fr Pv i x x' H3)
    (fin : ∀ H ys, Pv n ys H → H l = some (.lst ys) → Q H) :
    cTurns J (gTwo K) tt te l (o0 :: o1 :: fr) H0 Q := by
  refine ⟨CW2 n l fr Pv, ⟨n, Nat.zero_le _, rfl, o0, o1, [], rfl, hl0, h0⟩, ?_⟩
  rintro i m σ H ⟨hi, rfl, o, o', ys, rfl, hl, hp⟩
  rcases Nat.lt_or_ge i n with h | h
  · refine .inr ⟨hgo i H ys h hp hl, fun v H' y => ?_⟩
    obtain ⟨a, x, x', rfl, hq, st⟩ := step i H ys v H' h hp hl y
    exact ⟨a, [x, x'], rfl, hq, rfl, _, _, rfl, _, _, rfl, rfl, st⟩
  · have e : i = n := by omega
    subst e
    exact .inl ⟨hstop H ys hp hl, fin H ys hp hl⟩
/-- pure tests, pure items -/
def CPureF (H1 : Hp) (ft : Nat → Bool) (fe : Nat → V) (i : Nat) (ys : List V) (H : Hp) : Prop := Kp [] H1 H ∧ ys = ((List.range i).filter ft).map fe
theorem filt_yes {ft : Nat → Bool} {fe : Nat → V} {i : Nat} (h : ft i = true) : ((List.range (i + 1)).filter ft).map fe = ((List.range i).filter ft).map fe ++ [fe i] := by
  rw [List.range_succ, List.filter_append, List.map_append]; simp [h]
theorem filt_no {ft : Nat → Bool} {fe : Nat → V} {i : Nat} (h : ft i = false) : ((List.range (i + 1)).filter ft).map fe = ((List.range i).filter ft).map fe := by
  rw [List.range_succ, List.filter_append, List.map_append]; simp [h]
theorem filt_len {ft : Nat → Bool} {fe : Nat → V} (i : Nat) : (((List.range i).filter ft).map fe).length ≤ i := by
  rw [List.length_map]; have := List.length_filter_le ft (List.range i); simpa using this
theorem comp2_enum {K : PySem.W.Frag} {b : Bool} {a : Addr} {xs : List V} {tt : TT} {te : TE} {l : Addr} {fr : St} {o0 o1 : Option V} {H1 : Hp} {Q : Hp → Prop} (ft : Nat → Bool) (fe : Nat → V) (hq : SqK b K H1 a xs) (hz : xs.length ≤ sizeLine) (hl0 : H1 l = none)
    (test : ∀ i x H (M : Bool → Hp → Prop), xs[i]? = some x → Kp [] H1 H → (∀ H3, Kp [] H H3 → M (ft i) H3) → tt (some (.int i) :: some x :: fr) H M)
    (step : ∀ i x H (N : VK), ft i = true → xs[i]? = some x → Kp [] H1 H → (∀ H4, Kp [] H H4 → N (fe i) H4) → te (some (.int i) :: some x :: fr) H N)
    (fin : ∀ H, Kp [] H1 H → H l = some (.lst (((List.range xs.length).filter ft).map fe)) → Q H) :
    cTurns (Ite b K a) (gTwo K) tt te l (o0 :: o1 :: fr) (upd H1 l (.lst [])) Q := by
  refine comp2 xs.length (CPureF H1 ft fe) ⟨Kp.new hl0 _, rfl⟩ upd_same (fun i H ys hi p _ => ⟨xs, xs[i], hq.kp p.1, List.getElem?_eq_getElem hi⟩) (fun H ys p _ => ⟨xs, hq.kp p.1, rfl⟩) (fun i H ys v H' hi p hl y => ?_) fun H ys p hl => ?_
  · obtain ⟨t, x, ht, rfl, rfl, hx⟩ := y
    obtain ⟨k1, rfl⟩ := p
    have hx := hx xs (hq.kp k1)
    have k2 : Kp [] H (upd H t (.tup [.int i, x])) := Kp.new ht _
    have hlen := filt_len (ft := ft) (fe := fe) i
    refine ⟨t, .int i, x, rfl, SqT.of upd_same, test i x _ _ hx (k1.trans k2) fun H3 k3 => ?_⟩
    have hl3 : H3 l = some (.lst (((List.range i).filter ft).map fe)) := k3 _ _ (k2 _ _ hl (by simp)) (by simp)
    cases hft : ft i with
    | true =>
      refine iteT (step i x _ _ hft hx ((k1.trans k2).trans k3) fun H4 k4 => ?_)
      refine CNext2.intro hi (k4 _ _ hl3 (by simp)) (by omega) ⟨fun d o e n => ?_, (filt_yes hft).symm⟩
      rw [upd_ne (ne_of_none e hl0)]; exact k4 _ _ (k3 _ _ (k2 _ _ (k1 _ _ e n) n) n) n
    | false =>
      refine iteF ?_
      exact CSkip2.intro hi hl3 ⟨(k1.trans k2).trans k3, (filt_no hft).symm⟩
  · obtain ⟨k1, rfl⟩ := p
    exact fin H k1 hl
theorem comp2_zip {K : PySem.W.Frag} {b b' : Bool} {a c : Addr} {xs xs' : List V} {te : TE} {l : Addr} {fr : St} {o0 o1 : Option V} {H1 : Hp} {Q : Hp → Prop} (fe : Nat → V) (hq : SqK b K H1 a xs) (hq' : SqK b' K H1 c xs') (n : Nat) (hn : min xs.length xs'.length = n) (hz : n ≤ sizeLine) (hl0 : H1 l = none)
    (step : ∀ i x x' H (N : VK), i < n → xs[i]? = some x → xs'[i]? = some x' → Kp [] H1 H → (∀ H4, Kp [] H H4 → N (fe i) H4) → te (some x :: some x' :: fr) H N)
    (fin : ∀ H, Kp [] H1 H → H l = some (.lst ((List.range n).map fe)) → Q H) :
    cTurns (Itz b b' K a c) (gTwo K) tNoTest te l (o0 :: o1 :: fr) (upd H1 l (.lst [])) Q := by
  refine comp2 n (CPure H1 fe) ⟨Kp.new hl0 _, rfl⟩ upd_same (fun i H ys hi p _ => ⟨xs, xs', xs[i]'(by omega), xs'[i]'(by omega), hq.kp p.1, hq'.kp p.1, List.getElem?_eq_getElem _, List.getElem?_eq_getElem _⟩) (fun H ys p _ => ⟨xs, xs', hq.kp p.1, hq'.kp p.1, hn⟩) (fun i H ys v H' hi p hl y => ?_) fun H ys p hl => ?_
  · obtain ⟨t, x, x', ht, rfl, rfl, hx, hx'⟩ := y
    obtain ⟨k1, rfl⟩ := p
    have hx := hx xs (hq.kp k1)
    have hx' := hx' xs' (hq'.kp k1)
    have k2 : Kp [] H (upd H t (.tup [x, x'])) := Kp.new ht _
    refine ⟨t, x, x', rfl, SqT.of upd_same, noTest (iteT (step i x x' _ _ hi hx hx' (k1.trans k2) fun H4 k4 => ?_))⟩
    refine CNext2.intro hi (k4 _ _ (k2 _ _ hl (by simp)) (by simp)) (by simp; omega) ⟨fun d o e n => ?_, ?_⟩
    · rw [upd_ne (ne_of_none e hl0)]; exact k4 _ _ (k2 _ _ (k1 _ _ e n) n) n
    · rw [List.range_succ, List.map_append]; rfl
  · obtain ⟨k1, rfl⟩ := p
    exact fin H k1 hl
end L2

namespace My
open PySem PySem.Spec PyProof.Rows L2
/-! ## alike: of the same kinds throughout -/
mutual
def alikeD : PyData → PyData → Bool
  | .none, .none => true
  | .bool a, .bool b => decide (a = b)
  | .int a, .int b => decide (a = b)
  | .str a, .str b => decide (a = b)
  | .tuple xs, .tuple ys => alikeL xs ys
  | .list xs, .list ys => alikeL xs ys
  | _, _ => false
def alikeL : List PyData → List PyData → Bool
  | [], [] => true
  | x :: xs, y :: ys => alikeD x y && alikeL xs ys
  | _, _ => false
end
mutual
/-- how deep -/
def lvD : PyData → Nat
  | .tuple xs | .list xs => lvL xs + 1
  | _ => 0
def lvL : List PyData → Nat
  | [] => 0
  | x :: xs => max (lvD x) (lvL xs)
end
theorem lvL_mem : ∀ {xs : List PyData} {x : PyData}, x ∈ xs → lvD x ≤ lvL xs
  | y :: ys, x, h => by
    rw [lvL]
    rcases List.mem_cons.mp h with rfl | h
    · exact Nat.le_max_left _ _
    · exact Nat.le_trans (lvL_mem h) (Nat.le_max_right _ _)
theorem alikeL_len : ∀ {xs ys : List PyData}, xs.length ≠ ys.length → alikeL xs ys = false
  | [], [], h => absurd rfl h
  | [], _ :: _, _ => rfl
  | _ :: _, [], _ => rfl
  | x :: xs, y :: ys, h => by
    rw [alikeL, alikeL_len (xs := xs) (ys := ys) (by simpa using h), Bool.and_false]
theorem alikeL_range : ∀ {xs ys : List PyData}, xs.length = ys.length → ((List.range xs.length).map fun i => alikeD (xs.getD i .none) (ys.getD i .none)).all id = alikeL xs ys
  | [], [], _ => rfl
  | [], _ :: _, h => by simp at h
  | _ :: _, [], h => by simp at h
  | x :: xs, y :: ys, h => by
    rw [alikeL, ← alikeL_range (xs := xs) (ys := ys) (by simpa using h), List.length_cons, List.range_succ_eq_map, List.map_cons, List.all_cons, List.map_map]
    rfl
mutual
theorem alikeD_refl : ∀ {d : PyData}, noDict d = true → alikeD d d = true
  | .none, _ => rfl
  | .bool b, _ => by simp [alikeD]
  | .int b, _ => by simp [alikeD]
  | .str b, _ => by simp [alikeD]
  | .tuple xs, h => by rw [alikeD]; exact alikeL_refl (by simpa [noDict] using h)
  | .list xs, h => by rw [alikeD]; exact alikeL_refl (by simpa [noDict] using h)
  | .dict _, h => by simp [noDict] at h
theorem alikeL_refl : ∀ {xs : List PyData}, noDictAll xs = true → alikeL xs xs = true
  | [], _ => rfl
  | x :: xs, h => by
    rw [noDictAll, Bool.and_eq_true] at h
    rw [alikeL, alikeD_refl h.1, alikeL_refl h.2]; rfl
end
theorem noDict_ints : ∀ ns : List Int, noDictAll (ns.map PyData.int) = true
  | [] => rfl
  | n :: r => by rw [List.map_cons, noDictAll, noDict_ints r]; rfl
theorem lvL_ints : ∀ ns : List Int, lvL (ns.map PyData.int) = 0
  | [] => rfl
  | n :: r => by rw [List.map_cons, lvL, lvL_ints r]; rfl
def spAlike : Nat → Sp
  | 0 => fun _ _ _ _ => False
  | n + 1 => fun vs H Q _ => ∃ ex da db x y, vs = [x, y] ∧ Rep ex H da x ∧ Rep ex H db y ∧ lvD db ≤ n ∧ ∀ H', Kp [] H H' → Q (.bl (alikeD da db)) H'
theorem Rep.seq {ex : List Addr} {H : Hp} {d : PyData} {v : V} (r : Rep ex H d v) : (∃ a xs ds, v = .ref a ∧ d = .tuple ds ∧ H a = some (.tup xs) ∧ xs.length ≤ sizeLine ∧ Reps ex H ds xs) ∨ (∃ a xs ds, v = .ref a ∧ d = .list ds ∧ H a = some (.lst xs) ∧ xs.length ≤ sizeLine ∧ Reps ex H ds xs) ∨
    v = .non ∧ d = .none ∨ (∃ b, v = .bl b ∧ d = .bool b) ∨ (∃ i, v = .int i ∧ d = .int i) ∨ ∃ x, v = .str x ∧ d = .str x := by
  cases r with
  | none => exact .inr (.inr (.inl ⟨rfl, rfl⟩))
  | bool b => exact .inr (.inr (.inr (.inl ⟨b, rfl, rfl⟩)))
  | int i => exact .inr (.inr (.inr (.inr (.inl ⟨i, rfl, rfl⟩))))
  | str x => exact .inr (.inr (.inr (.inr (.inr ⟨x, rfl, rfl⟩))))
  | tuple e n z rs => exact .inl ⟨_, _, _, rfl, rfl, e, z, rs⟩
  | list e n z rs => exact .inr (.inl ⟨_, _, _, rfl, rfl, e, z, rs⟩)
/-- the kind of data that is a row -/
def rowD (d : PyData) : Option (Bool × List PyData) := match d with
  | .tuple xs => some (true, xs)
  | .list xs => some (false, xs)
  | _ => none
theorem Rep.row {ex : List Addr} {H : Hp} {K : PySem.W.Frag} {d : PyData} {v : V} {b : Bool} {ds : List PyData} (r : Rep ex H d v) (h : rowD d = some (b, ds)) : ∃ a xs, v = .ref a ∧ SqK b K H a xs ∧ (SqL K H a xs ∨ SqT K H a xs) ∧ xs.length ≤ sizeLine ∧ Reps ex H ds xs := by
  cases r with
  | tuple e n z rs => cases h; exact ⟨_, _, rfl, SqT.of e, .inr (SqT.of e), z, rs⟩
  | list e n z rs => cases h; exact ⟨_, _, rfl, SqL.of e, .inl (SqL.of e), z, rs⟩
  | _ => cases h
theorem alike_row {da db : PyData} {b b' : Bool} {xs ys : List PyData} (h : rowD da = some (b, xs)) (h' : rowD db = some (b', ys)) (hb : b = b') : alikeD da db = alikeL xs ys := by
  subst hb
  cases da <;> cases h <;> cases db <;> cases h' <;> rfl
theorem instD_b {d : PyData} (h : instD d "bool" = true) : ∃ b, d = .bool b := by
  cases d with
  | bool b => exact ⟨b, rfl⟩
  | _ => simp [instD, tyName] at h
theorem instD_i {d : PyData} (h : instD d "int" = true) (h' : instD d "bool" = false) : ∃ i, d = .int i := by
  cases d with
  | int b => exact ⟨b, rfl⟩
  | _ => simp [instD, tyName] at h h'
theorem instD_s {d : PyData} (h : instD d "str" = true) : ∃ i, d = .str i := by
  cases d with
  | str b => exact ⟨b, rfl⟩
  | _ => simp [instD, tyName] at h
theorem instD_row {ex : List Addr} {H : Hp} {d : PyData} {v : V} (r : Rep ex H d v) (h0 : v ≠ .non) (h1 : instD d "bool" = false) (h2 : instD d "int" = false) (h3 : instD d "str" = false) : ∃ b ds, rowD d = some (b, ds) := by
  cases r with
  | none => exact absurd rfl h0
  | bool b => simp [instD, tyName] at h1
  | int b => simp [instD, tyName] at h2
  | str b => simp [instD, tyName] at h3
  | tuple e n z rs => exact ⟨_, _, rfl⟩
  | list e n z rs => exact ⟨_, _, rfl⟩
theorem instD_same {ex : List Addr} {H : Hp} {da db : PyData} {v : V} (r : Rep ex H da v) {b : Bool} {ds : List PyData} (h : rowD db = some (b, ds)) (h1 : instD db "tuple" = instD da "tuple") (h2 : instD db "list" = instD da "list") : ∃ es, rowD da = some (b, es) := by
  cases db <;> cases h <;> cases r <;> first | exact ⟨_, rfl⟩ | (simp [instD, tyName] at h1 h2)
theorem alike_kinds {da db : PyData} (h : instD db "tuple" ≠ instD da "tuple" ∨ instD db "list" ≠ instD da "list") : alikeD da db = false := by
  cases da <;> cases db <;> first | rfl | (simp [instD, tyName] at h)
theorem alike_non {ex : List Addr} {H : Hp} {da db : PyData} {x : V} (ra : Rep ex H da x) (rb : Rep ex H db .non) : alikeD da db = decide (x = .non) := by
  cases rb; cases ra <;> simp [alikeD]
theorem alike_noB {da : PyData} {b : Bool} (h : instD da "bool" = false) : alikeD da (.bool b) = false := by
  cases da <;> first | rfl | (simp [instD, tyName] at h)
theorem alike_noI {da : PyData} {b : Int} (h : instD da "int" = false ∨ instD da "bool" = true) : alikeD da (.int b) = false := by
  cases da <;> first | rfl | (simp [instD, tyName] at h)
theorem alike_noS {da : PyData} {b : Str} (h : instD da "str" = false) : alikeD da (.str b) = false := by
  cases da <;> first | rfl | (simp [instD, tyName] at h)
theorem rowD_lv {d : PyData} {b : Bool} {ds : List PyData} (h : rowD d = some (b, ds)) : lvD d = lvL ds + 1 := by
  cases d <;> cases h <;> rfl
end My

namespace My
open PySem PySem.Spec PyProof.Rows L2
/-! ## reading a book; walks -/
def wayAt (ws : List Way) (k : Int) : Way := ws.getD k.toNat ⟨0, 0, []⟩
def gAt (ws : List Way) (p : Int) (k : Int) : Int := (wayAt ws k).g.getD p.toNat 0
def InW (ws : List Way) (ns : List Int) : Prop := ∀ k ∈ ns, 0 ≤ k ∧ k < ws.length
def Chain (ws : List Way) : List Int → Prop
  | [] => True
  | [_] => True
  | j :: k :: r => (wayAt ws j).b = (wayAt ws k).a ∧ Chain ws (k :: r)
theorem Chain.snoc {ws : List Way} : ∀ {ns : List Int} {j k : Int}, Chain ws (ns ++ [j]) → (wayAt ws j).b = (wayAt ws k).a → Chain ws (ns ++ [j] ++ [k])
  | [], _, _, _, h => ⟨h, trivial⟩
  | [a], _, _, c, h => ⟨c.1, h, trivial⟩
  | a :: b :: r, j, k, c, h => ⟨c.1, Chain.snoc (ns := b :: r) c.2 h⟩
structure BkAt (ex : List Addr) (H : Hp) (R U : Int) (ws : List Way) (bv : V) (ba wa : Addr) (vs : List V) : Prop where
  e : bv = .ref ba
  b : H ba = some (.tup [.int R, .int U, .ref wa])
  w : H wa = some (.tup vs)
  r : Reps ex H (ws.map wayPD) vs
  nb : ba ∉ ex
  nw : wa ∉ ex
  z : vs.length ≤ sizeLine
theorem rep_book {ex : List Addr} {H : Hp} {R U : Int} {ws : List Way} {bv : V} (r : Rep ex H (bookPD R U ws) bv) : ∃ ba wa vs, BkAt ex H R U ws bv ba wa vs := by
  obtain ⟨ba, x, y, z, rfl, hb, nb, r1, r2, r3⟩ := rep_tup3 r
  obtain ⟨wa, vs, rfl, hw, nw, hz, rs⟩ := rep_tup r3
  rw [rep_int r1, rep_int r2] at hb
  exact ⟨ba, wa, vs, rfl, hb, hw, rs, nb, nw, hz⟩
theorem BkAt.len {ex : List Addr} {H : Hp} {R U : Int} {ws : List Way} {bv : V} {ba wa : Addr} {vs : List V} (B : BkAt ex H R U ws bv ba wa vs) : vs.length = ws.length := by
  rw [← B.r.length, List.length_map]
theorem BkAt.keep {ex : List Addr} {H H' : Hp} {R U : Int} {ws : List Way} {bv : V} {ba wa : Addr} {vs : List V} (B : BkAt ex H R U ws bv ba wa vs) (k : Kp ex H H') : BkAt ex H' R U ws bv ba wa vs :=
  ⟨B.e, k _ _ B.b B.nb, k _ _ B.w B.nw, B.r.keep k, B.nb, B.nw, B.z⟩
theorem BkAt.rep {ex : List Addr} {H : Hp} {R U : Int} {ws : List Way} {bv : V} {ba wa : Addr} {vs : List V} (B : BkAt ex H R U ws bv ba wa vs) : Rep ex H (bookPD R U ws) bv := by
  rw [B.e]
  exact .tuple B.b B.nb (small4 (Nat.le_of_ble_eq_true rfl)) (.cons (.int R) (.cons (.int U) (.cons (.tuple B.w B.nw B.z B.r) .nil)))
theorem way_ix {ex : List Addr} {H : Hp} {ws : List Way} {vs : List V} {i : Nat} {v : V} (r : Reps ex H (ws.map wayPD) vs) (h : vs[i]? = some v) : ∃ t g, v = .ref t ∧ H t = some (.tup [.int (wayAt ws i).a, .int (wayAt ws i).b, .ref g]) ∧ H g = some (.tup ((wayAt ws i).g.map V.int)) ∧ i < ws.length ∧ wayAt ws i ∈ ws := by
  obtain ⟨d, e, rd⟩ := r.getV h
  rw [List.getElem?_map] at e
  cases hw : ws[i]? with
  | none => rw [hw] at e; cases e
  | some w =>
    rw [hw] at e
    have e : wayPD w = d := Option.some.inj e
    subst e
    have ew : wayAt ws (i : Int) = w := by unfold wayAt; rw [Int.toNat_natCast, List.getD_eq_getElem?_getD, hw]; rfl
    rw [ew]
    obtain ⟨t, x, y, z, rfl, ht, _, r1, r2, r3⟩ := rep_tup3 rd
    obtain ⟨g, gs, rfl, hg, _, _, rg⟩ := rep_tup r3
    rw [rep_int r1, rep_int r2] at ht
    rw [Reps.ints_inv rg] at hg
    exact ⟨t, g, rfl, ht, hg, (List.getElem?_eq_some_iff.mp hw).1, List.mem_of_getElem? hw⟩
theorem way_at {ex : List Addr} {H : Hp} {ws : List Way} {vs : List V} {k : Int} (r : Reps ex H (ws.map wayPD) vs) (h0 : 0 ≤ k) (h1 : k < ws.length) : ∃ t g, atI vs k = some (.ref t) ∧ H t = some (.tup [.int (wayAt ws k).a, .int (wayAt ws k).b, .ref g]) ∧ H g = some (.tup ((wayAt ws k).g.map V.int)) ∧ wayAt ws k ∈ ws := by
  have hl := r.length
  rw [List.length_map] at hl
  have hk : k.toNat < vs.length := by omega
  have ek : ((k.toNat : Nat) : Int) = k := by omega
  have e : vs[k.toNat]? = some vs[k.toNat] := List.getElem?_eq_getElem hk
  obtain ⟨t, g, ev, ht, hg, _, hm⟩ := way_ix r e
  rw [ek] at ht hg hm
  refine ⟨t, g, ?_, ht, hg, hm⟩
  have q := atI_nat e
  rw [ek, ev] at q
  exact q
theorem gains_at {R U : Int} {w : Way} (h : WayOk R U w) {p : Int} (h0 : 0 ≤ p) (h1 : p < U) : atI (w.g.map V.int) p = some (.int (w.g.getD p.toNat 0)) := by
  have hl := h.len
  have hk : p.toNat < w.g.length := by omega
  have ek : ((p.toNat : Nat) : Int) = p := by omega
  have q : atI (w.g.map V.int) ((p.toNat : Nat) : Int) = some (V.int w.g[p.toNat]) := atI_nat (by rw [List.getElem?_map, List.getElem?_eq_getElem hk]; rfl)
  rw [ek] at q
  rw [q, List.getD_eq_getElem?_getD, List.getElem?_eq_getElem hk]
  rfl
theorem at_map (ns : List Int) {i : Int} (h0 : 0 ≤ i) (h1 : i < ns.length) : ∃ n ∈ ns, atI (ns.map V.int) i = some (V.int n) := by
  obtain ⟨n, e, h⟩ := at_P (P := fun n => n ∈ ns) ns (fun _ h => h) h0 h1
  exact ⟨n, h, e⟩
theorem at_head (n : Int) (r : List Int) : atI ((n :: r).map V.int) 0 = some (V.int n) := atI_nat (j := 0) rfl
theorem at_lastI {ns : List Int} (h : ns ≠ []) : atI (ns.map V.int) (-1) = some (V.int (ns.getLast h)) := by
  have e : ns = ns.dropLast ++ [ns.getLast h] := (List.dropLast_concat_getLast h).symm
  generalize ns.getLast h = z at e ⊢
  rw [e, List.map_append]
  exact atI_last _ _
theorem canLay_way (w : Way) : (wayPD w).canLay0 = true := by
  unfold wayPD
  simp [PyData.canLay0, PyData.canLayAll0, canLay_ints]
theorem canLay_ways : ∀ ws : List Way, PyData.canLayAll0 (ws.map wayPD) = true
  | [] => rfl
  | w :: r => by rw [List.map_cons, PyData.canLayAll0, canLay_way, canLay_ways r]; rfl
theorem eqv_ways_nil : ∀ ws : List Way, PyData.eqv (.tuple (ws.map wayPD)) (.tuple []) = ws.isEmpty
  | [] => rfl
  | _ :: _ => rfl
theorem eqv_ints (ns : List Int) : PyData.eqv (.list (ns.map PyData.int)) (.list (ns.map PyData.int)) = true := PySem.SeqAt.eqv_refl _ (by rw [PyData.canLay0]; exact canLay_ints ns)
def fromI (ws : List Way) (room : Int) : List Int := ((List.range ws.length).filter fun i => decide ((wayAt ws (i : Nat)).a = room)).map fun i : Nat => (i : Int)
theorem fromI_mem {ws : List Way} {room k : Int} (h : k ∈ fromI ws room) : 0 ≤ k ∧ k < ws.length ∧ (wayAt ws k).a = room := by
  obtain ⟨i, hi, rfl⟩ := List.mem_map.mp h
  rw [List.mem_filter, List.mem_range] at hi
  exact ⟨by omega, by omega, of_decide_eq_true hi.2⟩
theorem fromI_len (ws : List Way) (room : Int) : (fromI ws room).length ≤ ws.length := by
  unfold fromI
  rw [List.length_map]
  have := List.length_filter_le (fun i => decide ((wayAt ws ((i : Nat) : Int)).a = room)) (List.range ws.length)
  simpa using this
def spFrom : Sp := fun vs H Q _ => ∃ ex R U ws bv room, vs = [bv, .int room] ∧ Rep ex H (bookPD R U ws) bv ∧ ∀ l H', Kp [] H H' → H l = none → H' l = some (.lst ((fromI ws room).map V.int)) → Q (.ref l) H'
def spWalkD : Sp := fun vs H Q _ => ∃ (p c : Addr) (R U : Int) (ws : List Way) (bv : V) (most : Int), vs = [.ref p, bv, .int most] ∧ Jar H p c ∧ Rep [p, c] H (bookPD R U ws) bv ∧ BookOk R U ws ∧ (1 ≤ most ∧ most ≤ 5000) ∧
  ∀ (ns : List Int) (l : Addr) (H' : Hp), InW ws ns → Chain ws ns → (ns.length : Int) ≤ most → (ws ≠ [] → ns ≠ []) → Jar H' p c → Kp [p, c] H H' → H l = none → H' l = some (.lst (ns.map V.int)) → Q (.ref l) H'
def headI (ns : List Int) : Int := ns.headD 0
def lastI (ns : List Int) : Int := ns.getLastD 0
def gainI (ws : List Way) (U : Int) (ns : List Int) : List Int := (List.range U.toNat).map fun i : Nat => (ns.map (gAt ws (i : Int))).sum
def spEnds (K : PySem.W.Frag) : Sp := fun vs H Q _ => ∃ ex R U ws bv l ns, vs = [bv, .ref l] ∧ Rep ex H (bookPD R U ws) bv ∧ SqL K H l (ns.map V.int) ∧ ns ≠ [] ∧ InW ws ns ∧ ∀ t H', Kp [] H H' → H t = none → H' t = some (.tup [.int (wayAt ws (headI ns)).a, .int (wayAt ws (lastI ns)).b]) → Q (.ref t) H'
def spAlong (K : PySem.W.Frag) : Sp := fun vs H Q _ => ∃ ex R U ws bv l ns p, vs = [bv, .ref l, .int p] ∧ Rep ex H (bookPD R U ws) bv ∧ BookOk R U ws ∧ SqL K H l (ns.map V.int) ∧ ns.length ≤ sizeLine ∧ InW ws ns ∧ 0 ≤ p ∧ p < U ∧ ∀ t H', Kp [] H H' → H t = none → H' t = some (.lst ((ns.map (gAt ws p)).map V.int)) → Q (.ref t) H'
def spGainW (K : PySem.W.Frag) : Sp := fun vs H Q _ => ∃ ex R U ws bv l ns, vs = [bv, .ref l] ∧ Rep ex H (bookPD R U ws) bv ∧ BookOk R U ws ∧ SqL K H l (ns.map V.int) ∧ ns.length ≤ sizeLine ∧ InW ws ns ∧ ∀ t H', Kp [] H H' → H t = none → H' t = some (.tup ((gainI ws U ns).map V.int)) → Q (.ref t) H'
theorem headI_mem {ns : List Int} (h : ns ≠ []) : headI ns ∈ ns := by
  cases ns with
  | nil => exact absurd rfl h
  | cons a r => exact List.mem_cons_self
theorem lastI_eq {ns : List Int} (h : ns ≠ []) : lastI ns = ns.getLast h := by
  unfold lastI; rw [List.getLastD_eq_getLast?, List.getLast?_eq_some_getLast h]; rfl
theorem lastI_mem {ns : List Int} (h : ns ≠ []) : lastI ns ∈ ns := by rw [lastI_eq h]; exact List.getLast_mem h
theorem SqL.kp {K : PySem.W.Frag} {H H' : Hp} {a : Addr} {xs : List V} (h : SqL K H a xs) (k : Kp [] H H') : SqL K H' a xs := SqK.kp (b := false) h k
theorem map_int (f : Nat → Int) (l : List Nat) : (l.map fun i => V.int (f i)) = (l.map f).map V.int := by simp
theorem range_getD {α β : Type} (f : α → β) (xs : List α) (dflt : α) : ((List.range xs.length).map fun i => f (xs.getD i dflt)) = xs.map f := by
  refine List.ext_getElem (by simp) fun i h1 h2 => ?_
  have hi : i < xs.length := by simpa using h1
  simp [List.getD_eq_getElem?_getD, List.getElem?_eq_getElem hi]
/-- a walk as it grows: H0 the heap at the entry, l the list -/
structure WI (p c : Addr) (ws : List Way) (H0 H : Hp) (l : Addr) (ns : List Int) (most : Int) : Prop where
  j : Jar H p c
  k : Kp [p, c] H0 H
  n : H0 l = none
  nl : l ∉ [p, c]
  l : H l = some (.lst (ns.map V.int))
  i : InW ws ns
  c : Chain ws ns
  z : (ns.length : Int) ≤ most
  e : ws ≠ [] → ns ≠ []
theorem eqv_ints_nil (ns : List Int) : PyData.eqv (.list (ns.map PyData.int)) (.list []) = ns.isEmpty := eqv_nil ns
theorem Rep.lints {ex : List Addr} {H : Hp} {l : Addr} {ns : List Int} (h : H l = some (.lst (ns.map V.int))) (n : l ∉ ex) (z : ns.length ≤ sizeLine) : Rep ex H (.list (ns.map PyData.int)) (.ref l) :=
  .list h n (by rw [List.length_map]; exact z) (Reps.ints ns)
theorem Rep.tints {ex : List Addr} {H : Hp} {l : Addr} {ns : List Int} (h : H l = some (.tup (ns.map V.int))) (n : l ∉ ex) (z : ns.length ≤ sizeLine) : Rep ex H (.tuple (ns.map PyData.int)) (.ref l) :=
  .tuple h n (by rw [List.length_map]; exact z) (Reps.ints ns)
theorem Chain.add {ws : List Way} {ns : List Int} {k : Int} (c : Chain ws ns) (h : ∀ hn : ns ≠ [], (wayAt ws (lastI ns)).b = (wayAt ws k).a) : Chain ws (ns ++ [k]) := by
  cases hn : ns with
  | nil => trivial
  | cons a r =>
    have hne : ns ≠ [] := by rw [hn]; simp
    have e : ns = ns.dropLast ++ [ns.getLast hne] := (List.dropLast_concat_getLast hne).symm
    have h' := h hne
    rw [lastI_eq hne] at h'
    rw [← hn]
    rw [e] at c ⊢
    exact c.snoc h'
def dueI (g : Nat → Int) (n i : Nat) : List Int := (List.range i).map g ++ List.replicate (n - i) 0
theorem dueI_0 (g : Nat → Int) (n : Nat) : dueI g n 0 = List.replicate n 0 := by simp [dueI]
theorem dueI_n (g : Nat → Int) (n : Nat) : dueI g n n = (List.range n).map g := by simp [dueI]
theorem dueI_len (g : Nat → Int) (n i : Nat) (h : i ≤ n) : (dueI g n i).length = n := by simp [dueI]; omega
theorem due_set (g : Nat → Int) (n i : Nat) (h : i < n) : (dueI g n i).set i (g i) = dueI g n (i + 1) := by
  unfold dueI
  have e : n - i = (n - (i + 1)) + 1 := by omega
  rw [e, List.replicate_succ, List.range_succ, List.map_append, List.append_assoc]
  have hl : ((List.range i).map g).length = i := by simp
  rw [List.set_append, hl, if_neg (Nat.lt_irrefl _), Nat.sub_self]
  rfl
theorem depthAll_ints : ∀ ns : List Int, PyData.depthAll (ns.map PyData.int) = 0
  | [] => rfl
  | n :: r => by rw [List.map_cons, PyData.depthAll, depthAll_ints r]; rfl
theorem depth_ints (ns : List Int) : PyData.depth (.list (ns.map PyData.int)) = 1 := by rw [PyData.depth, depthAll_ints]
theorem ite_nt {A B : Prop} (h : B) : if (!true) = true then A else B := h
theorem at0 (x y z : V) : atI [x, y, z] 0 = some x := atI_nat (j := 0) rfl
theorem at1 (x y z : V) : atI [x, y, z] 1 = some y := atI_nat (j := 1) rfl
theorem at2 (x y z : V) : atI [x, y, z] 2 = some z := atI_nat (j := 2) rfl
end My

namespace L2
open PySem PySem.Spec PyProof.Rows
/-! ## the rules with the text's frame named: for the blocks of comprehensions -/
section
variable {X : Cx} {K' : PySem.W.Frag}
theorem ix_tupK (hK : X.K = K') : IxR X (rIxT K') := hK ▸ ix_tup
theorem ix_listK (hK : X.K = K') : IxR X (rIxL K') := hK ▸ ix_list
theorem op_repTK (hK : X.K = K') : OpR X (binaryOp .Mult) (rRepT K') := hK ▸ op_repT
theorem call_len_seqK (hK : X.K = K') : CallR X (.builtin "len") (fun xs H Q => ∃ p ys, xs = [.ref p] ∧ (SqL K' H p ys ∨ SqT K' H p ys) ∧ Q (.int ys.length) H) := hK ▸ call_len_seq
theorem call_list_ofK (hK : X.K = K') : CallR X (.type "list") (fun xs H Q => ∃ p ys, xs = [.ref p] ∧ (SqL K' H p ys ∨ SqT K' H p ys) ∧ ∀ l, H l = none → Q (.ref l) (upd H l (.lst ys))) := hK ▸ call_list_of
theorem call_tuple_ofK (hK : X.K = K') : CallR X (.type "tuple") (fun xs H Q => ∃ p ys, xs = [.ref p] ∧ ((SqL K' H p ys ∧ ∀ l, H l = none → Q (.ref l) (upd H l (.tup ys))) ∨ (SqT K' H p ys ∧ Q (.ref p) H))) := hK ▸ call_tuple_of
theorem call_sumK (hK : X.K = K') (hc : X.calm = true) : CallR X (.builtin "sum") (fun xs H Q => ∃ (p : Addr) (ns : List Int), xs = [.ref p] ∧ SqL K' H p (ns.map V.int) ∧ Q (.int ns.sum) H) := by
  subst hK
  intro pins s σ H xs us Q I r h
  exact call_sum pins s σ H xs us Q I r ⟨hc, h⟩
theorem call_allK (hK : X.K = K') (hc : X.calm = true) : CallR X (.builtin "all") (fun xs H Q => ∃ (p : Addr) (bs : List Bool), xs = [.ref p] ∧ SqL K' H p (bs.map V.bl) ∧ Q (.bl (bs.all id)) H) := by
  subst hK
  intro pins s σ H xs us Q I r h
  exact call_all pins s σ H xs us Q I r ⟨hc, h⟩
end
end L2

namespace L2
open PySem PySem.Spec PyProof.Rows
theorem fmap_all {α β : Type} {f : α → Option β} {g : α → β} : ∀ l : List α, (∀ k ∈ l, f k = some (g k)) → l.filterMap f = l.map g
  | [], _ => rfl
  | x :: r, h => by rw [List.filterMap_cons, h x List.mem_cons_self, List.map_cons, fmap_all r fun k hk => h k (List.mem_cons_of_mem _ hk)]
theorem sliceRev_eq (vs : List Value) : slicePick vs.toArray none none (some (-1)) = vs.reverse.toArray := by
  have hb : sliceBounds none none (some (-1)) vs.toArray.size = ((vs.length : Int) - 1, -1, -1) := by simp [sliceBounds]
  unfold slicePick
  rw [hb]
  congr 1
  unfold sliceRange
  simp only [show ¬ ((-1 : Int) > 0) by decide, if_false]
  have hc : (if ((vs.length : Int) - 1) > -1 then ((vs.length : Int) - 1 - -1 - -1 - 1) / (-(-1)) else 0).toNat = vs.length := by
    split
    · rw [show (-(-1 : Int)) = 1 by decide, Int.ediv_one]; omega
    · omega
  rw [hc, List.filterMap_map]
  refine List.ext_getElem? fun i => ?_
  have key : ((fun x : Nat => vs.toArray[x]?) ∘ fun k : Nat => ((vs.length : Int) - 1 + -1 * (k : Int)).toNat) = fun k : Nat => vs[((vs.length : Int) - 1 + -1 * (k : Int)).toNat]? := by
    funext k; simp
  rw [key]
  have all : ∀ k ∈ List.range vs.length, vs[((vs.length : Int) - 1 + -1 * (k : Int)).toNat]? = some (vs.getD (vs.length - 1 - k) .none) := fun k hk => by
    rw [List.mem_range] at hk
    have e : ((vs.length : Int) - 1 + -1 * (k : Int)).toNat = vs.length - 1 - k := by omega
    rw [e, List.getD_eq_getElem?_getD, List.getElem?_eq_getElem (show vs.length - 1 - k < vs.length by omega)]; rfl
  have fm : (List.range vs.length).filterMap (fun k : Nat => vs[((vs.length : Int) - 1 + -1 * (k : Int)).toNat]?) = (List.range vs.length).map fun k => vs.getD (vs.length - 1 - k) .none := by
    exact fmap_all _ all
  rw [fm, List.getElem?_map]
  by_cases hi : i < vs.length
  · rw [List.getElem?_range hi, List.getElem?_reverse hi, Option.map_some, List.getD_eq_getElem?_getD, List.getElem?_eq_getElem (show vs.length - 1 - i < vs.length by omega)]; rfl
  · rw [List.getElem?_eq_none (by simpa using hi), List.getElem?_eq_none (by simpa using hi)]; rfl
section
variable {X : Cx} {e st : Expr} {te : TE} {ts : TO} {pos p2 : Pos}
def rRev (K : PySem.W.Frag) : V → Hp → VK → Prop := fun x H Q => ∃ a xs, x = .ref a ∧ SqL K H a xs ∧ ∀ p, H p = none → Q (.ref p) (upd H p (.lst xs.reverse))
def tRev (K : PySem.W.Frag) (te : TE) (ts : TO) : TE := fun σ H Q => te σ H fun x H1 => ts σ H1 fun o H2 => o = some (-1) ∧ rRev K x H2 Q
theorem pe_rev (he : PE X e te) (hs : PO X (some st) ts) : PE X (.Subscript e (.Slice none none (some st) p2) pos) (tRev X.K te ts) := by
  intro pins s σ H Q I h
  refine Subscript_ (thn (he pins s σ H _ I h) fun v s1 ⟨x, H1, I1, r1, q1⟩ => ?_)
  refine wpAny_Slice ?_
  rw [evalPart_none]
  refine wpAny_pure (wpAny_pure (thn (hs pins s1 σ H1 _ I1 q1) fun vs s2 ⟨o, H2, I2, po, q2⟩ => ?_))
  obtain ⟨rfl, a, xs, rfl, hx, q⟩ := q2
  cases r1
  have I4 : Inv X pins σ H2 { s2 with heap := s2.heap.push { cls := .type "slice", data := .fields #[.none, .none, vs] } } := I2.kept (t' := s2.toks) fun b ob q => Heap.get?_push_of_some _ q
  obtain ⟨its, r, ht, hz⟩ := I4.list hx
  have hl := r.length
  show wpAny (model X.prog X.w) X.A (subscriptTail e (.Slice none none (some st) p2) (.ref a) (.ref s2.heap.objs.size)) (EP X pins σ Q) X.xe { s2 with heap := s2.heap.push { cls := .type "slice", data := .fields #[.none, .none, vs] } }
  refine tail_any (ops := [.ref a, .ref s2.heap.objs.size]) ht.isList.typeIs slot_list_getitem.lookup ?_ (by with_unfolding_all rfl)
  refine wpAny_getItem_list_slice ht.isList (Heap.IsSliceOf.new ..) .none .none po (by simp) ?_ (by rw [List.size_toArray]; omega)
  rw [sliceRev_eq]
  refine ⟨.ref _, _, I4.laid (t' := s2.toks) (o := .lst xs.reverse) (fun b ob q => Heap.get?_push_of_some _ q) (Nat.le_refl _) ?_, rfl, q _ (I4.hok.fresh (Nat.le_refl _))⟩
  exact ⟨by rw [List.length_reverse]; exact hz, _, 0, r.reverse, Heap.get?_push_size _ rfl⟩
end
end L2
namespace L2
open PySem PySem.Spec PyProof.Rows
theorem op_mulB {X : Cx} : OpR X (binaryOp .Mult) (rI IntMulOk fun i j => .int (i * j)) := opI fun _ _ _ _ _ _ _ hc q => mul_int q hc
/-- name = a display -/
theorem ps_setD {X : Cx} {pos : Pos} {i : Nat} {x : Str} {e : Expr} {te : TE} {pos' : Pos} (hN : X.N.Nodup) (hi : X.N[i]? = some x) (hx : Loc X.env.scope x) (he : PEs X e te) (hs : swapsWith e (some (.Name x pos')) pos.line X.env = pure false := by rfl) (hf : X.fn x = true ∨ X.env.scope.names.lookup x = some .local := by first | exact .inl rfl | exact .inr rfl | assumption) : PS X (.Assign [.Name x pos'] e pos) (tAsg te (gName i)) := ps_set hN hi hx he.out hs hf
end L2

namespace My
open PySem PySem.Spec PyProof.Rows L2
/-! ## is it a walk -/
def okW (ws : List Way) (k : Int) : Bool := betwD (.int k) 0 ((ws.length : Int) - 1)
theorem okW_iff {ws : List Way} {k : Int} : okW ws k = true ↔ 0 ≤ k ∧ k < ws.length := by
  simp only [okW, betwD, Bool.and_eq_true, decide_eq_true_eq]; omega
def chainB (ws : List Way) : List Int → Bool
  | [] => true
  | [_] => true
  | j :: k :: r => decide ((wayAt ws j).b = (wayAt ws k).a) && chainB ws (k :: r)
theorem chainB_iff {ws : List Way} : ∀ {ns : List Int}, chainB ws ns = true ↔ Chain ws ns
  | [] => by simp [chainB, Chain]
  | [_] => by simp [chainB, Chain]
  | j :: k :: r => by rw [chainB, Chain, Bool.and_eq_true, chainB_iff (ns := k :: r), decide_eq_true_eq]
def walkB (ws : List Way) (ns : List Int) : Bool := !ns.isEmpty && (ns.all (okW ws) && chainB ws ns)
theorem walkB_iff {ws : List Way} {ns : List Int} : walkB ws ns = true ↔ ns ≠ [] ∧ InW ws ns ∧ Chain ws ns := by
  unfold walkB InW
  rw [Bool.and_eq_true, Bool.and_eq_true, chainB_iff, List.all_eq_true]
  constructor
  · rintro ⟨h1, h2, h3⟩
    exact ⟨by rintro rfl; simp at h1, fun k hk => okW_iff.mp (h2 k hk), h3⟩
  · rintro ⟨h1, h2, h3⟩
    exact ⟨by cases ns with | nil => exact absurd rfl h1 | cons _ _ => rfl, fun k hk => okW_iff.mpr (h2 k hk), h3⟩
theorem chainB_range {ws : List Way} : ∀ ns : List Int, ((List.range ns.tail.length).map fun i => decide ((wayAt ws (ns.getD i 0)).b = (wayAt ws (ns.tail.getD i 0)).a)).all id = chainB ws ns
  | [] => rfl
  | [_] => rfl
  | j :: k :: r => by
    rw [chainB, ← chainB_range (k :: r)]
    simp only [List.tail_cons]
    rw [List.length_cons, List.range_succ_eq_map, List.map_cons, List.all_cons, List.map_map]
    rfl
theorem Chain.get {ws : List Way} : ∀ {ns : List Int} {i : Nat} {j k : Int}, Chain ws ns → ns[i]? = some j → ns[i + 1]? = some k → (wayAt ws j).b = (wayAt ws k).a
  | [], _, _, _, _, h, _ => by simp at h
  | [_], 0, _, _, _, _, h => by simp at h
  | [_], _ + 1, _, _, _, h, _ => by simp at h
  | a :: b :: r, 0, j, k, c, h1, h2 => by
    simp at h1 h2
    rw [← h1, ← h2]; exact c.1
  | a :: b :: r, i + 1, j, k, c, h1, h2 => Chain.get (ns := b :: r) (i := i) c.2 (by simpa using h1) (by simpa using h2)
theorem Chain.of {ws : List Way} : ∀ {ns : List Int}, (∀ (i : Nat) (j k : Int), ns[i]? = some j → ns[i + 1]? = some k → (wayAt ws j).b = (wayAt ws k).a) → Chain ws ns
  | [], _ => trivial
  | [_], _ => trivial
  | a :: b :: r, h => ⟨h 0 a b rfl rfl, Chain.of (ns := b :: r) fun i j k e1 e2 => h (i + 1) j k (by simpa using e1) (by simpa using e2)⟩
theorem cutV_tail (ns : List Int) : cutV (ns.map V.int) (some 1) none = ns.tail.map V.int := by
  unfold cutV
  rw [HT.sIx_none]
  have e := HT.sIx_nat (ns.map V.int).length 0 1
  rw [show ((1 : Nat) : Int) = 1 by rfl] at e
  rw [e]
  cases ns with
  | nil => rfl
  | cons a r => simp [List.take_of_length_le]
def spHas : Sp := fun vs H Q _ => ∃ ex R U ws bv ex' d kv, vs = [bv, kv] ∧ Rep ex H (bookPD R U ws) bv ∧ Rep ex' H d kv ∧ Q (.bl (betwD d 0 ((ws.length : Int) - 1))) H
def spIsWalk : Sp := fun vs H Q _ => ∃ ex R U ws bv l ns, vs = [bv, .ref l] ∧ Rep ex H (bookPD R U ws) bv ∧ H l = some (.lst (ns.map V.int)) ∧ ns.length ≤ sizeLine ∧ ∀ H', Kp [] H H' → Q (.bl (walkB ws ns)) H'
/-! ### lists of ints: their use -/
structure IL (ex : List Addr) (H : Hp) (l : Addr) (n : Nat) : Prop where
  is : ∃ ms : List Int, H l = some (.lst (ms.map V.int)) ∧ ms.length ≤ n
  nx : l ∉ ex
theorem IL.kp {ex : List Addr} {H H' : Hp} {l : Addr} {n : Nat} (i : IL ex H l n) (k : Kp [] H H') : IL ex H' l n := by
  obtain ⟨ms, e, z⟩ := i.is
  exact ⟨⟨ms, k _ _ e (by simp), z⟩, i.nx⟩
theorem IL.kpx {ex : List Addr} {H H' : Hp} {l : Addr} {n : Nat} (i : IL ex H l n) (k : Kp ex H H') : IL ex H' l n := by
  obtain ⟨ms, e, z⟩ := i.is
  exact ⟨⟨ms, k _ _ e i.nx, z⟩, i.nx⟩
theorem IL.mono {ex : List Addr} {H : Hp} {l : Addr} {n m : Nat} (i : IL ex H l n) (h : n ≤ m) : IL ex H l m := by
  obtain ⟨ms, e, z⟩ := i.is
  exact ⟨⟨ms, e, by omega⟩, i.nx⟩
theorem IL.cat {ex : List Addr} {H : Hp} {a b : Addr} {n m : Nat} {Q : VK} (ia : IL ex H a n) (ib : IL ex H b m) (hz : n + m ≤ 100000) (fr : ∀ t, H t = none → t ∉ ex) (h : ∀ t H', Kp [] H H' → IL ex H' t (n + m) → Q (.ref t) H') : rCat (.ref a) (.ref b) H Q := by
  obtain ⟨ms, e, z⟩ := ia.is
  obtain ⟨ms', e', z'⟩ := ib.is
  have hs : sizeLine = 16777216 := sizeLine_eq
  exact ⟨a, b, _, _, rfl, rfl, e, e', by simp; omega, fun t ht => h t _ (Kp.new ht _) ⟨⟨ms ++ ms', by rw [upd_same, List.map_append], by simp; omega⟩, fr t ht⟩⟩
theorem IL.cut {K : PySem.W.Frag} {ex : List Addr} {H : Hp} {a : Addr} {n : Nat} {lo hi : Option Int} {Q : VK} (ia : IL ex H a n) (fr : ∀ t, H t = none → t ∉ ex) (h : ∀ t H', Kp [] H H' → IL ex H' t n → Q (.ref t) H') : rSlL K (.ref a) lo hi H Q := by
  obtain ⟨ms, e, z⟩ := ia.is
  obtain ⟨zs, ez, hz⟩ := cutV_ints ms lo hi
  exact ⟨a, _, rfl, SqL.of e, fun t ht => h t _ (Kp.new ht _) ⟨⟨zs, by rw [upd_same, ez], by omega⟩, fr t ht⟩⟩
theorem IL.new {ex : List Addr} {H : Hp} {t : Addr} (ms : List Int) (ht : H t = none) (fr : t ∉ ex) : IL ex (upd H t (.lst (ms.map V.int))) t ms.length := ⟨⟨ms, upd_same, Nat.le_refl _⟩, fr⟩
theorem IL.rev {K : PySem.W.Frag} {ex : List Addr} {H : Hp} {a : Addr} {n : Nat} {Q : VK} (ia : IL ex H a n) (fr : ∀ t, H t = none → t ∉ ex) (h : ∀ t H', Kp [] H H' → IL ex H' t n → Q (.ref t) H') : rRev K (.ref a) H Q := by
  obtain ⟨ms, e, z⟩ := ia.is
  exact ⟨a, _, rfl, SqL.of e, fun t ht => h t _ (Kp.new ht _) ⟨⟨ms.reverse, by rw [upd_same, List.map_reverse], by rw [List.length_reverse]; exact z⟩, fr t ht⟩⟩
theorem IL.new1 {ex : List Addr} {H : Hp} {t : Addr} (k : Int) (ht : H t = none) (fr : t ∉ ex) : IL ex (upd H t (.lst [.int k])) t 1 := ⟨⟨[k], upd_same, Nat.le_refl _⟩, fr⟩
theorem noPart {σ : L2.St} {H : Hp} {Q : Option Int → Hp → Prop} (h : Q none H) : tNoPart σ H Q := h
/-- of these refs each is a list of ints -/
def ILs (ex : List Addr) (H : Hp) (n : Nat) (vs : List V) : Prop := ∀ v ∈ vs, ∃ l, v = .ref l ∧ IL ex H l n
theorem ILs.kp {ex : List Addr} {H H' : Hp} {n : Nat} {vs : List V} (h : ILs ex H n vs) (k : Kp [] H H') : ILs ex H' n vs := fun v hv => let ⟨l, e, i⟩ := h v hv; ⟨l, e, i.kp k⟩
theorem ILs.nil {ex : List Addr} {H : Hp} {n : Nat} : ILs ex H n [] := fun v hv => by cases hv
theorem ILs.cons {ex : List Addr} {H : Hp} {n m : Nat} {l : Addr} {vs : List V} (i : IL ex H l m) (hm : m ≤ n) (r : ILs ex H n vs) : ILs ex H n (.ref l :: vs) := fun v hv => by
  rcases List.mem_cons.mp hv with rfl | hv
  · exact ⟨l, rfl, i.mono hm⟩
  · exact r v hv
theorem ILs.append {ex : List Addr} {H : Hp} {n : Nat} {vs us : List V} (a : ILs ex H n vs) (b : ILs ex H n us) : ILs ex H n (vs ++ us) := fun v hv => by
  rcases List.mem_append.mp hv with hv | hv
  · exact a v hv
  · exact b v hv
theorem atI_mem {xs : List V} {i : Int} (h0 : 0 ≤ i) (h1 : i < xs.length) : ∃ v ∈ xs, atI xs i = some v := by
  have hk : i.toNat < xs.length := by omega
  have e : ((i.toNat : Nat) : Int) = i := by omega
  have q : atI xs ((i.toNat : Nat) : Int) = some xs[i.toNat] := atI_nat (List.getElem?_eq_getElem hk)
  rw [e] at q
  exact ⟨_, List.getElem_mem hk, q⟩
theorem mulOk_big : IntMulOk (10 ^ 50) (10 ^ 49) := by unfold IntMulOk; decide +kernel
def spBent : Sp := fun vs H Q _ => ∃ (p c : Addr) (R U : Int) (ws : List Way) (bv : V) (l : Addr), vs = [.ref p, bv, .ref l] ∧ Jar H p c ∧ Rep [p, c] H (bookPD R U ws) bv ∧ BookOk R U ws ∧ IL [p, c] H l 30 ∧
  ∀ (l' : Addr) (H' : Hp), Jar H' p c → Kp [p, c] H H' → IL [p, c] H' l' 1000 → Q (.ref l') H'
def spBool : Sp := fun vs H Q _ => ∃ (p c : Addr), vs = [.ref p] ∧ Jar H p c ∧ ∀ (H' : Hp), Jar H' p c → Q (.bl true) H'
/-! ### the small book of long walks -/
def W3 : List Way := [⟨0, 0, [-1]⟩, ⟨0, 1, [0]⟩, ⟨1, 0, [2]⟩]
theorem ch0 : ∀ (n : Nat) {xs : List Int}, (∀ k r, xs = k :: r → (wayAt W3 k).a = 0) → Chain W3 xs → Chain W3 (List.replicate n 0 ++ xs)
  | 0, _, _, c => c
  | n + 1, xs, h, c => by
    have ih := ch0 n h c
    rw [List.replicate_succ, List.cons_append]
    cases e : List.replicate n (0 : Int) ++ xs with
    | nil => trivial
    | cons k r =>
      rw [e] at ih
      refine ⟨?_, ih⟩
      show (0 : Int) = (wayAt W3 k).a
      cases n with
      | zero => exact (h k r (by simpa using e)).symm
      | succ n => rw [List.replicate_succ, List.cons_append] at e; cases e; rfl
theorem ch0' (n : Nat) : Chain W3 (List.replicate n 0) := by
  have := ch0 n (xs := []) (fun k r e => by cases e) trivial
  simpa using this
theorem inW3 {ns : List Int} (h : ∀ k ∈ ns, k = 0 ∨ k = 1 ∨ k = 2) : InW W3 ns := fun k hk => by
  rcases h k hk with rfl | rfl | rfl <;> decide
theorem walk_flat (n : Nat) (h : 0 < n) : walkB W3 (List.replicate n 0) = true := by
  rw [walkB_iff]
  refine ⟨fun z => ?_, inW3 fun k hk => .inl (List.mem_replicate.mp hk).2, ch0' n⟩
  have := congrArg List.length z
  simp at this
  omega
theorem walk_on (a b : Nat) (h : 0 < b) : walkB W3 (List.replicate a 0 ++ [1] ++ List.replicate b 0) = false := by
  rw [← Bool.not_eq_true, walkB_iff]
  rintro ⟨_, _, c⟩
  have e := c.get (i := a) (j := 1) (k := 0) (by rw [List.append_assoc, List.getElem?_append_right (by simp)]; simp) (by
    rw [List.append_assoc, List.getElem?_append_right (by simp)]
    simp [List.getElem?_replicate, h])
  revert e; decide
theorem walk_back (a b : Nat) : walkB W3 (List.replicate a 0 ++ [1, 2] ++ List.replicate b 0) = true := by
  rw [walkB_iff]
  refine ⟨by simp, inW3 fun k hk => ?_, ?_⟩
  · rcases List.mem_append.mp hk with hk | hk
    · rcases List.mem_append.mp hk with hk | hk
      · exact .inl (List.mem_replicate.mp hk).2
      · simp at hk; rcases hk with rfl | rfl <;> simp
    · exact .inl (List.mem_replicate.mp hk).2
  · rw [List.append_assoc]
    refine ch0 a (fun k r e => by cases e; rfl) ⟨rfl, ?_⟩
    cases b with
    | zero => trivial
    | succ b => exact ⟨rfl, ch0' (b + 1)⟩
theorem walk_tail (xs : List Int) : walkB W3 (xs ++ [1, 1]) = false := by
  rw [← Bool.not_eq_true, walkB_iff]
  rintro ⟨_, _, c⟩
  have e := c.get (i := xs.length) (j := 1) (k := 1) (by rw [List.getElem?_append_right (by simp)]; simp) (by rw [List.getElem?_append_right (by simp)]; simp)
  revert e; decide
theorem cutV_drop (xs : List V) (k : Nat) : cutV xs (some (k : Int)) none = xs.drop k := by
  unfold cutV
  rw [HT.sIx_none, HT.sIx_nat]
  rcases Nat.le_total k xs.length with h | h
  · rw [Nat.min_eq_left h, List.take_of_length_le (by rw [List.length_drop]; omega)]
  · rw [Nat.min_eq_right h, List.drop_of_length_le (Nat.le_refl _), List.drop_of_length_le h]; simp
theorem rep_W3 {ex : List Addr} {H : Hp} {t1 t2 t3 t4 t5 t6 t7 t8 : Addr} (n : ∀ t ∈ [t1, t2, t3, t4, t5, t6, t7, t8], t ∉ ex) (h1 : H t1 = some (.tup [.int (-1)])) (h2 : H t2 = some (.tup [.int 0, .int 0, .ref t1])) (h3 : H t3 = some (.tup [.int 0])) (h4 : H t4 = some (.tup [.int 0, .int 1, .ref t3]))
    (h5 : H t5 = some (.tup [.int 2])) (h6 : H t6 = some (.tup [.int 1, .int 0, .ref t5])) (h7 : H t7 = some (.tup [.ref t2, .ref t4, .ref t6])) (h8 : H t8 = some (.tup [.int 2, .int 1, .ref t7])) : Rep ex H (bookPD 2 1 W3) (.ref t8) := by
  have z : ∀ {α : Type} {l : List α}, l.length ≤ 1000 → l.length ≤ sizeLine := fun h => small4 h
  have g1 : Rep ex H (wayPD ⟨0, 0, [-1]⟩) (.ref t2) := .tuple h2 (n t2 (by simp)) (z (by simp)) (.cons (.int 0) (.cons (.int 0) (.cons (.tuple h1 (n t1 (by simp)) (z (by simp)) (.cons (.int (-1)) .nil)) .nil)))
  have g2 : Rep ex H (wayPD ⟨0, 1, [0]⟩) (.ref t4) := .tuple h4 (n t4 (by simp)) (z (by simp)) (.cons (.int 0) (.cons (.int 1) (.cons (.tuple h3 (n t3 (by simp)) (z (by simp)) (.cons (.int 0) .nil)) .nil)))
  have g3 : Rep ex H (wayPD ⟨1, 0, [2]⟩) (.ref t6) := .tuple h6 (n t6 (by simp)) (z (by simp)) (.cons (.int 1) (.cons (.int 0) (.cons (.tuple h5 (n t5 (by simp)) (z (by simp)) (.cons (.int 2) .nil)) .nil)))
  exact .tuple h8 (n t8 (by simp)) (z (by simp)) (.cons (.int 2) (.cons (.int 1) (.cons (.tuple h7 (n t7 (by simp)) (z (by simp)) (.cons g1 (.cons g2 (.cons g3 .nil)))) .nil)))
end My

namespace L2
open PySem PySem.Spec PyProof.Rows
section
variable {X : Cx}
/-- a = b = value -/
def tAsg2 (te : TE) (g g' : TG) : TS := fun D σ H => te σ H fun x H1 => g x σ H1 fun σ2 H2 => g' x σ2 H2 D.nx
theorem ps_asg2 {tg tg' e : Expr} {te : TE} {g g' : TG} {pos : Pos} (he : PE X e te) (hg : PG X tg g) (hg' : PG X tg' g') (hs : swapsWithSole [tg, tg'] e pos.line X.env = pure false := by rfl) (hw : swappedStores [tg, tg'] e X.env = pure none := by rfl)
    (h1 : (assignEach [tg, tg'] X.env).map (·.2) = [assign tg X.env, assign tg' X.env] := by rfl) : PS X (.Assign [tg, tg'] e pos) (tAsg2 te g g') := by
  intro pins s σ H D I h
  refine wpAny_Assign_stores (thn (he pins s σ H _ I h) fun v s1 ⟨x, H1, I1, r1, q1⟩ => ?_) hs hw
  rw [h1]
  show wpAny _ _ (do holding [v] (assign tg X.env v); assign tg' X.env v) _ _ s1
  refine wpAny_bind (wpAny_holding (thn (hg pins s1 σ H1 x v _ I1 r1 q1) fun _ s2 ⟨σ2, H2, I2, q2⟩ => ?_))
  exact thn (hg' pins s2 σ2 H2 x v _ I2 r1 q2) fun _ s3 q => q
/-- min of a list of ints -/
theorem call_minL (hc : X.calm = true) : CallR X (.builtin "min") (fun xs H Q => ∃ (p : Addr) (ns : List Int), xs = [.ref p] ∧ SqL X.K H p (ns.map V.int) ∧ ns ≠ [] ∧ ∀ m ∈ ns, (∀ n ∈ ns, m ≤ n) → Q (.int m) H) := by
  intro pins s σ H xs us Q I r h
  obtain ⟨p, ns, rfl, hq, hne, q⟩ := h
  obtain ⟨u, rfl, ru⟩ := vals1 r
  cases ru
  obtain ⟨its, rv, pl, hz⟩ := I.list hq
  have hl := pl.isList
  have hi := intsAre_of rv
  obtain ⟨xs, e⟩ := hi.allInts.items
  have h1 := hi.numsOf
  have h2 : numsOf its.toArray.toList = (xs.toList.map (·.1)) := by rw [e, nums_intItems]
  have h2' : (xs.toList.map (·.1)) = ns := by rw [← h2]; simpa using h1
  have hlen : xs.size = ns.length := by rw [← h2']; simp
  have hpos : 0 < ns.length := List.length_pos_iff.mpr hne
  rw [e] at hl
  refine min_intList (I.ok.hd hc) hl (by omega) fun v h' tk hv hk => ?_
  obtain ⟨b1, b2⟩ := argBest_lt (numAt xs) (xs.size - 1)
  generalize argBest (fun i j => decide (numAt xs i < numAt xs j)) (xs.size - 1) = m at hv b1 b2
  obtain ⟨t, rfl⟩ := intItems_at hv
  have num : ∀ i (hi : i < ns.length), numAt xs i = ns[i] := fun i hi => by
    have hix : i < xs.size := by omega
    have e1 : numAt xs i = xs[i].1 := by unfold numAt; rw [Array.getElem?_eq_getElem hix]; rfl
    rw [e1]
    have e2 : (xs.toList.map (·.1))[i]'(by simpa using hix) = xs[i].1 := by simp
    rw [← e2]
    congr 1
  refine ⟨.int (numAt xs m), H, I.kept (t' := tk) hk, ⟨t, rfl⟩, q _ ?_ fun n hn => ?_⟩
  · rw [num m (by omega)]; exact List.getElem_mem _
  · obtain ⟨i, hi, rfl⟩ := List.mem_iff_getElem.mp hn
    rw [← num i hi]
    exact b2 i (by omega)
end
end L2
namespace My
open PySem PySem.Spec PyProof.Rows L2
/-! ## needs -/
def lowF : List Int → Int
  | [] => 0
  | g :: r => min 0 (g + lowF r)
theorem lowF_np : ∀ gs : List Int, lowF gs ≤ 0
  | [] => by rw [lowF]; omega
  | g :: r => by rw [lowF]; omega
def needF : List Int → Int
  | [] => 0
  | g :: r => max 0 (needF r - g)
theorem need_low : ∀ gs : List Int, needF gs = - lowF gs
  | [] => rfl
  | g :: r => by rw [needF, lowF, need_low r]; omega
theorem needF_nn : ∀ gs : List Int, 0 ≤ needF gs
  | [] => by rw [needF]; omega
  | g :: r => by rw [needF]; omega
theorem needF_le : ∀ (gs : List Int) (x : Int), needF gs ≤ x ↔ ∀ i, i ≤ gs.length → 0 ≤ x + (gs.take i).sum
  | [], x => by
    simp only [needF, List.length_nil, Nat.le_zero]
    constructor
    · rintro h i rfl; simpa using h
    · intro h; simpa using h 0 rfl
  | g :: r, x => by
    rw [needF]
    have ih := needF_le r (x + g)
    constructor
    · intro h i hi
      cases i with
      | zero => simp; omega
      | succ i =>
        have := ih.mp (by omega) i (by simpa using hi)
        simp only [List.take_succ_cons, List.sum_cons]
        omega
    · intro h
      have h0 := h 0 (by simp)
      simp at h0
      have : needF r ≤ x + g := ih.mpr fun i hi => by
        have := h (i + 1) (by simpa using hi)
        simp only [List.take_succ_cons, List.sum_cons] at this
        omega
      omega
def needI (ws : List Way) (U : Int) (ns : List Int) : List Int := (List.range U.toNat).map fun i : Nat => needF (ns.map (gAt ws (i : Int)))
def spLow (K : PySem.W.Frag) : Sp := fun vs H Q _ => ∃ l gs, vs = [.ref l] ∧ SqL K H l (gs.map V.int) ∧ Q (.int (lowF gs)) H
def spNeed (K : PySem.W.Frag) : Sp := fun vs H Q _ => ∃ ex R U ws bv l ns, vs = [bv, .ref l] ∧ Rep ex H (bookPD R U ws) bv ∧ BookOk R U ws ∧ SqL K H l (ns.map V.int) ∧ ns.length ≤ sizeLine ∧ InW ws ns ∧ ∀ t H', Kp [] H H' → H t = none → H' t = some (.tup ((needI ws U ns).map V.int)) → Q (.ref t) H'
def hereI (ws : List Way) (xs ns : List Int) (i : Nat) : List Int := (List.range xs.length).map fun p : Nat => xs.getD p 0 + ((ns.take i).map (gAt ws (p : Int))).sum
theorem hereI_0 (ws : List Way) (xs ns : List Int) : hereI ws xs ns 0 = xs := by
  unfold hereI
  have := range_getD (fun x : Int => x) xs 0
  simp only [List.take_zero, List.map_nil, List.sum_nil, Int.add_zero]
  rw [this]; simp
theorem hereI_len (ws : List Way) (xs ns : List Int) (i : Nat) : (hereI ws xs ns i).length = xs.length := by simp [hereI]
theorem hereI_get (ws : List Way) (xs ns : List Int) (i p : Nat) (h : p < xs.length) : (hereI ws xs ns i)[p]? = some (xs.getD p 0 + ((ns.take i).map (gAt ws (p : Int))).sum) := by
  unfold hereI
  rw [List.getElem?_map, List.getElem?_range h]; rfl
theorem take_sum (ws : List Way) (ns : List Int) (i p : Nat) (k : Int) (h : ns[i]? = some k) : ((ns.take (i + 1)).map (gAt ws (p : Int))).sum = ((ns.take i).map (gAt ws (p : Int))).sum + gAt ws p k := by
  have hi := List.getElem?_eq_some_iff.mp h
  rw [List.take_succ_eq_append_getElem hi.1, hi.2, List.map_append, List.sum_append]
  simp
def goesB (ws : List Way) (U : Int) (ns xs : List Int) : Bool := decide (∀ i, i < U.toNat → needF (ns.map (gAt ws (i : Nat))) ≤ xs.getD i 0)
theorem goesB_of {ws : List Way} {U : Int} {ns xs : List Int} (h : ∀ i, i < U.toNat → ∀ m, m ≤ ns.length → 0 ≤ xs.getD i 0 + ((ns.take m).map (gAt ws ((i : Nat) : Int))).sum) : goesB ws U ns xs = true := by
  unfold goesB
  rw [decide_eq_true_eq]
  intro i hi
  rw [needF_le]
  intro m hm
  rw [← List.map_take]
  exact h i hi m (by simpa using hm)
theorem goesB_no {ws : List Way} {U : Int} {ns xs : List Int} {i m : Nat} (hi : i < U.toNat) (hm : m ≤ ns.length) (h : xs.getD i 0 + ((ns.take m).map (gAt ws ((i : Nat) : Int))).sum < 0) : goesB ws U ns xs = false := by
  unfold goesB
  rw [decide_eq_false_iff_not]
  intro z
  have := (needF_le _ _).mp (z i hi) m (by simpa using hm)
  rw [← List.map_take] at this
  omega
def spGoes (K : PySem.W.Frag) : Sp := fun vs H Q _ => ∃ ex R U ws bv l ns x xs, vs = [bv, .ref l, .ref x] ∧ Rep ex H (bookPD R U ws) bv ∧ BookOk R U ws ∧ SqL K H l (ns.map V.int) ∧ ns.length ≤ sizeLine ∧ InW ws ns ∧ (SqL K H x (xs.map V.int) ∨ SqT K H x (xs.map V.int)) ∧ (xs.length : Int) = U ∧ (∀ n ∈ xs, 0 ≤ n) ∧ ∀ H', Kp [] H H' → Q (.bl (goesB ws U ns xs)) H'
/-- what is due, from the end -/
def dueF (g : Int → Int) (rs : List Int) : Int := rs.foldl (fun d k => max 0 (d - g k)) 0
theorem dueF_snoc (g : Int → Int) (rs : List Int) (k : Int) : dueF g (rs ++ [k]) = max 0 (dueF g rs - g k) := by
  unfold dueF; rw [List.foldl_append]; rfl
theorem needF_foldr (g : Int → Int) : ∀ ns : List Int, needF (ns.map g) = ns.foldr (fun k d => max 0 (d - g k)) 0
  | [] => rfl
  | k :: r => by rw [List.map_cons, needF, needF_foldr g r]; rfl
theorem dueF_rev (g : Int → Int) (ns : List Int) : dueF g ns.reverse = needF (ns.map g) := by
  unfold dueF; rw [List.foldl_reverse, needF_foldr]
theorem take_snoc {rs : List Int} {i : Nat} {k : Int} (h : rs[i]? = some k) : rs.take (i + 1) = rs.take i ++ [k] := by
  have hi := List.getElem?_eq_some_iff.mp h
  rw [List.take_succ_eq_append_getElem hi.1, hi.2]
/-- the ways of the long book, so far -/
def LW (j : Nat) (g : Int) : Way := ⟨0, if decide (V.int (0 + (j : Int)) = V.int 1) then 1 else 0, [g]⟩
def lws : List Int → List Way
  | [] => []
  | g :: r => lws r ++ [LW r.length g]
theorem needI_len (ws : List Way) (U : Int) (ns : List Int) : (needI ws U ns).length = U.toNat := by simp [needI]
theorem needI_get (ws : List Way) (U : Int) (ns : List Int) (j : Nat) (h : j < U.toNat) : (needI ws U ns)[j]? = some (needF (ns.map (gAt ws (j : Int)))) := by
  unfold needI; rw [List.getElem?_map, List.getElem?_range h]; rfl
theorem needI_nn {ws : List Way} {U : Int} {ns : List Int} {n : Int} (h : n ∈ needI ws U ns) : 0 ≤ n := by
  obtain ⟨i, _, rfl⟩ := List.mem_map.mp h
  exact needF_nn _
theorem goes_set (ws : List Way) (U : Int) (ns : List Int) (j : Nat) (v : Int) (h : j < U.toNat) : goesB ws U ns ((needI ws U ns).set j v) = decide (needF (ns.map (gAt ws (j : Int))) ≤ v) := by
  unfold goesB
  rw [decide_eq_decide]
  have hl := needI_len ws U ns
  have get : ∀ i, i < U.toNat → ((needI ws U ns).set j v).getD i 0 = if i = j then v else needF (ns.map (gAt ws (i : Nat))) := fun i hi => by
    rw [List.getD_eq_getElem?_getD, List.getElem?_set]
    by_cases e : j = i
    · rw [if_pos e, if_pos (by omega), if_pos e.symm]; rfl
    · rw [if_neg e, needI_get _ _ _ _ hi, if_neg (fun z => e z.symm)]; rfl
  constructor
  · intro q
    have := q j h
    rw [get j h, if_pos rfl] at this
    exact this
  · intro q i hi
    rw [get i hi]
    split
    · rename_i e; subst e; exact q
    · exact Int.le_refl _
theorem goes_need (ws : List Way) (U : Int) (ns : List Int) : goesB ws U ns (needI ws U ns) = true := by
  unfold goesB
  rw [decide_eq_true_eq]
  intro i hi
  rw [List.getD_eq_getElem?_getD, needI_get _ _ _ _ hi]
  exact Int.le_refl _
theorem at_get {xs : List Int} {j : Nat} {v : Int} (h : xs[j]? = some v) : atI (xs.map V.int) (0 + (j : Int)) = some (.int v) := by
  rw [Int.zero_add]
  exact atI_nat (by rw [List.getElem?_map, h]; rfl)
end My

namespace L2
open PySem PySem.Spec PyProof.Rows
/-! ## zip of three -/
abbrev IsTrip (h : Heap) (T : Addr) (a b c : Value) : Prop := h.get? T = some { cls := .type "tuple", data := .seq #[a, b, c] }
structure ZAp3 (z TI TO j1 j2 j3 : Addr) (f1 f2 f3 : List Addr) : Prop where
  m1 : j1 ∈ f1
  m2 : j2 ∈ f2
  m3 : j3 ∈ f3
  z1 : z ∉ f1
  z2 : z ∉ f2
  z3 : z ∉ f3
  o1 : TO ∉ f1
  o2 : TO ∉ f2
  o3 : TO ∉ f3
  q12 : j1 ∉ f2
  q13 : j1 ∉ f3
  q21 : j2 ∉ f1
  q23 : j2 ∉ f3
  q31 : j3 ∉ f1
  q32 : j3 ∉ f2
  iz : TI ≠ z
  io : TI ≠ TO
  i1 : TI ≠ j1
  i2 : TI ≠ j2
  i3 : TI ≠ j3
  oz : TO ≠ z
section
variable {prog : Program} {w : World} {A : Around} {E : Value → Shared → Prop} {s : Shared} {z TI TO j1 j2 j3 : Addr} {f1 f2 f3 : List Addr} {n1 n2 n3 i : Nat} {P1 P2 P3 : Nat → Value → Prop} {St1 St2 St3 : Nat → Heap → Prop} {a b c : Value}
theorem updTrip {T : Addr} {x : Value} {k : Nat} {Q : Unit → Shared → Prop} (hT : IsTrip s.heap T a b c)
    (h : ∀ h', h'.get? T = some { cls := .type "tuple", data := .seq ((#[a, b, c] : Array Value).setIfInBounds k x) } → Heap.SameBut T s.heap h' → Q () { s with heap := h' }) : wpAny (model prog w) A (updateSeq T (·.setIfInBounds k x)) Q E s := by
  refine wpAny_updateSeq hT rfl (h _ ?_ (Heap.SameBut.update ..)); rw [Heap.get?_update_self _ hT rfl]; simp [Obj.mapSeq]
theorem zip3_item {Q : Value → Shared → Prop} (D : ZAp3 z TI TO j1 j2 j3 f1 f2 f3) (D1 : Draws prog w A j1 f1 n1 P1 St1) (D2 : Draws prog w A j2 f2 n2 P2 St2) (D3 : Draws prog w A j3 f3 n3 P3 St3) (hz : IsZip s.heap z TI TO .none) (hI : IsTrip s.heap TI (.ref j1) (.ref j2) (.ref j3)) (hO : IsTrip s.heap TO a b c)
    (st1 : St1 i s.heap) (st2 : St2 i s.heap) (st3 : St3 i s.heap) (l1 : i < n1) (l2 : i < n2) (l3 : i < n3)
    (q : ∀ x y u h' tk, P1 i x → P2 i y → P3 i u → IsZip h' z TI TO (rawInt s.heap.objs.size) → IsTrip h' TO x y u → St1 (i + 1) h' → St2 (i + 1) h' → St3 (i + 1) h' → IsTrip h' s.heap.objs.size x y u → h'.objs.size = s.heap.objs.size + 1 →
      (∀ d o, d ≠ z → d ≠ TO → d ≠ j1 → d ≠ j2 → d ≠ j3 → s.heap.get? d = some o → h'.get? d = some o) → Q (.ref s.heap.objs.size) { s with heap := h', toks := tk }) :
    wpAny (model prog w) A (Builtin.«zip.__next__» ⟨[.ref z], []⟩) (fun fin s' => ∃ v, fin = .done (.ret v) ∧ Q v s') E s := by
  obtain ⟨hp, gg, dd, t0, os⟩ := s
  show wpAny _ _ (field (.ref z) 2 >>= _) _ _ _; refine wpAny_bind (wpAny_field hz rfl (x := .bool false) rfl ?_)
  show wpAny _ _ (field (.ref z) 3 >>= _) _ _ _; refine wpAny_bind (wpAny_field hz rfl (x := .ref TI) rfl ?_)
  refine wpAny_bind (wpAny_seqItems hI rfl ?_)
  show wpAny _ _ (Builtin.SmallTypes.ownedTupleIsFree (.ref z) >>= _) _ _ _; refine wpAny_bind ?_; unfold Builtin.SmallTypes.ownedTupleIsFree
  refine wpAny_bind (wpAny_field hz rfl (x := .none) rfl (wpAny_pure ?_)); simp only [if_true]; refine wpAny_bind (wpAny_rule ?_)
  refine wpAny_bind (wpAny_field hz rfl (x := .ref TO) rfl ?_)
  refine wpAny_bind (wpAny_setField_rec hz (by simp) fun g1 z1 b1 => ?_); replace z1 : IsZip g1 z TI TO .ellipsis := z1; replace b1 : Heap.SameBut z hp g1 := b1
  have j1z : j1 ≠ z := ne_mem D.z1 D.m1
  have j2z : j2 ≠ z := ne_mem D.z2 D.m2
  have j3z : j3 ≠ z := ne_mem D.z3 D.m3
  have j1o : j1 ≠ TO := ne_mem D.o1 D.m1
  have j2o : j2 ≠ TO := ne_mem D.o2 D.m2
  have j3o : j3 ≠ TO := ne_mem D.o3 D.m3
  refine wpAny_bind ?_; simp only [List.zipIdx_cons, List.zipIdx_nil, List.forIn_cons, List.forIn_nil]
  refine wpAny_bind (wpAny_bind (wpAny_onRaise ?_))
  show wpAny _ _ (Builtin.SmallTypes.nextOf (.ref j1) >>= _) _ _ _
  refine wpAny_bind (D1.item i _ _ _ l1 (D1.frame _ _ _ st1 fun d hd o e => b1.extBut d o (ne_mem D.z1 hd) e) fun x g2 t2 px s12 b2 => wpAny_pure ?_); replace b2 : Heap.SameBut j1 g1 g2 := b2
  have o2 : IsTrip g2 TO a b c := b2.extBut _ _ (Ne.symm j1o) (b1.extBut _ _ D.oz hO)
  refine wpAny_bind (wpAny_seqItems o2 rfl ?_)
  refine wpAny_bind (updTrip o2 fun g3 o3 b3 => ?_); replace o3 : IsTrip g3 TO x b c := o3; replace b3 : Heap.SameBut TO g2 g3 := b3
  refine wpAny_bind (wpAny_letGo (wpAny_pure ?_)); refine wpAny_bind (wpAny_bind (wpAny_onRaise ?_))
  show wpAny _ _ (Builtin.SmallTypes.nextOf (.ref j2) >>= _) _ _ _
  refine wpAny_bind (D2.item i _ _ _ l2 (D2.frame _ _ _ st2 fun d hd o e => b3.extBut d o (ne_mem D.o2 hd) (b2.extBut d o (ne_mem D.q12 hd) (b1.extBut d o (ne_mem D.z2 hd) e))) fun y g4 t4 py s24 b4 => wpAny_pure ?_); replace b4 : Heap.SameBut j2 g3 g4 := b4
  have o4 : IsTrip g4 TO x b c := b4.extBut _ _ (Ne.symm j2o) o3
  refine wpAny_bind (wpAny_seqItems o4 rfl ?_)
  refine wpAny_bind (updTrip o4 fun g5 o5 b5 => ?_); replace o5 : IsTrip g5 TO x y c := o5; replace b5 : Heap.SameBut TO g4 g5 := b5
  refine wpAny_bind (wpAny_letGo (wpAny_pure ?_)); refine wpAny_bind (wpAny_bind (wpAny_onRaise ?_))
  show wpAny _ _ (Builtin.SmallTypes.nextOf (.ref j3) >>= _) _ _ _
  refine wpAny_bind (D3.item i _ _ _ l3 (D3.frame _ _ _ st3 fun d hd o e => b5.extBut d o (ne_mem D.o3 hd) (b4.extBut d o (ne_mem D.q23 hd) (b3.extBut d o (ne_mem D.o3 hd) (b2.extBut d o (ne_mem D.q13 hd) (b1.extBut d o (ne_mem D.z3 hd) e))))) fun u g6 t6 pu s36 b6 => wpAny_pure ?_); replace b6 : Heap.SameBut j3 g5 g6 := b6
  have o6 : IsTrip g6 TO x y c := b6.extBut _ _ (Ne.symm j3o) o5
  refine wpAny_bind (wpAny_seqItems o6 rfl ?_)
  refine wpAny_bind (updTrip o6 fun g7 o7 b7 => ?_); replace o7 : IsTrip g7 TO x y u := o7; replace b7 : Heap.SameBut TO g6 g7 := b7
  refine wpAny_bind (wpAny_letGo (wpAny_pure (wpAny_pure ?_)))
  refine wpAny_bind (wpAny_seqItems o7 rfl ?_); refine wpAny_bind (wpAny_newTuple ?_)
  have sz : g7.objs.size = hp.objs.size := by rw [b7.1, b6.1, b5.1, b4.1, b3.1, b2.1, b1.1]
  have z7 : IsZip g7 z TI TO .ellipsis := b7.extBut _ _ (Ne.symm D.oz) (b6.extBut _ _ (Ne.symm j3z) (b5.extBut _ _ (Ne.symm D.oz) (b4.extBut _ _ (Ne.symm j2z) (b3.extBut _ _ (Ne.symm D.oz) (b2.extBut _ _ (Ne.symm j1z) z1)))))
  have k7 : ∀ d o, d ≠ z → d ≠ TO → d ≠ j1 → d ≠ j2 → d ≠ j3 → hp.get? d = some o → g7.get? d = some o := fun d o c1 c2 c3 c4 c5 e => b7.extBut _ _ c2 (b6.extBut _ _ c5 (b5.extBut _ _ c2 (b4.extBut _ _ c4 (b3.extBut _ _ c2 (b2.extBut _ _ c3 (b1.extBut _ _ c1 e))))))
  have s17 : St1 (i + 1) g7 := D1.frame _ _ _ s12 fun d hd o e => b7.extBut d o (ne_mem D.o1 hd) (b6.extBut d o (ne_mem D.q31 hd) (b5.extBut d o (ne_mem D.o1 hd) (b4.extBut d o (ne_mem D.q21 hd) (b3.extBut d o (ne_mem D.o1 hd) e))))
  have s27 : St2 (i + 1) g7 := D2.frame _ _ _ s24 fun d hd o e => b7.extBut d o (ne_mem D.o2 hd) (b6.extBut d o (ne_mem D.q32 hd) (b5.extBut d o (ne_mem D.o2 hd) e))
  have s37 : St3 (i + 1) g7 := D3.frame _ _ _ s36 fun d hd o e => b7.extBut d o (ne_mem D.o3 hd) e
  have zl : z < g7.objs.size := Heap.lt_size z7
  show wpAny _ _ (Builtin.SmallTypes.ownedTupleHandOut (.ref z) (.ref g7.objs.size) >>= _) _ _ _; refine wpAny_bind ?_; unfold Builtin.SmallTypes.ownedTupleHandOut
  have z8 : IsZip (g7.push { cls := .type "tuple", data := .seq #[x, y, u] }) z TI TO .ellipsis := Heap.get?_push_of_some _ z7
  refine wpAny_bind (wpAny_setField_rec z8 (by simp) fun g9 z9 b9 => ?_); replace z9 : IsZip g9 z TI TO (rawInt g7.objs.size) := z9
  refine wpAny_setField_rec z9 (by simp) fun g10 z10 b10 => ?_; replace z10 : IsZip g10 z TI TO (rawInt g7.objs.size) := z10
  have up : ∀ d o, d ≠ z → g7.get? d = some o → g10.get? d = some o := fun d o c1 e => b10.extBut _ _ c1 (b9.extBut _ _ c1 (Heap.get?_push_of_some _ e))
  have t10 : IsTrip g10 g7.objs.size x y u := b10.extBut _ _ (Nat.ne_of_gt zl) (b9.extBut _ _ (Nat.ne_of_gt zl) (Heap.get?_push_size _ rfl))
  have s10 : g10.objs.size = g7.objs.size + 1 := by rw [b10.1, b9.1, Heap.size_push]
  rw [sz] at z10 t10 s10
  refine wpAny_pure ⟨_, rfl, ?_⟩; show Q (.ref g7.objs.size) _; rw [sz]
  exact q x y u g10 t6 px py pu z10 (up _ _ D.oz o7) (D1.frame _ _ _ s17 fun d hd o e => up d o (ne_mem D.z1 hd) e) (D2.frame _ _ _ s27 fun d hd o e => up d o (ne_mem D.z2 hd) e) (D3.frame _ _ _ s37 fun d hd o e => up d o (ne_mem D.z3 hd) e) t10 s10 fun d o c1 c2 c3 c4 c5 e => up d o c1 (k7 d o c1 c2 c3 c4 c5 e)
/-- where all three end at once -/
theorem zip3_end {Q : Fin → Shared → Prop} (D : ZAp3 z TI TO j1 j2 j3 f1 f2 f3) (D1 : Draws prog w A j1 f1 n1 P1 St1) (hz : IsZip s.heap z TI TO .none) (hI : IsTrip s.heap TI (.ref j1) (.ref j2) (.ref j3))
    (st1 : St1 n1 s.heap) (q : ∀ h' e, (∀ d o, d ≠ z → d ≠ TO → d ≠ j1 → d ≠ j2 → d ≠ j3 → s.heap.get? d = some o → h'.get? d = some o) → (∃ o, h'.get? e = some o ∧ o.cls = .type "StopIteration") → E (.ref e) { s with heap := h' }) :
    wpAny (model prog w) A (Builtin.«zip.__next__» ⟨[.ref z], []⟩) Q E s := by
  obtain ⟨hp, gg, dd, t0, os⟩ := s
  show wpAny _ _ (field (.ref z) 2 >>= _) _ _ _; refine wpAny_bind (wpAny_field hz rfl (x := .bool false) rfl ?_)
  show wpAny _ _ (field (.ref z) 3 >>= _) _ _ _; refine wpAny_bind (wpAny_field hz rfl (x := .ref TI) rfl ?_)
  refine wpAny_bind (wpAny_seqItems hI rfl ?_)
  show wpAny _ _ (Builtin.SmallTypes.ownedTupleIsFree (.ref z) >>= _) _ _ _; refine wpAny_bind ?_; unfold Builtin.SmallTypes.ownedTupleIsFree
  refine wpAny_bind (wpAny_field hz rfl (x := .none) rfl (wpAny_pure ?_)); simp only [if_true]; refine wpAny_bind (wpAny_rule ?_)
  refine wpAny_bind (wpAny_field hz rfl (x := .ref TO) rfl ?_)
  refine wpAny_bind (wpAny_setField_rec hz (by simp) fun g1 z1 b1 => ?_); replace z1 : IsZip g1 z TI TO .ellipsis := z1; replace b1 : Heap.SameBut z hp g1 := b1
  refine wpAny_bind ?_; simp only [List.zipIdx_cons, List.zipIdx_nil, List.forIn_cons, List.forIn_nil]
  refine wpAny_bind (wpAny_bind (wpAny_onRaise ?_))
  show wpAny _ _ (Builtin.SmallTypes.nextOf (.ref j1) >>= _) _ _ _
  have s11 := D1.frame _ _ _ st1 fun d hd o e => b1.extBut d o (ne_mem D.z1 hd) e
  refine wpAny_bind (D1.done _ _ _ s11 fun g2 e b2 he => ?_)
  obtain ⟨oe, hoe, hce⟩ := he
  have z2 : IsZip g2 z TI TO .ellipsis := b2 _ _ (Ne.symm (ne_mem D.z1 D.m1)) z1
  have ez : e ≠ z := fun x => by subst x; rw [z2] at hoe; cases hoe; simp at hce
  refine wpAny_setField_rec z2 (by simp) fun g3 _ b3 => ?_
  exact q g3 e (fun d o c1 _ c3 _ _ x => b3.extBut _ _ c1 (b2 _ _ c3 (b1.extBut _ _ c1 x))) ⟨oe, b3.extBut _ _ ez hoe, hce⟩
end
abbrev zt3 (b b' b'' : Bool) (h : Heap) (l m k : Addr) : Heap := (zz2 b b' h l m).push (itObj b'' k)
abbrev zt4 (b b' b'' : Bool) (h : Heap) (l m k : Addr) : Heap := (zt3 b b' b'' h l m k).push { cls := .type "tuple", data := .seq #[.ref h.objs.size, .ref (zz1 b h l).objs.size, .ref (zz2 b b' h l m).objs.size] }
abbrev zt5 (b b' b'' : Bool) (h : Heap) (l m k : Addr) : Heap := (zt4 b b' b'' h l m k).push { cls := .type "tuple", data := .seq #[.none, .none, .none] }
abbrev zt6 (b b' b'' : Bool) (h : Heap) (l m k : Addr) : Heap := (zt5 b b' b'' h l m k).push { cls := .type "zip", data := .fields #[.none, .bool false, .bool false, .ref (zt3 b b' b'' h l m k).objs.size, .ref (zt4 b b' b'' h l m k).objs.size] }
theorem zip3_new (b b' b'' : Bool) (l m k : Addr) (xs ys us : Array Value) :
    Meets (Builtin.«zip.__new__» ⟨[.type "zip", .ref l, .ref m, .ref k], []⟩) (fun _ R s => SqAt b s.heap l xs ∧ SqAt b' s.heap m ys ∧ SqAt b'' s.heap k us ∧
      R (.ok (.ret (.ref (zt5 b b' b'' s.heap l m k).objs.size))) { s with heap := zt6 b b' b'' s.heap l m k }) :=
  .of_wp fun prog w A R s h => by
    obtain ⟨hp, g, d, tk, os⟩ := s; obtain ⟨x1, x2, x3, h⟩ := h
    have hsub := sub_zip
    have x1' : SqAt b (Shared.heap ⟨hp, g, d, tk, os⟩) l xs := x1
    have x2' : SqAt b' (Shared.heap ⟨hp.push (itObj b l), g, d, tk, os⟩) m ys := SqAt.at x2 fun o e => Heap.get?_push_of_some _ e
    have x3' : SqAt b'' (Shared.heap ⟨(hp.push (itObj b l)).push (itObj b' m), g, d, tk, os⟩) k us := SqAt.at x3 fun o e => Heap.get?_push_of_some _ (Heap.get?_push_of_some _ e)
    wp_walk using pyIter_itObj x1', pyIter_itObj x2', pyIter_itObj x3'
    exact ⟨_, rfl, h⟩
theorem typeCall_zip3 (a b c : Value) : checkTypeCall "zip" ⟨[a, b, c], []⟩ = pure () := by kernel_rfl
theorem newCall_zip3 (a b c : Value) : checkBuiltinCall "zip.__new__" ⟨[.type "zip", a, b, c], []⟩ = pure () := by kernel_rfl
theorem args_init4 (a b c d : Value) : argsOk "object.__init__" ⟨[a, b, c, d], []⟩ := by
  unfold argsOk; rw [signature?_of (id := "object.__init__") (n := ['_', '_', 't', 'i', 'n', 'i', '_', '_']) (o := ['t', 'c', 'e', 'j', 'b', 'o']) (by kernel_rfl) F.owner_object]; kernel_rfl
end L2

namespace L2
open PySem PySem.Spec PyProof.Rows
theorem call_zip3 {prog : Program} {w : World} {A : Around} {E : Value → Shared → Prop} {s : Shared} (b b' b'' : Bool) {l m k : Addr} {xs ys us : Array Value} {Q : Value → Shared → Prop} (x1 : SqAt b s.heap l xs) (x2 : SqAt b' s.heap m ys) (x3 : SqAt b'' s.heap k us)
    (q : ∀ h', IsZip h' (s.heap.objs.size + 5) (s.heap.objs.size + 3) (s.heap.objs.size + 4) .none → IsTrip h' (s.heap.objs.size + 3) (.ref s.heap.objs.size) (.ref (s.heap.objs.size + 1)) (.ref (s.heap.objs.size + 2)) →
      IsTrip h' (s.heap.objs.size + 4) .none .none .none → ItAt b h' s.heap.objs.size l 0 → ItAt b' h' (s.heap.objs.size + 1) m 0 → ItAt b'' h' (s.heap.objs.size + 2) k 0 →
      (∀ c o, s.heap.get? c = some o → h'.get? c = some o) → Q (.ref (s.heap.objs.size + 5)) { s with heap := h' }) :
    wpAny (model prog w) A (call (.type "zip") [.ref l, .ref m, .ref k]) Q E s := by
  refine callType_new F.called_zip (by decide) (typeCall_zip3 _ _ _) (newCall_zip3 _ _ _) (fun obj => args_init4 obj _ _ _) F.entry_zip_new (zip3_new b b' b'' l m k xs ys us) ⟨x1, x2, x3, ?_⟩
  have y1 : (zz1 b s.heap l).objs.size = s.heap.objs.size + 1 := Heap.size_push ..
  have y2 : (zz2 b b' s.heap l m).objs.size = s.heap.objs.size + 2 := by rw [Heap.size_push, y1]
  have y3 : (zt3 b b' b'' s.heap l m k).objs.size = s.heap.objs.size + 3 := by rw [Heap.size_push, y2]
  have y4 : (zt4 b b' b'' s.heap l m k).objs.size = s.heap.objs.size + 4 := by rw [Heap.size_push, y3]
  have y5 : (zt5 b b' b'' s.heap l m k).objs.size = s.heap.objs.size + 5 := by rw [Heap.size_push, y4]
  have fr : ∀ b l, (itObj b l).isFreed = false := fun b l => by cases b <;> rfl
  have g6 : (zt6 b b' b'' s.heap l m k).get? (zt5 b b' b'' s.heap l m k).objs.size = some _ := Heap.get?_push_size _ rfl
  have g5 : (zt6 b b' b'' s.heap l m k).get? (zt4 b b' b'' s.heap l m k).objs.size = some _ := Heap.get?_push_of_some _ (Heap.get?_push_size _ rfl)
  have g4 : (zt6 b b' b'' s.heap l m k).get? (zt3 b b' b'' s.heap l m k).objs.size = some _ := Heap.get?_push_of_some _ (Heap.get?_push_of_some _ (Heap.get?_push_size _ rfl))
  have g3 : (zt6 b b' b'' s.heap l m k).get? (zz2 b b' s.heap l m).objs.size = some _ := Heap.get?_push_of_some _ (Heap.get?_push_of_some _ (Heap.get?_push_of_some _ (Heap.get?_push_size _ (fr b'' k))))
  have g2 : (zt6 b b' b'' s.heap l m k).get? (zz1 b s.heap l).objs.size = some _ := Heap.get?_push_of_some _ (Heap.get?_push_of_some _ (Heap.get?_push_of_some _ (Heap.get?_push_of_some _ (Heap.get?_push_size _ (fr b' m)))))
  have g1 : (zt6 b b' b'' s.heap l m k).get? s.heap.objs.size = some _ := Heap.get?_push_of_some _ (Heap.get?_push_of_some _ (Heap.get?_push_of_some _ (Heap.get?_push_of_some _ (Heap.get?_push_of_some _ (Heap.get?_push_size _ (fr b l))))))
  show _ ∧ _
  rw [y3, y4, y5] at g6; rw [y1, y2, y3] at g4; rw [y4] at g5; rw [y1] at g2; rw [y2] at g3; rw [y5]
  exact ⟨⟨_, g6, rfl⟩, q _ g6 g4 g5 (itObj_at g1) (itObj_at g2) (itObj_at g3) fun c o x => Heap.get?_push_of_some _ (Heap.get?_push_of_some _ (Heap.get?_push_of_some _ (Heap.get?_push_of_some _ (Heap.get?_push_of_some _ (Heap.get?_push_of_some _ x)))))⟩
def It3 (b b' b'' : Bool) (K : PySem.W.Frag) (a c e : Addr) : It :=
  ⟨fun i H => ∃ xs ys us x y u, SqK b K H a xs ∧ SqK b' K H c ys ∧ SqK b'' K H e us ∧ xs[i]? = some x ∧ ys[i]? = some y ∧ us[i]? = some u,
   fun i H v H' => ∃ p x y u, H p = none ∧ H' = upd H p (.tup [x, y, u]) ∧ v = .ref p ∧ (∀ xs, SqK b K H a xs → xs[i]? = some x) ∧ (∀ ys, SqK b' K H c ys → ys[i]? = some y) ∧ ∀ us, SqK b'' K H e us → us[i]? = some u,
   fun i H => ∃ xs ys us, SqK b K H a xs ∧ SqK b' K H c ys ∧ SqK b'' K H e us ∧ xs.length = i⟩
theorem turn_zip3 {P : Program} {w : World} {K : PySem.W.Frag} {es : List Expr} {kk : Nat} {tp : Pos} (b b' b'' : Bool) (a c e z TI TO j1 j2 j3 : Addr) (dz : [z, TI, TO, j1, j2, j3].Nodup) :
    Turn P w K (.Tuple es kk tp) (It3 b b' b'' K a c e) [z, TI, TO, j1, j2, j3] z (fun i h => IsZip h z TI TO .none ∧ IsTrip h TI (.ref j1) (.ref j2) (.ref j3) ∧ (∃ u v x, IsTrip h TO u v x) ∧ ItAt b h j1 a i ∧ ItAt b' h j2 c i ∧ ItAt b'' h j3 e i) where
  mem := by simp
  obj := fun i h st d hd => by
    obtain ⟨hz, hI, ⟨u, v, x, hO⟩, h1, h2, h3⟩ := st
    simp only [List.mem_cons, List.not_mem_nil, or_false] at hd
    rcases hd with rfl | rfl | rfl | rfl | rfl | rfl
    · exact ⟨_, hz, fun v z => by have z' : Data.fields _ = Data.cell v := z; cases z'⟩
    · exact ⟨_, hI, fun w z => by have z' : Data.seq _ _ = Data.cell w := z; cases z'⟩
    · exact ⟨_, hO, fun w z => by have z' : Data.seq _ _ = Data.cell w := z; cases z'⟩
    · exact h1.obj
    · exact h2.obj
    · exact h3.obj
  keep := fun i h h' st k => by
    obtain ⟨hz, hI, ⟨u, v, x, hO⟩, h1, h2, h3⟩ := st
    exact ⟨k z (by simp) _ hz, k TI (by simp) _ hI, ⟨u, v, x, k TO (by simp) _ hO⟩, h1.at fun o q => k j1 (by simp) o q, h2.at fun o q => k j2 (by simp) o q, h3.at fun o q => k j3 (by simp) o q⟩
  item := by
    intro X hP hw hK hc i pins s σ H E I hf st hg
    subst hP hw hK
    obtain ⟨xs, ys, us, x, y, t, hq, hq', hq'', hx, hy, ht⟩ := hg
    obtain ⟨its, rv, p, _⟩ := I.seqK hq
    obtain ⟨its', rv', p', _⟩ := I.seqK hq'
    obtain ⟨its'', rv'', p'', _⟩ := I.seqK hq''
    obtain ⟨u, hu, ru⟩ := rv.get hx
    obtain ⟨u', hu', ru'⟩ := rv'.get hy
    obtain ⟨u'', hu'', ru''⟩ := rv''.get ht
    obtain ⟨hz, hI, ⟨o1, o2, o3, hO⟩, h1, h2, h3⟩ := st
    have na := fun d hd => I.seqK_ne hq (hf d hd)
    have na' := fun d hd => I.seqK_ne hq' (hf d hd)
    have na'' := fun d hd => I.seqK_ne hq'' (hf d hd)
    simp only [List.nodup_cons, List.mem_cons, List.not_mem_nil, or_false, not_or] at dz
    obtain ⟨⟨d1, d2, d3, d4, d5⟩, ⟨d6, d7, d8, d9⟩, ⟨d10, d11, d12⟩, ⟨d13, d14⟩, d15, _⟩ := dz
    have hlt : i < its.toArray.size := by have := (List.getElem?_eq_some_iff.mp hu).1; simpa using this
    have hlt' : i < its'.toArray.size := by have := (List.getElem?_eq_some_iff.mp hu').1; simpa using this
    have hlt'' : i < its''.toArray.size := by have := (List.getElem?_eq_some_iff.mp hu'').1; simpa using this
    have nm : ∀ {x y z : Addr}, x ≠ y → z ≠ x → x ∉ [y, z] := fun h1 h2 => by simp; exact ⟨h1, Ne.symm h2⟩
    have D : ZAp3 z TI TO j1 j2 j3 [j1, a] [j2, c] [j3, e] := ⟨by simp, by simp, by simp, nm d3 (na z (by simp)), nm d4 (na' z (by simp)), nm d5 (na'' z (by simp)), nm d10 (na TO (by simp)), nm d11 (na' TO (by simp)), nm d12 (na'' TO (by simp)),
      nm d13 (na' j1 (by simp)), nm d14 (na'' j1 (by simp)), nm (Ne.symm d13) (na j2 (by simp)), nm d15 (na'' j2 (by simp)), nm (Ne.symm d14) (na j3 (by simp)), nm (Ne.symm d15) (na' j3 (by simp)), Ne.symm d1, d6, d7, d8, d9, Ne.symm d2⟩
    have hT : s.TypeIs (.ref z) "zip" := ⟨_, hz, rfl⟩
    unfold pyNext
    refine wpAny_bind (wpAny_attempt (wpAny_callSpecial?_slot (name := Str.ofString "__next__") hT F.slot_zip_next (wpAny_call_entry F.slot_zip_next hT F.entry_zip_next
      (zip3_item D (draws_of b (A := X.A.in1) (I.ok.hd hc) j1 a (na j1 (by simp)) its.toArray) (draws_of b' (A := X.A.in1) (I.ok.hd hc) j2 c (na' j2 (by simp)) its'.toArray) (draws_of b'' (A := X.A.in1) (I.ok.hd hc) j3 e (na'' j3 (by simp)) its''.toArray) hz hI hO ⟨h1, p⟩ ⟨h2, p'⟩ ⟨h3, p''⟩ hlt hlt' hlt''
        fun v v' v'' g1 tk e1 e2 e3 z1 O1 s1 s2 s3 T1 sz1 k1 => wpAny_pure ?_) (F.args_zip_next_1 _))))
    have ev : v = u := by
      have e1 : its.toArray[i]? = some v := e1
      have : its[i]? = some v := by simpa using e1
      rw [hu] at this; exact (Option.some.inj this).symm
    have ev' : v' = u' := by
      have e2 : its'.toArray[i]? = some v' := e2
      have : its'[i]? = some v' := by simpa using e2
      rw [hu'] at this; exact (Option.some.inj this).symm
    have ev'' : v'' = u'' := by
      have e3 : its''.toArray[i]? = some v'' := e3
      have : its''[i]? = some v'' := by simpa using e3
      rw [hu''] at this; exact (Option.some.inj this).symm
    subst ev ev' ev''
    refine ⟨_, rfl, wpAny_letOwnedTupleGo_zip z1 fun g2 z2 b2 => ?_⟩
    replace b2 : Heap.SameBut z g1 g2 := b2
    have hzs : z < s.heap.objs.size := Heap.lt_size hz
    have kk : ∀ d o, d ∉ [z, TI, TO, j1, j2, j3] → s.heap.get? d = some o → g2.get? d = some o := fun d o hd q => by
      have h1' : d ≠ z := fun e => hd (by simp [e])
      exact b2.extBut _ _ h1' (k1 d o h1' (fun e => hd (by simp [e])) (fun e => hd (by simp [e])) (fun e => hd (by simp [e])) (fun e => hd (by simp [e])) q)
    refine ⟨.ref s.heap.objs.size, upd H s.heap.objs.size (.tup [x, y, t]), I.turnLay (t' := tk) kk hf (Nat.le_refl _) ?_, rfl, ⟨_, x, y, t, I.hok.fresh (Nat.le_refl _), rfl, rfl, fun zs hy => by rw [I.seqK_inj hy hq]; exact hx, fun zs hy' => by rw [I.seqK_inj hy' hq']; exact hy, fun zs hy'' => by rw [I.seqK_inj hy'' hq'']; exact ht⟩,
      ⟨z2, b2.extBut _ _ (Ne.symm d1) (k1 _ _ (Ne.symm d1) d6 d7 d8 d9 hI), ⟨_, _, _, b2.extBut _ _ (Ne.symm d2) O1⟩, s1.1.at fun o q => b2.extBut _ _ (Ne.symm d3) q, s2.1.at fun o q => b2.extBut _ _ (Ne.symm d4) q, s3.1.at fun o q => b2.extBut _ _ (Ne.symm d5) q⟩, fun d hd => ?_⟩
    · exact ⟨by simp [sizeLine_eq], [v, v', v''], .cons ru (.cons ru' (.cons ru'' .nil)), _, b2.extBut _ _ (Nat.ne_of_gt hzs) T1, rfl, 0, rfl⟩
    · have lt : d < s.heap.objs.size := by
        have hd' := hd
        simp only [List.mem_cons, List.not_mem_nil, or_false] at hd'
        rcases hd' with rfl | rfl | rfl | rfl | rfl | rfl
        · exact hzs
        · exact Heap.lt_size hI
        · exact Heap.lt_size hO
        · obtain ⟨o, q, _⟩ := h1.obj; exact Heap.lt_size q
        · obtain ⟨o, q, _⟩ := h2.obj; exact Heap.lt_size q
        · obtain ⟨o, q, _⟩ := h3.obj; exact Heap.lt_size q
      rw [upd_ne (Nat.ne_of_lt lt)]
      exact (hf d hd).1
  done := by
    intro X hP hw hK hc i pins s σ H E I hf st hg
    subst hP hw hK
    obtain ⟨xs, ys, us, hq, hq', hq'', hm⟩ := hg
    obtain ⟨its, rv, p, _⟩ := I.seqK hq
    obtain ⟨hz, hI, ⟨o1, o2, o3, hO⟩, h1, h2, h3⟩ := st
    have na := fun d hd => I.seqK_ne hq (hf d hd)
    have na' := fun d hd => I.seqK_ne hq' (hf d hd)
    have na'' := fun d hd => I.seqK_ne hq'' (hf d hd)
    simp only [List.nodup_cons, List.mem_cons, List.not_mem_nil, or_false, not_or] at dz
    obtain ⟨⟨d1, d2, d3, d4, d5⟩, ⟨d6, d7, d8, d9⟩, ⟨d10, d11, d12⟩, ⟨d13, d14⟩, d15, _⟩ := dz
    have nm : ∀ {x y z : Addr}, x ≠ y → z ≠ x → x ∉ [y, z] := fun h1 h2 => by simp; exact ⟨h1, Ne.symm h2⟩
    have D : ZAp3 z TI TO j1 j2 j3 [j1, a] [j2, c] [j3, e] := ⟨by simp, by simp, by simp, nm d3 (na z (by simp)), nm d4 (na' z (by simp)), nm d5 (na'' z (by simp)), nm d10 (na TO (by simp)), nm d11 (na' TO (by simp)), nm d12 (na'' TO (by simp)),
      nm d13 (na' j1 (by simp)), nm d14 (na'' j1 (by simp)), nm (Ne.symm d13) (na j2 (by simp)), nm d15 (na'' j2 (by simp)), nm (Ne.symm d14) (na j3 (by simp)), nm (Ne.symm d15) (na' j3 (by simp)), Ne.symm d1, d6, d7, d8, d9, Ne.symm d2⟩
    have hl := rv.length
    have hn : its.toArray.size = i := by simp; omega
    have hT : s.TypeIs (.ref z) "zip" := ⟨_, hz, rfl⟩
    unfold pyNext
    refine wpAny_bind (wpAny_attempt (wpAny_callSpecial?_slot (name := Str.ofString "__next__") hT F.slot_zip_next (wpAny_call_entry F.slot_zip_next hT F.entry_zip_next
      (zip3_end D (draws_of b (A := X.A.in1) (I.ok.hd hc) j1 a (na j1 (by simp)) its.toArray) hz hI (by rw [hn]; exact ⟨h1, p⟩) fun g1 e' k1 he => ?_) (F.args_zip_next_1 _))))
    obtain ⟨o, ho, hcl⟩ := he
    refine wpAny_bind (wpAny_isInstance (T := "StopIteration") (b := true) ⟨o, ho, hcl⟩ isSubtype_stop (wpAny_pure ⟨rfl, ?_⟩))
    exact I.turnedL (t' := s.toks) (fun d o hd q => k1 d o (fun e => hd (by simp [e])) (fun e => hd (by simp [e])) (fun e => hd (by simp [e])) (fun e => hd (by simp [e])) (fun e => hd (by simp [e])) q) hf
  self := fun _ _ _ _ _ st q => wpAny_pyIter_zip st.1 q
section
variable {X : Cx} {es : List Expr} {kk : Nat} {tp : Pos}
def iZip3 (K : PySem.W.Frag) (ta : TA) : TI := fun σ H R => ta σ H fun vs H1 => ∃ b b' b'' l m k xs ys us, vs = [.ref l, .ref m, .ref k] ∧ SqK b K H1 l xs ∧ SqK b' K H1 m ys ∧ SqK b'' K H1 k us ∧ R (It3 b b' b'' K l m k) H1
theorem pi_zip3 {a b c : Expr} {ta : TA} {p pos : Pos} (hg : Gl X "zip") (hm : X.mg "zip" = none) (ha : PA X [a, b, c] ta) (hs : starEach [a, b, c] X.env = (false, eval a X.env) :: starEach [b, c] X.env := by rfl) (hp : (backTo pos (starEach [b, c] X.env)).any (·.1) = false := by rfl) :
    PI X (.Tuple es kk tp) (.Call (.Name "zip" p) [a, b, c] [] pos) (iZip3 X.K ta) := by
  intro pins s σ H R I h
  refine Call_ (ld_blt I hg hm boot_zip (PyProof.Rows.callWith_type1 (thn (ha pos pins s σ H _ I h) fun us s1 ⟨vs, H1, I1, r1, q1⟩ => ?_) hs hp))
  obtain ⟨b, b', b'', l, m, k, xs, ys, zs, e, hq, hq', hq'', q⟩ := q1
  subst e
  cases r1 with
  | cons ru r1 => cases r1 with
    | cons ru' r1 => cases r1 with
      | cons ru'' r1 =>
        cases r1
        cases ru
        cases ru'
        cases ru''
        obtain ⟨its, rv, p, _⟩ := I1.seqK hq
        obtain ⟨its', rv', p', _⟩ := I1.seqK hq'
        obtain ⟨its'', rv'', p'', _⟩ := I1.seqK hq''
        refine call_zip3 b b' b'' p p' p'' fun h1 hz hI hO i1 i2 i3 hk => wpAny_pyIter_zip hz ?_
        refine ⟨_, [s1.heap.objs.size + 5, s1.heap.objs.size + 3, s1.heap.objs.size + 4, s1.heap.objs.size, s1.heap.objs.size + 1, s1.heap.objs.size + 2], _, _, H1, rfl, I1.kept (t' := s1.toks) hk, turn_zip3 b b' b'' l m k _ _ _ _ _ _ (by simp), ⟨hz, hI, ⟨_, _, _, hO⟩, i1, i2, i3⟩, fun c hc => ?_, q⟩
        have hc' : s1.heap.objs.size ≤ c := by
          simp only [List.mem_cons, List.not_mem_nil, or_false] at hc
          rcases hc with rfl | rfl | rfl | rfl | rfl | rfl
          · exact Nat.le_add_right _ _
          · exact Nat.le_add_right _ _
          · exact Nat.le_add_right _ _
          · exact Nat.le_refl _
          · exact Nat.le_add_right _ _
          · exact Nat.le_add_right _ _
        exact I1.fpOk hc' (I1.hok.fresh hc')
end
/-! ### comprehensions of three names -/
abbrev gThree (K : PySem.W.Frag) : TG := gTup K 3 (gCons (gName 0) (gCons (gName 1) (gCons (gName 2) gNil)))
theorem comp3_zip {K : PySem.W.Frag} {b b' b'' : Bool} {a c e : Addr} {xs xs' xs'' : List V} {te : TE} {l : Addr} {fr : St} {o0 o1 o2 : Option V} {H1 : Hp} {Q : Hp → Prop} (fe : Nat → V) (hq : SqK b K H1 a xs) (hq' : SqK b' K H1 c xs') (hq'' : SqK b'' K H1 e xs'') (n : Nat) (hn : xs.length = n) (hn' : xs'.length = n) (hn'' : xs''.length = n) (hz : n ≤ sizeLine) (hl0 : H1 l = none)
    (step : ∀ i x x' x'' H (N : VK), i < n → xs[i]? = some x → xs'[i]? = some x' → xs''[i]? = some x'' → Kp [] H1 H → (∀ H4, Kp [] H H4 → N (fe i) H4) → te (some x :: some x' :: some x'' :: fr) H N)
    (fin : ∀ H, Kp [] H1 H → H l = some (.lst ((List.range n).map fe)) → Q H) :
    cTurns (It3 b b' b'' K a c e) (gThree K) tNoTest te l (o0 :: o1 :: o2 :: fr) (upd H1 l (.lst [])) Q := by
  refine ⟨fun i m σ H => i ≤ n ∧ m = n - i ∧ ∃ o o' o'', σ = o :: o' :: o'' :: fr ∧ H l = some (.lst ((List.range i).map fe)) ∧ Kp [] H1 H, ⟨n, Nat.zero_le _, rfl, o0, o1, o2, rfl, upd_same, Kp.new hl0 _⟩, ?_⟩
  rintro i m σ H ⟨hi, rfl, o, o', o'', rfl, hl, k1⟩
  rcases Nat.lt_or_ge i n with h | h
  · refine .inr ⟨⟨xs, xs', xs'', xs[i]'(by omega), xs'[i]'(by omega), xs''[i]'(by omega), hq.kp k1, hq'.kp k1, hq''.kp k1, List.getElem?_eq_getElem _, List.getElem?_eq_getElem _, List.getElem?_eq_getElem _⟩, fun v H' y => ?_⟩
    obtain ⟨t, x, x', x'', ht, rfl, rfl, hx, hx', hx''⟩ := y
    have hx := hx xs (hq.kp k1)
    have hx' := hx' xs' (hq'.kp k1)
    have hx'' := hx'' xs'' (hq''.kp k1)
    have k2 : Kp [] H (upd H t (.tup [x, x', x''])) := Kp.new ht _
    refine ⟨t, [x, x', x''], rfl, SqT.of upd_same, rfl, _, _, rfl, _, _, rfl, _, _, rfl, rfl, noTest (iteT (step i x x' x'' _ _ h hx hx' hx'' (k1.trans k2) fun H4 k4 => ?_))⟩
    have hl4 := k4 _ _ (k2 _ _ hl (by simp)) (by simp)
    refine ⟨_, hl4, by simp; omega, n - (i + 1), by omega, by omega, rfl, _, _, _, rfl, ?_, fun d o e nn => ?_⟩
    · rw [upd_same, List.range_succ, List.map_append]; rfl
    · rw [upd_ne (ne_of_none e hl0)]; exact k4 _ _ (k2 _ _ (k1 _ _ e nn) nn) nn
  · have e : i = n := by omega
    subst e
    exact .inl ⟨⟨xs, xs', xs'', hq.kp k1, hq'.kp k1, hq''.kp k1, hn⟩, fin H k1 hl⟩
end L2

namespace My
open PySem PySem.Spec PyProof.Rows L2
/-! ## stands and walks done -/
def putI (xs gs : List Int) : List Int := List.zipWith (· + ·) xs gs
theorem putI_range : ∀ xs gs : List Int, xs.length = gs.length → ((List.range xs.length).map fun i => xs.getD i 0 + gs.getD i 0) = putI xs gs
  | [], [], _ => rfl
  | [], _ :: _, h => by simp at h
  | _ :: _, [], h => by simp at h
  | x :: xs, g :: gs, h => by
    have ih := putI_range xs gs (by simpa using h)
    unfold putI at ih ⊢
    rw [List.zipWith_cons_cons, ← ih, List.length_cons, List.range_succ_eq_map, List.map_cons, List.map_map]
    rfl
theorem putI_len (xs gs : List Int) : (putI xs gs).length = min xs.length gs.length := by unfold putI; simp
def standPD (r : Int) (xs : List Int) : PyData := .tuple [.int r, .tuple (xs.map PyData.int)]
def leadB (a r : Int) (xs gs : List Int) : Bool := decide (a = r) && (putI xs gs).all fun x => decide (0 ≤ x)
def spPut (K : PySem.W.Frag) : Sp := fun vs H Q _ => ∃ a b xs gs, vs = [.ref a, .ref b] ∧ SqT K H a (xs.map V.int) ∧ SqT K H b (gs.map V.int) ∧ xs.length = gs.length ∧ xs.length ≤ 1000 ∧ ∀ t H', Kp [] H H' → H t = none → H' t = some (.tup ((putI xs gs).map V.int)) → Q (.ref t) H'
def spLeads : Sp := fun vs H Q _ => ∃ (ex : List Addr) (w : Way) (r : Int) (xs : List Int) (wv sv : V), vs = [wv, sv] ∧ Rep ex H (wayPD w) wv ∧ Rep ex H (standPD r xs) sv ∧ xs.length = w.g.length ∧ xs.length ≤ 1000 ∧ ∀ H', Kp [] H H' → Q (.bl (leadB w.a r xs w.g)) H'
/-- behind, where the way can be done -/
def spBehind : Sp := fun vs H Q _ => ∃ (ex : List Addr) (R U : Int) (ws : List Way) (bv : V) (r : Int) (xs : List Int) (sv : V) (k : Int), vs = [bv, sv, .int k] ∧ Rep ex H (bookPD R U ws) bv ∧ BookOk R U ws ∧ Rep ex H (standPD r xs) sv ∧ (xs.length : Int) = U ∧ (0 ≤ k ∧ k < ws.length) ∧ leadB (wayAt ws k).a r xs (wayAt ws k).g = true ∧
  (∀ (H' : Hp) (t : Addr), Kp [] H H' → H' t = none → t ∉ ex) ∧ ∀ v H', Kp [] H H' → Rep ex H' (standPD (wayAt ws k).b (putI xs (wayAt ws k).g)) v → Q v H'
def runOk (ws : List Way) : Int → List Int → List Int → Prop
  | _, _, [] => True
  | r, xs, k :: ns => leadB (wayAt ws k).a r xs (wayAt ws k).g = true ∧ runOk ws (wayAt ws k).b (putI xs (wayAt ws k).g) ns
def runR (ws : List Way) : Int → List Int → Int
  | r, [] => r
  | _, k :: ns => runR ws (wayAt ws k).b ns
def runX (ws : List Way) : List Int → List Int → List Int
  | xs, [] => xs
  | xs, k :: ns => runX ws (putI xs (wayAt ws k).g) ns
theorem runOk_app {ws : List Way} : ∀ {ms ns : List Int} {r : Int} {xs : List Int}, runOk ws r xs (ms ++ ns) ↔ runOk ws r xs ms ∧ runOk ws (runR ws r ms) (runX ws xs ms) ns
  | [], ns, r, xs => by simp [runOk, runR, runX]
  | k :: ms, ns, r, xs => by rw [List.cons_append, runOk, runOk, runR, runX, runOk_app (ms := ms), and_assoc]
theorem runR_app {ws : List Way} : ∀ {ms ns : List Int} {r : Int}, runR ws r (ms ++ ns) = runR ws (runR ws r ms) ns
  | [], _, _ => rfl
  | k :: ms, ns, r => by rw [List.cons_append, runR, runR, runR_app]
theorem runX_app {ws : List Way} : ∀ {ms ns : List Int} {xs : List Int}, runX ws xs (ms ++ ns) = runX ws (runX ws xs ms) ns
  | [], _, _ => rfl
  | k :: ms, ns, xs => by rw [List.cons_append, runX, runX, runX_app]
theorem runX_len {ws : List Way} {U : Int} (hU : ∀ w ∈ ws, (w.g.length : Int) = U) : ∀ {ns xs : List Int}, InW ws ns → (xs.length : Int) = U → ((runX ws xs ns).length : Int) = U
  | [], _, _, h => h
  | k :: ns, xs, hin, h => by
    rw [runX]
    have ik := hin k List.mem_cons_self
    have hm : wayAt ws k ∈ ws := by
      unfold wayAt
      have hk : k.toNat < ws.length := by omega
      rw [List.getD_eq_getElem?_getD, List.getElem?_eq_getElem hk]; exact List.getElem_mem hk
    refine runX_len hU (fun j hj => hin j (List.mem_cons_of_mem _ hj)) ?_
    rw [putI_len]
    have := hU _ hm
    omega
def spDone (K : PySem.W.Frag) : Sp := fun vs H Q _ => ∃ ex R U ws bv r xs sv l ns, vs = [bv, sv, .ref l] ∧ Rep ex H (bookPD R U ws) bv ∧ BookOk R U ws ∧ Rep ex H (standPD r xs) sv ∧ (xs.length : Int) = U ∧ SqL K H l (ns.map V.int) ∧ InW ws ns ∧ runOk ws r xs ns ∧
  (∀ (H' : Hp) (t : Addr), Kp [] H H' → H' t = none → t ∉ ex) ∧ ∀ v H', Kp [] H H' → Rep ex H' (standPD (runR ws r ns) (runX ws xs ns)) v → Q v H'
theorem needF_app : ∀ xs ys : List Int, needF (xs ++ ys) = max (needF xs) (needF ys - xs.sum)
  | [], ys => by
    have := needF_nn ys
    simp [needF]; omega
  | x :: xs, ys => by rw [List.cons_append, needF, needF, needF_app xs ys, List.sum_cons]; omega
theorem getD_map0 (f : Nat → Int) (n i : Nat) (h : i < n) : ((List.range n).map f).getD i 0 = f i := by
  rw [List.getD_eq_getElem?_getD, List.getElem?_map, List.getElem?_range h]; rfl
theorem gainI_app (ws : List Way) (U : Int) (ms ns : List Int) : gainI ws U (ms ++ ns) = putI (gainI ws U ms) (gainI ws U ns) := by
  rw [← putI_range _ _ (by simp [gainI])]
  unfold gainI
  rw [List.length_map, List.length_range]
  refine List.map_congr_left fun i hi => ?_
  rw [List.mem_range] at hi
  rw [getD_map0 _ _ _ hi, getD_map0 _ _ _ hi, List.map_append, List.sum_append]
theorem wayAt_mem {ws : List Way} {k : Int} (h : 0 ≤ k ∧ k < ws.length) : wayAt ws k ∈ ws := by
  unfold wayAt
  have hk : k.toNat < ws.length := by omega
  rw [List.getD_eq_getElem?_getD, List.getElem?_eq_getElem hk]; exact List.getElem_mem hk
/-- a walk can be done from its need, in its first room -/
theorem run_of {ws : List Way} {R U : Int} (ok : BookOk R U ws) : ∀ {ns xs : List Int} {r : Int}, InW ws ns → Chain ws ns → (ns ≠ [] → (wayAt ws (headI ns)).a = r) → (xs.length : Int) = U → (∀ i, i < U.toNat → needF (ns.map (gAt ws (i : Nat))) ≤ xs.getD i 0) → runOk ws r xs ns
  | [], _, _, _, _, _, _, _ => trivial
  | k :: ns, xs, r, hin, hch, hr, hx, hn => by
    have ik := hin k List.mem_cons_self
    have wok := ok.ways _ (wayAt_mem ik)
    have wl := wok.len
    have u0 := ok.p0
    have step : ∀ i, i < U.toNat → (putI xs (wayAt ws k).g)[i]? = some (xs.getD i 0 + gAt ws (i : Nat) k) := fun i hi => by
      rw [← putI_range xs (wayAt ws k).g (by omega), List.getElem?_map, List.getElem?_range (by omega)]
      unfold gAt
      rw [Int.toNat_natCast]; rfl
    have nx : ∀ i, i < U.toNat → needF (ns.map (gAt ws (i : Nat))) ≤ xs.getD i 0 + gAt ws (i : Nat) k := fun i hi => by
      have := hn i hi
      rw [List.map_cons, needF] at this
      omega
    have hlen := putI_len xs (wayAt ws k).g
    refine ⟨?_, run_of ok (fun j hj => hin j (List.mem_cons_of_mem _ hj)) ?_ ?_ ?_ fun i hi => ?_⟩
    · unfold leadB
      rw [Bool.and_eq_true, decide_eq_true_eq, List.all_eq_true]
      refine ⟨hr (by simp), fun x hx' => ?_⟩
      obtain ⟨i, hi, rfl⟩ := List.mem_iff_getElem.mp hx'
      have hi' : i < U.toNat := by omega
      have e := step i hi'
      rw [List.getElem?_eq_getElem hi] at e
      rw [Option.some.inj e, decide_eq_true_eq]
      have := nx i hi'
      have := needF_nn (ns.map (gAt ws (i : Nat)))
      omega
    · cases ns with
      | nil => trivial
      | cons j r => exact hch.2
    · intro hne
      cases ns with
      | nil => exact absurd rfl hne
      | cons j r' => exact hch.1.symm
    · omega
    · rw [List.getD_eq_getElem?_getD, step i hi]
      exact nx i hi
theorem neD_same {ex : List Addr} {H : Hp} {d : PyData} {x y : V} {Q : VK} (r1 : Rep ex H d x) (r2 : Rep ex H d y) (hc : d.canLay0 = true) (hd : d.depth ≤ 50) (q : Q (.bl false) H) : rNeD x y H Q := by
  refine ⟨ex, d, d, r1, r2, hc, hc, by rw [Nat.min_self]; exact hd, ?_⟩
  rw [PySem.SeqAt.eqv_refl d hc]; exact q
theorem canLay_tints (ns : List Int) : (PyData.tuple (ns.map PyData.int)).canLay0 = true := by rw [PyData.canLay0]; exact canLay_ints ns
theorem depth_tints (ns : List Int) : (PyData.tuple (ns.map PyData.int)).depth ≤ 50 := by rw [PyData.depth, depthAll_ints]; decide
theorem canLay_stand (r : Int) (xs : List Int) : (standPD r xs).canLay0 = true := by unfold standPD; simp [PyData.canLay0, PyData.canLayAll0, canLay_ints]
theorem depth_stand (r : Int) (xs : List Int) : (standPD r xs).depth ≤ 50 := by unfold standPD; simp [PyData.depth, PyData.depthAll, depthAll_ints]
theorem neT_same {H : Hp} {a b : Addr} {ns : List Int} {Q : VK} (h1 : H a = some (.tup (ns.map V.int))) (h2 : H b = some (.tup (ns.map V.int))) (z : ns.length ≤ 1000) (q : Q (.bl false) H) : rNeD (.ref a) (.ref b) H Q :=
  neD_same (ex := []) (Rep.tints h1 (by simp) (small4 z)) (Rep.tints h2 (by simp) (small4 z)) (canLay_tints ns) (depth_tints ns) q
theorem Chain.split {ws : List Way} : ∀ {ms os : List Int}, Chain ws (ms ++ os) → Chain ws ms ∧ Chain ws os
  | [], os, c => ⟨trivial, c⟩
  | [j], os, c => ⟨trivial, by
      cases os with
      | nil => trivial
      | cons k r => exact c.2⟩
  | j :: k :: r, os, c => by
    have := Chain.split (ms := k :: r) (os := os) c.2
    exact ⟨⟨c.1, this.1⟩, this.2⟩
theorem Chain.meet {ws : List Way} {ms os : List Int} (c : Chain ws (ms ++ os)) (h1 : ms ≠ []) (h2 : os ≠ []) : (wayAt ws (lastI ms)).b = (wayAt ws (headI os)).a := by
  have e : ms = ms.dropLast ++ [ms.getLast h1] := (List.dropLast_concat_getLast h1).symm
  cases os with
  | nil => exact absurd rfl h2
  | cons k r =>
    have hl : 0 < ms.length := List.length_pos_iff.mpr h1
    refine c.get (i := ms.length - 1) ?_ ?_
    · rw [lastI_eq h1, List.getElem?_append_left (by omega), List.getLast_eq_getElem, List.getElem?_eq_getElem (by omega)]
    · rw [List.getElem?_append_right (by omega)]
      have : ms.length - 1 + 1 - ms.length = 0 := by omega
      rw [this]; rfl
theorem headI_app {ms os : List Int} (h : ms ≠ []) : headI (ms ++ os) = headI ms := by
  cases ms with
  | nil => exact absurd rfl h
  | cons a r => rfl
theorem lastI_app {ms os : List Int} (h : os ≠ []) : lastI (ms ++ os) = lastI os := by
  rw [lastI_eq (by simp [h]), lastI_eq h, List.getLast_append_of_ne_nil _ h]
theorem needI_app (ws : List Way) (U : Int) (ms os : List Int) : needI ws U (ms ++ os) = (List.range U.toNat).map fun i => max ((needI ws U ms).getD i 0) ((needI ws U os).getD i 0 - (gainI ws U ms).getD i 0) := by
  unfold needI gainI
  refine List.map_congr_left fun i hi => ?_
  rw [List.mem_range] at hi
  rw [getD_map0 _ _ _ hi, getD_map0 _ _ _ hi, getD_map0 _ _ _ hi, List.map_append, needF_app]
theorem at20 (x y : V) : atI [x, y] 0 = some x := atI_nat (j := 0) rfl
theorem at21 (x y : V) : atI [x, y] 1 = some y := atI_nat (j := 1) rfl
end My

namespace L2
open PySem PySem.Spec PyProof.Rows
section
variable {X : Cx}
/-- t + u in general -/
def rCatD (K : PySem.W.Frag) : R2 := fun x y H Q => ∃ a b xs ys, x = .ref a ∧ y = .ref b ∧ SqT K H a xs ∧ SqT K H b ys ∧ xs.length + ys.length ≤ sizeLine ∧
  (xs = [] → Q (.ref b) H) ∧ (xs ≠ [] → ys = [] → Q (.ref a) H) ∧ (xs ≠ [] → ys ≠ [] → ∀ p, H p = none → Q (.ref p) (upd H p (.tup (xs ++ ys))))
theorem op_catD : OpR X (binaryOp .Add) (rCatD X.K) := by
  intro pins s σ H x y v u Q I rx ry h
  obtain ⟨a, b, xs, ys, rfl, rfl, ha, hb, hz, q0, q1, q2⟩ := h
  by_cases hx : xs = []
  · cases rx
    cases ry
    obtain ⟨its, r1, ⟨⟨cls, dd, data, sl⟩, ho, hc, n, hd⟩, _⟩ := I.tuple ha
    obtain ⟨its2, r2, ⟨⟨cls2, dd2, data2, sl2⟩, ho2, hc2, n2, hd2⟩, _⟩ := I.tuple hb
    simp only at hc hd hc2 hd2
    subst hc hd hc2 hd2
    have hi : its = [] := r1.nil_iff.mpr hx
    exact concat_meets ⟨_, ho, rfl⟩ ⟨_, ho2, rfl⟩ noFill_tuple_add seq_tuple_add PySem.F.slot_tuple_add PySem.F.entry_tuple_add (PySem.F.args_tuple_add_2 _ _) (tuple_addW0 a b its.toArray its2.toArray n n2 dd dd2 sl sl2 (by simp [hi])) ⟨ho, ho2, .ref b, H, I, rfl, q0 hx⟩
  · exact op_catT pins s σ H (.ref a) (.ref b) v u Q I rx ry ⟨a, b, xs, ys, rfl, rfl, ha, hb, hx, hz, q1 hx, q2 hx⟩
/-- repr of data -/
def ShOk (d : PyData) : Prop := d.canLay0 = true ∧ d.showable = true ∧ d.depth ≤ 50 ∧ d.shown.length ≤ sizeLine
theorem call_repr (hg : X.A.guards = some []) (hu : X.A.units + 64 < cLine) : CallR X (.builtin "repr") (fun xs H Q => ∃ ex d v, xs = [v] ∧ Rep ex H d v ∧ ShOk d ∧ Q (.str d.shown) H) := by
  intro pins s σ H xs us Q I r h
  obtain ⟨ex, d, v, rfl, rd, ⟨hc, hs, hd, hz⟩, q⟩ := h
  obtain ⟨u, rfl, ru⟩ := vals1 r
  obtain ⟨as, rr⟩ := rd.reads I.hok ru
  have hnd := PyData.hasDict_of_canLay d hc
  have fin : ∀ {h' : Heap} {t tk : Nat}, (∀ b o, s.heap.get? b = some o → h'.get? b = some o) → EP X pins σ Q (.str d.shown t) { s with heap := h', toks := tk } := fun hk => ⟨.str d.shown, H, I.kept hk, ⟨_, rfl⟩, q⟩
  have ref : ∀ a, u = .ref a → wpAny (model X.prog X.w) X.A (call (.builtin "repr") [u]) (EP X pins σ Q) X.xe s := fun a e => by
    subst e
    exact repr_of_reads' rr hs (PyData.noDict_hsm hnd) hg (by omega) (fun _ _ e => e) (fun h' t tk hk => fin hk) hz
  cases rd with
  | none => cases (show u = Value.none from ru); exact P.repr_of_none (fin fun _ _ e => e)
  | bool b => cases (show u = Value.bool b from ru); exact P.repr_of_bool (fin fun _ _ e => e)
  | int i =>
    obtain ⟨t, rfl⟩ := (show ∃ t, u = Value.int i t from ru)
    exact P.repr_of_int (by simpa [PyData.showable] using hs) (fin fun _ _ e => e)
  | str x =>
    obtain ⟨t, rfl⟩ := (show ∃ t, u = Value.str x t from ru)
    exact P.repr_of_str (fin fun _ _ e => e) hz
  | tuple e n z rs => exact ref _ ru
  | list e n z rs => exact ref _ ru
end
end L2
namespace My
open PySem PySem.Spec PyProof.Rows L2
/-! ## data of small size -/
structure SDs (h n : Nat) (ds : List PyData) : Prop where
  c : PyData.canLayAll0 ds = true
  i : PyData.intsShortAll 101 ds = true
  s : PyData.showableAll ds = true
  d : PyData.depthAll ds ≤ h
  w : PyData.weightAll ds ≤ n
def SD (h n : Nat) (d : PyData) : Prop := SDs h (n + 1) [d]
theorem SDs.nil {h n : Nat} : SDs h n [] := ⟨rfl, rfl, rfl, Nat.zero_le _, Nat.zero_le _⟩
theorem SDs.mono {h h' n n' : Nat} {ds : List PyData} (a : SDs h n ds) (hh : h ≤ h') (hn : n ≤ n') : SDs h' n' ds := ⟨a.c, a.i, a.s, Nat.le_trans a.d hh, Nat.le_trans a.w hn⟩
theorem SDs.cons {h n m : Nat} {d : PyData} {ds : List PyData} (a : SD h n d) (b : SDs h m ds) : SDs h (n + 1 + m) (d :: ds) := by
  obtain ⟨c1, i1, s1, d1, w1⟩ := a
  simp only [PyData.canLayAll0, PyData.intsShortAll, PyData.showableAll, PyData.depthAll, PyData.weightAll, Bool.and_true] at c1 i1 s1 d1 w1
  refine ⟨?_, ?_, ?_, ?_, ?_⟩
  · rw [PyData.canLayAll0, c1, b.c]; rfl
  · rw [PyData.intsShortAll, i1, b.i]; rfl
  · rw [PyData.showableAll, s1, b.s]; rfl
  · rw [PyData.depthAll]; have := b.d; omega
  · rw [PyData.weightAll]; have := b.w; omega
theorem SDs.append {h : Nat} : ∀ {ds es : List PyData} {n m : Nat}, SDs h n ds → SDs h m es → SDs h (n + m) (ds ++ es)
  | [], es, n, m, _, b => b.mono (Nat.le_refl _) (by omega)
  | x :: ds, es, n, m, a, b => by
    have h1 := a.c; have h2 := a.i; have h3 := a.s; have h4 := a.d; have h5 := a.w
    rw [PyData.canLayAll0, Bool.and_eq_true] at h1
    rw [PyData.intsShortAll, Bool.and_eq_true] at h2
    rw [PyData.showableAll, Bool.and_eq_true] at h3
    rw [PyData.depthAll] at h4
    rw [PyData.weightAll] at h5
    have ih := SDs.append (ds := ds) (n := PyData.weightAll ds) ⟨h1.2, h2.2, h3.2, by omega, Nat.le_refl _⟩ b
    have := SDs.cons (d := x) (n := PyData.weight x) (h := h) ⟨by simp [PyData.canLayAll0, h1.1], by simp [PyData.intsShortAll, h2.1], by simp [PyData.showableAll, h3.1], by simp [PyData.depthAll]; omega, by simp [PyData.weightAll]⟩ ih
    exact this.mono (Nat.le_refl _) (by omega)
theorem SDs.tail {h n : Nat} {x : PyData} {ds : List PyData} (a : SDs h n (x :: ds)) : SD h n x ∧ SDs h n ds := by
  have h1 := a.c; have h2 := a.i; have h3 := a.s; have h4 := a.d; have h5 := a.w
  rw [PyData.canLayAll0, Bool.and_eq_true] at h1
  rw [PyData.intsShortAll, Bool.and_eq_true] at h2
  rw [PyData.showableAll, Bool.and_eq_true] at h3
  rw [PyData.depthAll] at h4
  rw [PyData.weightAll] at h5
  exact ⟨⟨by simp [PyData.canLayAll0, h1.1], by simp [PyData.intsShortAll, h2.1], by simp [PyData.showableAll, h3.1], by simp [PyData.depthAll]; omega, by simp [PyData.weightAll]; omega⟩, ⟨h1.2, h2.2, h3.2, by omega, by omega⟩⟩
theorem SDs.take {h n : Nat} : ∀ {ds : List PyData} (k : Nat), SDs h n ds → SDs h n (ds.take k)
  | _, 0, _ => .nil
  | [], _ + 1, _ => .nil
  | x :: ds, k + 1, a => by
    have h1 := a.c; have h2 := a.i; have h3 := a.s; have h4 := a.d; have h5 := a.w
    rw [PyData.canLayAll0, Bool.and_eq_true] at h1
    rw [PyData.intsShortAll, Bool.and_eq_true] at h2
    rw [PyData.showableAll, Bool.and_eq_true] at h3
    rw [PyData.depthAll] at h4
    rw [PyData.weightAll] at h5
    have ih := SDs.take (ds := ds) (n := PyData.weightAll ds) (h := h) k ⟨h1.2, h2.2, h3.2, by omega, Nat.le_refl _⟩
    rw [List.take_succ_cons]
    have := SDs.cons (d := x) (n := PyData.weight x) (h := h) ⟨by simp [PyData.canLayAll0, h1.1], by simp [PyData.intsShortAll, h2.1], by simp [PyData.showableAll, h3.1], by simp [PyData.depthAll]; omega, by simp [PyData.weightAll]⟩ ih
    exact this.mono (Nat.le_refl _) (by omega)
theorem SDs.drop {h n : Nat} : ∀ {ds : List PyData} (k : Nat), SDs h n ds → SDs h n (ds.drop k)
  | _, 0, a => a
  | [], _ + 1, _ => .nil
  | _ :: ds, k + 1, a => SDs.drop k a.tail.2
theorem SDs.mem {h n : Nat} : ∀ {ds : List PyData} {d : PyData}, SDs h n ds → d ∈ ds → SD h n d
  | x :: ds, d, a, hm => by
    rcases List.mem_cons.mp hm with rfl | hm
    · exact a.tail.1
    · exact SDs.mem a.tail.2 hm
theorem SD.tup {h n : Nat} {ds : List PyData} (a : SDs h n ds) : SD (h + 1) n (.tuple ds) :=
  ⟨by simp [PyData.canLayAll0, PyData.canLay0, a.c], by simp [PyData.intsShortAll, PyData.intsShort, a.i], by simp [PyData.showableAll, PyData.showable, a.s], by simp [PyData.depthAll, PyData.depth]; exact a.d, by simp [PyData.weightAll, PyData.weight]; exact a.w⟩
theorem SD.lst {h n : Nat} {ds : List PyData} (a : SDs h n ds) : SD (h + 1) n (.list ds) :=
  ⟨by simp [PyData.canLayAll0, PyData.canLay0, a.c], by simp [PyData.intsShortAll, PyData.intsShort, a.i], by simp [PyData.showableAll, PyData.showable, a.s], by simp [PyData.depthAll, PyData.depth]; exact a.d, by simp [PyData.weightAll, PyData.weight]; exact a.w⟩
theorem SD.mono {h h' n n' : Nat} {d : PyData} (a : SD h n d) (hh : h ≤ h') (hn : n ≤ n') : SD h' n' d := SDs.mono a hh (by omega)
theorem SD.none {h n : Nat} : SD h n .none := ⟨rfl, rfl, rfl, Nat.zero_le _, by simp [PyData.weightAll, PyData.weight]⟩
theorem SD.bool {h n : Nat} (b : Bool) : SD h n (.bool b) := ⟨rfl, rfl, rfl, Nat.zero_le _, by simp [PyData.weightAll, PyData.weight]⟩
theorem log_lt {i : Int} (h : i.natAbs < 10 ^ 100) : i.natAbs.log2 < 333 := by
  by_cases hz : i.natAbs = 0
  · rw [hz]; decide
  · rw [Nat.log2_lt hz]; exact Nat.lt_of_lt_of_le h (by decide +kernel)
theorem SD.int {h n : Nat} {i : Int} (hi : i.natAbs < 10 ^ 100) (hn : 333 ≤ n) : SD h n (.int i) := by
  have hl := log_lt hi
  refine ⟨rfl, ?_, ?_, Nat.zero_le _, ?_⟩
  · simp only [PyData.intsShortAll, PyData.intsShort, Bool.and_true, decide_eq_true_eq]
    have e := int_text_length_le10 (k := 100) (by decide) hi
    show (Str.ofString (toString i)).length ≤ 101
    rw [PySem.ofString_length]; exact e
  · simp only [PyData.showableAll, PyData.showable, Bool.and_true, decide_eq_true_eq]; omega
  · simp only [PyData.weightAll, PyData.weight]
    split <;> omega
theorem SD.small {h n : Nat} {i : Int} (h0 : -1000 < i) (h1 : i < 1000) (hn : 10 ≤ n) : SD h n (.int i) := by
  have hl : i.natAbs.log2 < 10 := by
    by_cases hz : i.natAbs = 0
    · rw [hz]; decide
    · rw [Nat.log2_lt hz]; omega
  have hi : i.natAbs < 10 ^ 100 := Nat.lt_of_lt_of_le (show i.natAbs < 10 ^ 3 by omega) (Nat.pow_le_pow_right (by decide) (by decide))
  refine ⟨rfl, ?_, ?_, Nat.zero_le _, ?_⟩
  · simp only [PyData.intsShortAll, PyData.intsShort, Bool.and_true, decide_eq_true_eq]
    have e := int_text_length_le10 (k := 100) (by decide) hi
    show (Str.ofString (toString i)).length ≤ 101
    rw [PySem.ofString_length]; exact e
  · simp only [PyData.showableAll, PyData.showable, Bool.and_true, decide_eq_true_eq]; omega
  · simp only [PyData.weightAll, PyData.weight]
    split <;> omega
theorem SD.show {h n : Nat} {d : PyData} (a : SD h n d) (hh : h ≤ 50) (hn : n ≤ 150000) : ShOk d := by
  obtain ⟨c1, i1, s1, d1, w1⟩ := a
  simp only [PyData.canLayAll0, PyData.intsShortAll, PyData.showableAll, PyData.depthAll, PyData.weightAll, Bool.and_true] at c1 i1 s1 d1 w1
  refine ⟨c1, s1, by omega, ?_⟩
  have h1 := PyData.shown_le 101 (by decide) d (PyData.leavesShort_of_canLay0 101 d c1 i1)
  have hs : sizeLine = 16777216 := sizeLine_eq
  have : (101 + 2) * d.weight ≤ 103 * 150001 := Nat.mul_le_mul_left _ (by omega)
  omega
end My

namespace My
open PySem PySem.Spec PyProof.Rows L2
/-! ## tuples of data: slices, sums -/
def cutD (xs : List PyData) (lo hi : Option Int) : List PyData := (xs.drop (HT.sIx xs.length 0 lo)).take (HT.sIx xs.length xs.length hi - HT.sIx xs.length 0 lo)
theorem cutD_take (xs : List PyData) (k : Nat) : cutD xs none (some (k : Int)) = xs.take k := by
  unfold cutD
  rw [HT.sIx_none, HT.sIx_nat, List.drop_zero, Nat.sub_zero]
  rcases Nat.le_total k xs.length with h | h
  · rw [Nat.min_eq_left h]
  · rw [Nat.min_eq_right h, List.take_of_length_le (Nat.le_refl _), List.take_of_length_le h]
theorem cutD_drop (xs : List PyData) (k : Nat) : cutD xs (some (k : Int)) none = xs.drop k := by
  unfold cutD
  rw [HT.sIx_none, HT.sIx_nat]
  rcases Nat.le_total k xs.length with h | h
  · rw [Nat.min_eq_left h, List.take_of_length_le (by rw [List.length_drop]; omega)]
  · rw [Nat.min_eq_right h, List.drop_of_length_le (Nat.le_refl _), List.drop_of_length_le h]; simp
theorem cutD_init (xs : List PyData) : cutD xs none (some (-1)) = xs.take (xs.length - 1) := by
  unfold cutD
  rw [HT.sIx_none, List.drop_zero, Nat.sub_zero]
  congr 1
  show (if (-1 : Int) < 0 then ((-1 : Int) + (xs.length : Int)).toNat else min (-1 : Int).toNat xs.length) = xs.length - 1
  rw [if_pos (by decide)]; omega
abbrev Fre (ex : List Addr) (H : Hp) : Prop := ∀ (H' : Hp) (t : Addr), Kp [] H H' → H' t = none → t ∉ ex
theorem Fre.kp {ex : List Addr} {H H1 : Hp} (f : Fre ex H) (k : Kp [] H H1) : Fre ex H1 := fun H' t k' ht => f H' t (k.trans k') ht
theorem Jar.fre {H : Hp} {p c : Addr} (J : Jar H p c) : Fre [p, c] H := fun H' t k ht => (J.keep k).fresh ht
theorem cat_rep {K : PySem.W.Frag} {ex : List Addr} {H : Hp} {ds es : List PyData} {x y : V} {Q : VK} (r1 : Rep ex H (.tuple ds) x) (r2 : Rep ex H (.tuple es) y) (f : Fre ex H) (z : ds.length + es.length ≤ 1000000) (q : ∀ v H', Kp [] H H' → Rep ex H' (.tuple (ds ++ es)) v → Q v H') : rCatD K x y H Q := by
  have hs : sizeLine = 16777216 := sizeLine_eq
  obtain ⟨a, xs, rfl, ha, na, za, rs⟩ := rep_tup r1
  obtain ⟨b, ys, rfl, hb, nb, zb, rs'⟩ := rep_tup r2
  have l1 := rs.length
  have l2 := rs'.length
  refine ⟨a, b, xs, ys, rfl, rfl, SqT.of ha, SqT.of hb, by omega, fun e => ?_, fun _ e => ?_, fun _ _ t ht => ?_⟩
  · have : ds = [] := List.length_eq_zero_iff.mp (by rw [l1, e]; rfl)
    subst this
    exact q _ H .refl r2
  · have : es = [] := List.length_eq_zero_iff.mp (by rw [l2, e]; rfl)
    subst this
    rw [List.append_nil] at q
    exact q _ H .refl r1
  · exact q _ _ (Kp.new ht _) (.tuple upd_same (f H t .refl ht) (by rw [List.length_append]; omega) ((rs.append rs').keep (Kp.new ht _)))
theorem cut_rep {K : PySem.W.Frag} {ex : List Addr} {H : Hp} {ds : List PyData} {x : V} {lo hi : Option Int} {Q : VK} (r : Rep ex H (.tuple ds) x) (f : Fre ex H) (hw : ¬ (HT.sIx ds.length 0 lo = 0 ∧ HT.sIx ds.length ds.length hi = ds.length)) (q : ∀ v H', Kp [] H H' → Rep ex H' (.tuple (cutD ds lo hi)) v → Q v H') : rSlT K x lo hi H Q := by
  obtain ⟨a, xs, rfl, ha, na, za, rs⟩ := rep_tup r
  have l1 := rs.length
  refine ⟨a, xs, rfl, SqT.of ha, by rw [← l1]; exact hw, fun t ht => q _ _ (Kp.new ht _) (.tuple upd_same (f H t .refl ht) (Nat.le_trans (cutV_length xs lo hi) za) ?_)⟩
  have := (Reps.take (HT.sIx xs.length xs.length hi - HT.sIx xs.length 0 lo) (Reps.drop (HT.sIx xs.length 0 lo) rs)).keep (Kp.new ht (.tup (cutV xs lo hi)))
  rw [← l1] at this
  unfold cutD
  rw [l1] at this ⊢
  exact this
def putD (ds : List PyData) (k : Nat) (d : PyData) : List PyData := ds.take k ++ [d] ++ ds.drop (k + 1)
def spPutT : Sp := fun vs H Q _ => ∃ (ex : List Addr) (ds : List PyData) (d : PyData) (tv wv : V) (k : Nat), vs = [tv, .int k, wv] ∧ Rep ex H (.tuple ds) tv ∧ Rep ex H d wv ∧ k < ds.length ∧ ds.length ≤ 1000 ∧ Fre ex H ∧ ∀ v H', Kp [] H H' → Rep ex H' (.tuple (putD ds k d)) v → Q v H'
theorem SDs.put {h n m : Nat} {ds : List PyData} {d : PyData} (k : Nat) (a : SDs h n ds) (b : SD h m d) : SDs h (n + (m + 1) + n) (putD ds k d) := SDs.append (SDs.append (a.take k) b) (a.drop (k + 1))
theorem SD.str {h n : Nat} {x : Str} (hok : PyData.strOk x = true) (hs : x.cps.size ≤ n) : SD h n (.str x) :=
  ⟨by simp [PyData.canLayAll0, PyData.canLay0, hok], rfl, rfl, Nat.zero_le _, by simp [PyData.weightAll, PyData.weight]; exact hs⟩
/-! ## anything -/
def wAny : Nat → Nat
  | 0 => 400
  | n + 1 => 3 * (wAny n + 1) + 400
def spAnyS : Nat → Sp
  | 0 => fun _ _ _ _ => False
  | n + 1 => fun vs H Q _ => ∃ (p c : Addr) (ex : List Addr), vs = [.ref p, .int n] ∧ Jar H p c ∧ (∀ a ∈ ex, H a ≠ none) ∧ ∀ d v H', Jar H' p c → Kp [p, c] H H' → Rep (p :: c :: ex) H' d v → SD (n + 1) (wAny n) d → Q v H'
theorem ex_fresh {H : Hp} {p c t : Addr} {ex : List Addr} (J : Jar H p c) (he : ∀ a ∈ ex, H a ≠ none) (ht : H t = none) : t ∉ p :: c :: ex := by
  intro z
  rcases List.mem_cons.mp z with z | z
  · exact J.fresh ht (by rw [z]; simp)
  · rcases List.mem_cons.mp z with z | z
    · exact J.fresh ht (by rw [z]; simp)
    · exact he t z ht
/-- each of these is data -/
def GDs (ex : List Addr) (H : Hp) (h n : Nat) (vs : List V) : Prop := ∀ v ∈ vs, ∃ d, Rep ex H d v ∧ SD h n d
theorem GDs.nil {ex : List Addr} {H : Hp} {h n : Nat} : GDs ex H h n [] := fun v hv => by cases hv
theorem GDs.cons {ex : List Addr} {H : Hp} {h n : Nat} {v : V} {vs : List V} {d : PyData} (r : Rep ex H d v) (s : SD h n d) (g : GDs ex H h n vs) : GDs ex H h n (v :: vs) := fun u hu => by
  rcases List.mem_cons.mp hu with rfl | hu
  · exact ⟨d, r, s⟩
  · exact g u hu
theorem GDs.keep {ex : List Addr} {H H' : Hp} {h n : Nat} {vs : List V} (g : GDs ex H h n vs) (k : Kp ex H H') : GDs ex H' h n vs := fun v hv => let ⟨d, r, s⟩ := g v hv; ⟨d, r.keep k, s⟩
def nnD (x : PyData) : Bool := match x with | .int i => decide (0 ≤ i) | _ => false
def standB (R U : Int) (d : PyData) : Bool := match d with
  | .tuple [a, .tuple xs] => betwD a 0 (R - 1) && (decide ((xs.length : Int) = U) && xs.all nnD)
  | _ => false
def numsD (d : PyData) (n : Int) : Bool := match d with
  | .tuple xs => decide ((xs.length : Int) = n) && xs.all nnD
  | _ => false
def spNums : Sp := fun vs H Q _ => ∃ ex d v n, vs = [v, .int n] ∧ Rep ex H d v ∧ ∀ H', Kp [] H H' → Q (.bl (numsD d n)) H'
def spIsStand : Sp := fun vs H Q _ => ∃ ex R U ws bv d v, vs = [bv, v] ∧ Rep ex H (bookPD R U ws) bv ∧ Rep ex H d v ∧ ∀ H', Kp [] H H' → Q (.bl (standB R U d)) H'
theorem tupD_2 {d : PyData} (h : tupD d 2 = true) : ∃ a b, d = .tuple [a, b] := by
  cases d with
  | tuple xs =>
    unfold tupD at h
    have h : (xs.length : Int) = 2 := by simpa using h
    match xs, h with
    | [a, b], _ => exact ⟨a, b, rfl⟩
    | [], h => simp at h
    | [_], h => simp at h
    | _ :: _ :: _ :: _, h => simp at h; omega
  | _ => cases h
theorem standB_no2 {R U : Int} {d : PyData} (h : tupD d 2 = false) : standB R U d = false := by
  unfold standB
  split
  · exfalso; simp [tupD] at h
  · rfl
theorem standB_2 (R U : Int) (a b : PyData) : standB R U (.tuple [a, b]) = (betwD a 0 (R - 1) && numsD b U) := by
  cases b <;> simp [standB, numsD]
theorem numsD_not {d : PyData} {n : Int} (h : tupD d n = false) : numsD d n = false := by
  cases d with
  | tuple xs =>
    have h : decide ((xs.length : Int) = n) = false := h
    show (decide ((xs.length : Int) = n) && xs.all nnD) = false
    rw [h]; rfl
  | _ => rfl
theorem tupD_tup {d : PyData} {n : Int} (h : tupD d n = true) : ∃ xs, d = .tuple xs ∧ (xs.length : Int) = n := by
  cases d with
  | tuple xs => exact ⟨xs, rfl, by simpa [tupD] using h⟩
  | _ => cases h
/-- another thing than a stand -/
def spElse3 : Sp := fun vs H Q _ => ∃ (p c : Addr) (R U : Int) (ws : List Way) (bv sv : V) (ns : List PyData) (r : PyData), vs = [.ref p, bv, sv] ∧ Jar H p c ∧ Rep [p, c] H (bookPD R U ws) bv ∧ BookOk R U ws ∧ Rep [p, c] H (.tuple [r, .tuple ns]) sv ∧ (0 < ns.length ∧ ns.length ≤ 6) ∧ SDs 2 400 [r] ∧ SDs 2 4000 ns ∧
  ∀ d v H', Jar H' p c → Kp [p, c] H H' → Rep [p, c] H' d v → SD 40 100000 d → Q v H'
theorem standB_t (R U : Int) (a : PyData) (ns : List PyData) : standB R U (.tuple [a, .tuple ns]) = (betwD a 0 (R - 1) && (decide ((ns.length : Int) = U) && ns.all nnD)) := rfl
theorem standB_not {R U : Int} {d : PyData} (h : ∀ a ns, d ≠ .tuple [a, .tuple ns]) : standB R U d = false := by
  unfold standB
  split
  · exact absurd rfl (h _ _)
  · rfl
theorem standB_bad {R U : Int} {a x : PyData} {ns : List PyData} (hx : x ∈ a :: ns) (h : nnD x = false) : standB R U (.tuple [a, .tuple ns]) = false := by
  rw [standB_t]
  rcases List.mem_cons.mp hx with rfl | hx
  · have : betwD x 0 (R - 1) = false := by
      cases x with
      | int i =>
        have h : decide (0 ≤ i) = false := h
        show (decide (0 ≤ i) && decide (i ≤ R - 1)) = false
        rw [h]; rfl
      | _ => rfl
    rw [this]; rfl
  · have : ns.all nnD = false := by
      rw [Bool.eq_false_iff]
      intro z
      have := List.all_eq_true.mp z x hx
      rw [h] at this; cases this
    rw [this, Bool.and_false, Bool.and_false]
theorem weightAll_len : ∀ ds : List PyData, ds.length ≤ PyData.weightAll ds
  | [] => Nat.zero_le _
  | x :: r => by rw [PyData.weightAll, List.length_cons]; have := weightAll_len r; omega
theorem SD.len {h n : Nat} {ds : List PyData} (a : SD h n (.tuple ds)) : ds.length ≤ n := by
  have h1 := a.w
  simp only [PyData.weightAll, PyData.weight] at h1
  have := weightAll_len ds
  omega
theorem SD.parts {h n : Nat} {ds : List PyData} (a : SD (h + 1) n (.tuple ds)) : SDs h n ds := by
  obtain ⟨c1, i1, s1, d1, w1⟩ := a
  simp only [PyData.canLayAll0, PyData.canLay0, PyData.intsShortAll, PyData.intsShort, PyData.showableAll, PyData.showable, PyData.depthAll, PyData.depth, PyData.weightAll, PyData.weight, Bool.and_true] at c1 i1 s1 d1 w1
  exact ⟨c1, i1, s1, by omega, by omega⟩
def spIsStandS : Sp := fun vs H Q _ => ∃ ex R U ws bv d v, vs = [bv, v] ∧ Rep ex H (bookPD R U ws) bv ∧ Rep ex H d v ∧ SD 40 100000 d ∧ ∀ H', Kp [] H H' → Q (.bl (standB R U d)) H'
theorem mulOk_of {a b : Int} (ha : a.natAbs < 10 ^ 100) (hb : b.natAbs < 10 ^ 100) : IntMulOk a b := by
  have la := log_lt ha
  have lb := log_lt hb
  unfold IntMulOk
  intro h
  rw [Bool.and_eq_true, Bool.and_eq_true] at h
  have h3 := h.2
  have e1 : Builtin.Int.intBits a ≤ 334 := by unfold Builtin.Int.intBits; split <;> omega
  have e2 : Builtin.Int.intBits b ≤ 334 := by unfold Builtin.Int.intBits; split <;> omega
  have hbl : 1000 ≤ bitsLine := by decide +kernel
  unfold Builtin.Int.intTooBig at h3
  simp at h3
  omega
end My

namespace My
open PySem PySem.Spec PyProof.Rows L2
/-! ## what is a book, otherwise -/
theorem instD_int_betw {d : PyData} {lo hi : Int} (h : instD d "int" = false ∨ instD d "bool" = true) : betwD d lo hi = false := by
  cases d <;> first | rfl | (simp [instD, tyName] at h)
theorem bookD_not {d : PyData} (h : ∀ r p ws, d ≠ .tuple [.int r, .int p, .tuple ws]) : bookD d = false := by
  unfold bookD
  split
  · exact absurd rfl (h _ _ _)
  · rfl
theorem bookD_t (r p : Int) (ws : List PyData) : bookD (.tuple [.int r, .int p, .tuple ws]) = (betwD (.int r) 1 12 && betwD (.int p) 1 6 && (decide ((ws.length : Int) ≤ 60) && ws.all fun x => wayD x r p)) := rfl
theorem bookD_bad {r p : Int} {ws : List PyData} {x : PyData} (hx : x ∈ ws) (h : wayD x r p = false) : bookD (.tuple [.int r, .int p, .tuple ws]) = false := by
  rw [bookD_t]
  have : (ws.all fun x => wayD x r p) = false := by
    rw [Bool.eq_false_iff]
    intro z
    have := List.all_eq_true.mp z x hx
    rw [h] at this; cases this
  rw [this, Bool.and_false, Bool.and_false]
theorem wayD_not {d : PyData} {r p : Int} (h : ∀ a b gs, d ≠ .tuple [a, b, .tuple gs]) : wayD d r p = false := by
  unfold wayD
  split
  · rename_i a b g
    have : gainsD g p = false := by
      cases g with
      | tuple gs => exact absurd rfl (h a b gs)
      | _ => rfl
    rw [this, Bool.and_false, Bool.and_false]
  · rfl
theorem wayD_t (a b : PyData) (gs : List PyData) (r p : Int) : wayD (.tuple [a, b, .tuple gs]) r p = (betwD a 0 (r - 1) && (betwD b 0 (r - 1) && (decide ((gs.length : Int) = p) && gs.all fun x => betwD x (-99) 99))) := rfl
theorem tup3_of {ds : List PyData} (h : ds.length = 3) : ∃ a b c, ds = [a, b, c] := by
  match ds, h with
  | [a, b, c], _ => exact ⟨a, b, c, rfl⟩
/-! ## sizes -/
theorem SD_ints : ∀ (zs : List Int), (∀ z ∈ zs, -99 ≤ z ∧ z ≤ 99) → ∀ h, SDs h (zs.length * 11) (zs.map PyData.int)
  | [], _, _ => .nil
  | z :: zs, hz, h => (SDs.cons (h := h) (n := 10) (SD.small (by have := hz z List.mem_cons_self; omega) (by have := hz z List.mem_cons_self; omega) (Nat.le_refl _)) (SD_ints zs (fun y hy => hz y (List.mem_cons_of_mem _ hy)) h)).mono (Nat.le_refl _) (by rw [List.length_cons, Nat.add_mul]; omega)
theorem SD_way {R U : Int} {w : Way} (ok : WayOk R U w) (hR : R ≤ 12) (hU : U ≤ 6) : SDs 1 90 [.int w.a, .int w.b, .tuple (w.g.map PyData.int)] := by
  have h1 := ok.a0; have h2 := ok.a1; have h3 := ok.b0; have h4 := ok.b1; have h5 := ok.len
  refine (SDs.cons (h := 1) (n := 10) (SD.small (by omega) (by omega) (Nat.le_refl _)) (SDs.cons (n := 10) (SD.small (by omega) (by omega) (Nat.le_refl _)) (SD.tup (SD_ints w.g ok.small 0)))).mono (Nat.le_refl _) (by omega)
theorem SD_ways {R U : Int} (hR : R ≤ 12) (hU : U ≤ 6) : ∀ {ws : List Way}, (∀ w ∈ ws, WayOk R U w) → SDs 2 (ws.length * 91) (ws.map wayPD)
  | [], _ => .nil
  | w :: ws, h => (SDs.cons (h := 2) (n := 90) (SD.tup (SD_way (h w List.mem_cons_self) hR hU)) (SD_ways hR hU fun x hx => h x (List.mem_cons_of_mem _ hx))).mono (Nat.le_refl _) (by rw [List.length_cons, Nat.add_mul]; omega)
theorem SD_book {R U : Int} {ws : List Way} (ok : BookOk R U ws) : SDs 3 5600 [.int R, .int U, .tuple (ws.map wayPD)] := by
  have h1 := ok.r0; have h2 := ok.r1; have h3 := ok.p0; have h4 := ok.p1; have h5 := ok.len
  refine (SDs.cons (h := 3) (n := 10) (SD.small (by omega) (by omega) (Nat.le_refl _)) (SDs.cons (n := 10) (SD.small (by omega) (by omega) (Nat.le_refl _)) (SD.tup (SD_ways h2 h4 ok.ways)))).mono (Nat.le_refl _) (by omega)
def spShape : Sp := fun vs H Q _ => ∃ (p c : Addr) (ds : List PyData) (wd : PyData) (tv wv : V) (h n : Nat), vs = [.ref p, tv, wv] ∧ Jar H p c ∧ Rep [p, c] H (.tuple ds) tv ∧ Rep [p, c] H wd wv ∧ (0 < ds.length ∧ ds.length ≤ 100) ∧ SDs h n ds ∧ SD h 6000 wd ∧
  ∀ d v H', Jar H' p c → Kp [p, c] H H' → Rep [p, c] H' d v → SD (h + 1) (2 * n + 6001) d → Q v H'
def spElse1 : Sp := fun vs H Q _ => ∃ (p c : Addr) (R U : Int) (ws : List Way) (bv : V), vs = [.ref p, bv] ∧ Jar H p c ∧ Rep [p, c] H (bookPD R U ws) bv ∧ BookOk R U ws ∧ ∀ d v H', Jar H' p c → Kp [p, c] H H' → Rep [p, c] H' d v → SD 40 100000 d → Q v H'
theorem eqvT_nil (ws : List Way) : PyData.eqv (.tuple (ws.map wayPD)) (.tuple []) = ws.isEmpty := eqv_ways_nil ws
theorem bookD_ok {R U : Int} {ws : List Way} (ok : BookOk R U ws) : bookD (bookPD R U ws) = true := by
  unfold bookPD
  rw [bookD_t]
  have h1 := ok.r0; have h2 := ok.r1; have h3 := ok.p0; have h4 := ok.p1; have h5 := ok.len
  have e1 : betwD (.int R) 1 12 = true := by show (decide (1 ≤ R) && decide (R ≤ 12)) = true; rw [decide_eq_true h1, decide_eq_true h2]; rfl
  have e2 : betwD (.int U) 1 6 = true := by show (decide (1 ≤ U) && decide (U ≤ 6)) = true; rw [decide_eq_true h3, decide_eq_true h4]; rfl
  have e3 : ((ws.map wayPD).all fun x => wayD x R U) = true := by
    rw [List.all_eq_true]
    intro x hx
    obtain ⟨w, hw, rfl⟩ := List.mem_map.mp hx
    have wk := ok.ways w hw
    unfold wayPD
    rw [wayD_t]
    have a1 : betwD (.int w.a) 0 (R - 1) = true := by show (decide (0 ≤ w.a) && decide (w.a ≤ R - 1)) = true; rw [decide_eq_true wk.a0, decide_eq_true (show w.a ≤ R - 1 by have := wk.a1; omega)]; rfl
    have a2 : betwD (.int w.b) 0 (R - 1) = true := by show (decide (0 ≤ w.b) && decide (w.b ≤ R - 1)) = true; rw [decide_eq_true wk.b0, decide_eq_true (show w.b ≤ R - 1 by have := wk.b1; omega)]; rfl
    have a3 : ((w.g.map PyData.int).all fun x => betwD x (-99) 99) = true := by
      rw [List.all_eq_true]
      intro y hy
      obtain ⟨z, hz, rfl⟩ := List.mem_map.mp hy
      have := wk.small z hz
      show (decide (-99 ≤ z) && decide (z ≤ 99)) = true
      rw [decide_eq_true this.1, decide_eq_true this.2]; rfl
    rw [a1, a2, a3, List.length_map, decide_eq_true wk.len]; rfl
  rw [e1, e2, e3, List.length_map, decide_eq_true (show ((ws.length : Nat) : Int) ≤ 60 by omega)]; rfl
end My

namespace My
open PySem PySem.Spec PyProof.Rows L2
theorem assign_sub_const (o : Expr) (k : Const) (j : Nat) (p pos : Pos) (env : Env) (v : Value) : assign (.Subscript o (.Constant k j p) pos) env v = (do
      let ov ← holding [v] (eval o env)
      let iv ← holding [v, ov] (eval (.Constant k j p) env)
      standAt pos
      holding [v, ov, iv] (setItem ov iv v)
      release [v, ov, iv] []) := assign_sub_gen _ _ _ _ _
/-! ## the tape of draws: its cells, how many were taken, what is left of a great one -/
structure Tape (H : Hp) (p c : Addr) (n : Nat) : Prop where
  ex : ∃ (ns : List Int) (k g : Int), H p = some (.lst [.ref c, .int k, .int g]) ∧ H c = some (.lst (ns.map V.int)) ∧ ns.length ≤ 63 ∧ 0 ≤ k ∧ k ≤ n
theorem Tape.ne {H : Hp} {p c : Addr} {n : Nat} (J : Tape H p c n) : p ≠ c := by
  obtain ⟨ns, k, g, h1, h2, _⟩ := J.ex
  rintro rfl
  rw [h1] at h2
  cases ns with
  | nil => cases h2
  | cons a r => cases h2
theorem Tape.fresh {H : Hp} {p c l : Addr} {n : Nat} (J : Tape H p c n) (h : H l = none) : l ∉ [p, c] := by
  obtain ⟨ns, k, g, h1, h2, _⟩ := J.ex
  intro z
  rcases List.mem_cons.mp z with rfl | z
  · rw [h] at h1; cases h1
  · cases List.mem_singleton.mp z; rw [h] at h2; cases h2
theorem Tape.keep {H H' : Hp} {p c : Addr} {n : Nat} (J : Tape H p c n) (k : Kp [] H H') : Tape H' p c n := by
  obtain ⟨ns, a, g, h1, h2, h3⟩ := J.ex
  exact ⟨ns, a, g, k _ _ h1 (by simp), k _ _ h2 (by simp), h3⟩
theorem Tape.mono {H : Hp} {p c : Addr} {n m : Nat} (J : Tape H p c n) (h : n ≤ m) : Tape H p c m := by
  obtain ⟨ns, a, g, h1, h2, h3, h4, h5⟩ := J.ex
  exact ⟨ns, a, g, h1, h2, h3, h4, by omega⟩
theorem Tape.new {H : Hp} {p c l : Addr} {n : Nat} {o : HO} (J : Tape H p c n) (h : H l = none) : Tape (upd H l o) p c n := J.keep (Kp.new h _)
theorem Tape.upd {H : Hp} {p c l : Addr} {n : Nat} {o : HO} (J : Tape H p c n) (h : l ∉ [p, c]) : Tape (upd H l o) p c n := by
  obtain ⟨ns, a, g, h1, h2, h3⟩ := J.ex
  exact ⟨ns, a, g, by rw [upd_ne (fun z => h (by rw [z]; simp))]; exact h1, by rw [upd_ne (fun z => h (by rw [z]; simp))]; exact h2, h3⟩
theorem Tape.fre {H : Hp} {p c : Addr} {n : Nat} (J : Tape H p c n) : Fre [p, c] H := fun H' t k ht => (J.keep k).fresh ht
def spTape (K : PySem.W.Frag) : Sp := fun vs H Q _ => ∃ (a : Addr) (ns : List Int), vs = [.ref a] ∧ SqL K H a (ns.map V.int) ∧ ns.length ≤ 63 ∧ ∀ p c H', Kp [] H H' → H p = none → H c = none → Tape H' p c 0 → Q (.ref p) H'
def spDraw : Sp := fun vs H Q _ => ∃ (p c : Addr) (n : Nat) (many : Int), vs = [.ref p, .int many] ∧ Tape H p c n ∧ n < 2 ^ 40 ∧ 0 < many ∧ many < 2 ^ 9000 ∧ ∀ (r : Int) (H' : Hp), 0 ≤ r → r < many → Tape H' p c (n + 1) → Kp [p, c] H H' → Q (.int r) H'
def spGainT : Sp := fun vs H Q _ => ∃ (p c : Addr) (n : Nat), vs = [.ref p] ∧ Tape H p c n ∧ n < 2 ^ 39 ∧ ∀ (r : Int) (H' : Hp), -9 ≤ r → r ≤ 9 → Tape H' p c (n + 2) → Kp [p, c] H H' → Q (.int r) H'
def spGainsT : Sp := fun vs H Q _ => ∃ (p c : Addr) (n : Nat) (U : Int), vs = [.ref p, .int U] ∧ Tape H p c n ∧ n < 2 ^ 38 ∧ 0 ≤ U ∧ U ≤ 6 ∧ ∀ (t : Addr) (gs : List Int) (H' : Hp), (gs.length : Int) = U → (∀ x ∈ gs, -9 ≤ x ∧ x ≤ 9) → Tape H' p c (n + 12) → Kp [p, c] H H' → H t = none → t ∉ [p, c] → H' t = some (.tup (gs.map V.int)) → Q (.ref t) H'
theorem mix_pos {a : Int} (h : 0 ≤ a) : 0 ≤ 7919 * a * a + 104729 * a + 12345 := by
  have := Int.mul_nonneg h h
  have : 0 ≤ 7919 * a * a := Int.mul_nonneg (by omega) h
  omega
theorem Tape.not_mem3 {H : Hp} {p c l t : Addr} {n : Nat} {o : HO} (J : Tape H p c n) (hl : H l = some o) (ht : H t = none) : t ∉ [p, c, l] := by
  intro z
  rcases List.mem_cons.mp z with z | z
  · exact J.fresh ht (by rw [z]; simp)
  rcases List.mem_cons.mp z with z | z
  · exact J.fresh ht (by rw [z]; simp)
  · rw [List.mem_singleton.mp z, hl] at ht; cases ht
theorem Kp.late {ex : List Addr} {H1 H2 : Hp} {a : Addr} (k : Kp ex H1 H2) (h : H1 a = none) (o : HO) : Kp ex H1 (upd H2 a o) := fun b v e n => by
  rw [upd_ne (ne_of_none e h)]; exact k b v e n
theorem kp_freeT {H1 H2 : Hp} {p c a : Addr} {n : Nat} (k : Kp [p, c] H1 H2) (J : Tape H2 p c n) (h : H2 a = none) : H1 a = none := by
  cases e : H1 a with
  | none => rfl
  | some o =>
    by_cases hp : a ∈ [p, c]
    · exact absurd hp (J.fresh h)
    · rw [k _ _ e hp] at h; cases h
/-- ways under way: the list of them, and the pair from which they are made -/
structure NF (p c l pr t t2 : Addr) : Prop where
  nl : l ∉ [p, c]
  npr : pr ∉ [p, c]
  nt : t ∉ [p, c]
  nt2 : t2 ∉ [p, c]
  epr : pr ≠ l
  et : t ≠ l
  et2 : t2 ≠ l
structure NW (p c l : Addr) (R U : Int) (H0 H : Hp) (n : Nat) (ys : List V) (ws : List Way) : Prop where
  T : Tape H p c n
  k : Kp [p, c] H0 H
  hl : H l = some (.lst ys)
  rs : Reps [p, c, l] H (ws.map wayPD) ys
  hw : ∀ w ∈ ws, WayOk R U w
  f0 : H0 l = none
  nl : l ∉ [p, c]
theorem NW.go {p c l : Addr} {R U : Int} {H0 H H' : Hp} {n m : Nat} {ys : List V} {ws : List Way} (N : NW p c l R U H0 H n ys ws) (k : Kp [p, c] H H') (T : Tape H' p c m) : NW p c l R U H0 H' m ys ws :=
  ⟨T, N.k.trans k, k _ _ N.hl N.nl, N.rs.keep (k.mono (by simp)), N.hw, N.f0, N.nl⟩
theorem NW.new {p c l a : Addr} {R U : Int} {H0 H : Hp} {n : Nat} {ys : List V} {ws : List Way} {o : HO} (N : NW p c l R U H0 H n ys ws) (h : H a = none) : NW p c l R U H0 (upd H a o) n ys ws := N.go (Kp.new h _) (N.T.new h)
theorem NW.len {p c l : Addr} {R U : Int} {H0 H : Hp} {n : Nat} {ys : List V} {ws : List Way} (N : NW p c l R U H0 H n ys ws) : ys.length = ws.length := by
  have := N.rs.length
  rw [List.length_map] at this
  exact this.symm
/-- a way put to the list -/
theorem NW.app {p c l t1 t3 : Addr} {R U a b : Int} {H0 H : Hp} {n : Nat} {ys : List V} {ws : List Way} {ns : List Int} (N : NW p c l R U H0 H n ys ws) (h1 : H t1 = none) (h3 : upd H t1 (.tup (ns.map V.int)) t3 = none) (hz : ns.length ≤ 100) (ok : WayOk R U ⟨a, b, ns⟩) :
    upd (upd H t1 (.tup (ns.map V.int))) t3 (.tup [.int a, .int b, .ref t1]) l = some (.lst ys) ∧ NW p c l R U H0 (upd (upd (upd H t1 (.tup (ns.map V.int))) t3 (.tup [.int a, .int b, .ref t1])) l (.lst (ys ++ [.ref t3]))) n (ys ++ [.ref t3]) (ws ++ [⟨a, b, ns⟩]) := by
  have hs : sizeLine = 16777216 := sizeLine_eq
  have N1 := N.new h1 (o := .tup (ns.map V.int))
  have N2 := N1.new h3 (o := .tup [.int a, .int b, .ref t1])
  refine ⟨N2.hl, N2.T.upd N.nl, Kp.late N2.k N.f0 _, upd_same, ?_, ?_, N.f0, N.nl⟩
  · rw [List.map_append]
    have r1 := Rep.newT (ex := [p, c, l]) (Reps.ints ns) h1 (N.T.not_mem3 N.hl h1) (by rw [List.length_map]; omega)
    have r2 := Rep.newT (.cons (.int a) (.cons (.int b) (.cons r1 .nil))) h3 (N1.T.not_mem3 N1.hl h3) (small4 (Nat.le_of_ble_eq_true rfl))
    exact (N2.rs.keep (Kp.at (by simp) _)).append (.cons (r2.keep (Kp.at (by simp) _)) .nil)
  · intro x hx
    rcases List.mem_append.mp hx with hx | hx
    · exact N.hw x hx
    · rw [List.mem_singleton.mp hx]; exact ok
theorem rep0 (k : Nat) : (List.replicate k [V.int 0]).flatten = (List.replicate k (0 : Int)).map V.int := by
  induction k with
  | zero => rfl
  | succ k ih => rw [List.replicate_succ, List.flatten_cons, ih, List.replicate_succ]; rfl
theorem ixN_in {n : Nat} {i : Int} (h0 : 0 ≤ i) (h1 : i < n) : ixN n i = some i.toNat := by
  unfold ixN
  rw [if_pos h0, if_pos (by omega)]
theorem set_int (ns : List Int) (j : Nat) (z : Int) : (ns.map V.int).set j (V.int z) = (ns.set j z).map V.int := by rw [List.map_set]
theorem set_P {P : Int → Prop} {ns : List Int} {j : Nat} {z : Int} (h : ∀ x ∈ ns, P x) (hz : P z) : ∀ x ∈ ns.set j z, P x := fun x hx => by
  rcases List.mem_or_eq_of_mem_set hx with hx | hx
  · exact h x hx
  · rw [hx]; exact hz
theorem upd3 {H : Hp} {a t1 t3 l : Addr} {v o1 o3 o : HO} (e : H a = some v) (h1 : H t1 = none) (h3 : upd H t1 o1 t3 = none) (n : a ≠ l) : upd (upd (upd H t1 o1) t3 o3) l o a = some v := by
  have e1 : upd H t1 o1 a = some v := by rw [upd_ne (ne_of_none e h1)]; exact e
  rw [upd_ne n, upd_ne (ne_of_none e1 h3)]; exact e1
theorem pair_at {x y : V} (i : Int) : atI [x, y] (i % 2) = some x ∨ atI [x, y] (i % 2) = some y := by
  have h0 := Int.emod_nonneg i (show (2 : Int) ≠ 0 by decide)
  have h1 := Int.emod_lt_of_pos i (show (0 : Int) < 2 by decide)
  generalize i % 2 = z at h0 h1 ⊢
  obtain rfl | rfl : z = 0 ∨ z = 1 := by omega
  · exact .inl rfl
  · exact .inr rfl
def spNested : Sp := fun vs H Q _ => ∃ (p c : Addr) (n : Nat) (R U : Int), vs = [.ref p, .int R, .int U] ∧ Tape H p c n ∧ n < 2 ^ 37 ∧ (1 ≤ R ∧ R ≤ 12) ∧ (1 ≤ U ∧ U ≤ 6) ∧ ∀ (l : Addr) (ys : List V) (ws : List Way) (H' : Hp), NW p c l R U H H' (n + 60) ys ws → ws.length ≤ 24 → Q (.ref l) H'
end My

namespace My
open PySem PySem.Spec PyProof.Rows L2
/-! ## a, b = a list of two -/
def gTupL (K : PySem.W.Frag) (n : Nat) (t : TGs) : TG := fun v σ H Q => ∃ a xs, v = .ref a ∧ SqL K H a xs ∧ xs.length = n ∧ t xs σ H Q
section
variable {X : Cx} {pos : Pos} {k : Nat}
theorem pg_tupL {es : List Expr} {t : TGs} {n : Nat} (hc : X.calm = true) (h : PGs X es t)
    (hn : (assignEach es X.env).length = n := by rfl) (hst : (assignEach es X.env).findIdx? (·.1) = none := by rfl) : PG X (.Tuple es k pos) (gTupL X.K n t) := by
  intro pins s σ H v u Q I r hw
  obtain ⟨a, xs, e1, hq, hl, hw⟩ := hw
  subst e1
  cases r
  obtain ⟨its, rv, pl, hz⟩ := I.list hq
  rw [assign_Tuple]
  refine wpAny_bind (wpAny_standAt ?_)
  unfold unpack
  have hsz : (assignEach es X.env).length = its.toArray.size := by simp [hn, ← hl, rv.length]
  rw [hsz, hst]
  refine wpAny_bind (wpAny_holding (PySem.W.kun_itemsOf (I.ok.hd hc) pl.isList fun h' hx => ?_))
  have I1 : Inv X pins σ H { s with heap := h' } := I.kept (t' := s.toks) fun b o e => hx b o (Nat.ne_of_lt (Heap.lt_size e)) e
  exact h pins _ σ H xs _ Q I1 (by simpa using rv) hw
theorem pg_pairL {K' : PySem.W.Frag} {i j : Nat} {x y : Str} {px py : Pos} (hc : X.calm = true) (hN : X.N.Nodup) (hx : Sto X i x) (hy : Sto X j y) (hK : X.K = K') : PG X (.Tuple [.Name x px, .Name y py] k pos) (gTupL K' 2 (gCons (gName i) (gCons (gName j) gNil))) :=
  hK ▸ pg_tupL hc (pgs_cons (pg_name hN hx.1 hx.2.1 hx.2.2) (pgs_cons (pg_name hN hy.1 hy.2.1 hy.2.2) pgs_nil))
end
def spBookT : Sp := fun vs H Q _ => ∃ (p c mt : Addr) (n : Nat) (mr mu mw : Int), vs = [.ref p, .ref mt] ∧ Tape H p c n ∧ n < 2 ^ 30 ∧ H mt = some (.tup [.int mr, .int mu, .int mw]) ∧ mt ∉ [p, c] ∧ (1 ≤ mr ∧ mr ≤ 12) ∧ (1 ≤ mu ∧ mu ≤ 6) ∧ (0 ≤ mw ∧ mw ≤ 36) ∧
  ∀ (R P : Int) (ws : List Way) (v : V) (H' : Hp), BookOk R P ws → R ≤ mr → P ≤ mu → Tape H' p c (n + 2000) → Kp [p, c] H H' → Rep [p, c] H' (bookPD R P ws) v → Q v H'
end My

namespace My
open PySem PySem.Spec PyProof.Rows L2
/-! ## comprehensions of one name with a test -/
theorem comp1_tupF {K : PySem.W.Frag} {a : Addr} {xs : List V} {tt : TT} {te : TE} {l : Addr} {fr : L2.St} {o0 : Option V} {H1 : Hp} {Q : Hp → Prop} (ft : Nat → Bool) (fe : Nat → V) (hq : SqT K H1 a xs) (hz : xs.length ≤ sizeLine) (hl0 : H1 l = none)
    (test : ∀ i x H (M : Bool → Hp → Prop), xs[i]? = some x → Kp [] H1 H → (∀ H3, Kp [] H H3 → M (ft i) H3) → tt (some x :: fr) H M)
    (step : ∀ i x H (N : VK), ft i = true → xs[i]? = some x → Kp [] H1 H → (∀ H4, Kp [] H H4 → N (fe i) H4) → te (some x :: fr) H N)
    (fin : ∀ H, Kp [] H1 H → H l = some (.lst (((List.range xs.length).filter ft).map fe)) → Q H) :
    cTurns (Itt K a) (gName 0) tt te l (o0 :: fr) (upd H1 l (.lst [])) Q := by
  have hs : ∀ {H : Hp}, Kp [] H1 H → SqT K H a xs := fun {H} k => by
    rcases hq with (q | ⟨o, q⟩) | q
    · exact .inl (.inl (k _ _ q (by simp)))
    · exact .inl (.inr ⟨o, k _ _ q (by simp)⟩)
    · exact .inr q
  refine comp1 xs.length (CPureF H1 ft fe) ⟨Kp.new hl0 _, rfl⟩ upd_same (fun i H ys hi p _ => ⟨xs, xs[i], hs p.1, List.getElem?_eq_getElem hi⟩) (fun H ys p _ => ⟨xs, hs p.1, Nat.le_refl _⟩) (fun i H ys x H' hi p hl y => ?_) fun H ys p hl => ?_
  · obtain ⟨rfl, hx⟩ := y
    obtain ⟨k1, rfl⟩ := p
    have hlen := filt_len (ft := ft) (fe := fe) i
    have hx := hx xs (hs k1)
    refine test i x _ _ hx k1 fun H3 k3 => ?_
    have hl3 : H3 l = some (.lst (((List.range i).filter ft).map fe)) := k3 _ _ hl (by simp)
    cases hft : ft i with
    | true =>
      refine iteT (step i x _ _ hft hx (k1.trans k3) fun H4 k4 => ?_)
      refine CNext.intro hi (k4 _ _ hl3 (by simp)) (by omega) ⟨fun d o e n => ?_, (filt_yes hft).symm⟩
      rw [upd_ne (ne_of_none e hl0)]; exact k4 _ _ (k3 _ _ (k1 _ _ e n) n) n
    | false =>
      refine iteF ?_
      exact CSkip.intro hi hl3 ⟨k1.trans k3, (filt_no hft).symm⟩
  · obtain ⟨k1, rfl⟩ := p
    exact fin H k1 hl
/-! ## sums -/
def wholesD (d : PyData) (n : Int) : Bool := match d with
  | .tuple xs => decide ((xs.length : Int) = n) && xs.all wholeD
  | _ => false
def sumB (R U : Int) (d : PyData) : Bool := match d with
  | .tuple [a, b] => numsD a U && wholesD b R
  | _ => false
theorem sumB_2 (R U : Int) (a b : PyData) : sumB R U (.tuple [a, b]) = (numsD a U && wholesD b R) := rfl
theorem sumB_no2 {R U : Int} {d : PyData} (h : tupD d 2 = false) : sumB R U d = false := by
  unfold sumB
  split
  · exfalso; simp [tupD] at h
  · rfl
theorem wholesD_not {d : PyData} {n : Int} (h : tupD d n = false) : wholesD d n = false := by
  cases d with
  | tuple xs =>
    have h : decide ((xs.length : Int) = n) = false := h
    show (decide ((xs.length : Int) = n) && xs.all wholeD) = false
    rw [h]; rfl
  | _ => rfl
theorem wholesD_tup {ds : List PyData} {n : Int} (h : (ds.length : Int) = n) : wholesD (.tuple ds) n = ds.all wholeD := by
  show (decide ((ds.length : Int) = n) && ds.all wholeD) = _
  rw [decide_eq_true h, Bool.true_and]
def intOf (d : PyData) : Int := match d with | .int z => z | _ => 0
theorem wholes_ints {ds : List PyData} (h : ds.all wholeD = true) : ∃ ns : List Int, ds = ns.map PyData.int := by
  induction ds with
  | nil => exact ⟨[], rfl⟩
  | cons d ds ih =>
    rw [List.all_cons, Bool.and_eq_true] at h
    obtain ⟨j, rfl⟩ := wholeD_int h.1
    obtain ⟨ns, rfl⟩ := ih h.2
    exact ⟨j :: ns, rfl⟩
theorem nums_ints (ns : List Int) (n : Int) (h : (ns.length : Int) = n) : numsD (.tuple (ns.map PyData.int)) n = ((List.range ns.length).filter fun i => decide (ns.getD i 0 < 0)).isEmpty := by
  show (decide (((ns.map PyData.int).length : Int) = n) && (ns.map PyData.int).all nnD) = _
  rw [List.length_map, decide_eq_true h, Bool.true_and, Bool.eq_iff_iff, List.all_eq_true, List.isEmpty_iff, List.filter_eq_nil_iff]
  constructor
  · intro z i hi hc
    have hi := List.mem_range.mp hi
    have := z (.int ns[i]) (List.mem_map.mpr ⟨_, List.getElem_mem hi, rfl⟩)
    have h0 : 0 ≤ ns[i] := by simpa [nnD] using this
    rw [List.getD_eq_getElem?_getD, List.getElem?_eq_getElem hi] at hc
    have : ns[i] < 0 := by simpa using hc
    omega
  · intro z x hx
    obtain ⟨y, hy, rfl⟩ := List.mem_map.mp hx
    obtain ⟨i, hi, rfl⟩ := List.getElem_of_mem hy
    have := z i (List.mem_range.mpr hi)
    rw [List.getD_eq_getElem?_getD, List.getElem?_eq_getElem hi] at this
    have : ¬ ns[i] < 0 := by simpa using this
    show decide (0 ≤ ns[i]) = true
    exact decide_eq_true (by omega)
def spIsSum : Sp := fun vs H Q _ => ∃ ex R U ws bv d v, vs = [bv, v] ∧ Rep ex H (bookPD R U ws) bv ∧ Rep ex H d v ∧ ∀ H', Kp [] H H' → Q (.bl (sumB R U d)) H'
def spWholes : Sp := fun vs H Q _ => ∃ ex d v n, vs = [v, .int n] ∧ Rep ex H d v ∧ ∀ H', Kp [] H H' → Q (.bl (wholesD d n)) H'
end My

namespace My
open PySem PySem.Spec PyProof.Rows L2
mutual
theorem rep_add {p c l : Addr} {H : Hp} (h : H l = none) : ∀ {d : PyData} {v : V}, Rep [p, c] H d v → Rep [p, c, l] H d v
  | _, _, .none => .none
  | _, _, .bool b => .bool b
  | _, _, .int i => .int i
  | _, _, .str x => .str x
  | _, _, .tuple e n z r => .tuple e (fun q => by
      rcases List.mem_cons.mp q with q | q
      · exact n (by rw [q]; simp)
      rcases List.mem_cons.mp q with q | q
      · exact n (by rw [q]; simp)
      · rw [List.mem_singleton.mp q, h] at e; cases e) z (reps_add h r)
  | _, _, .list e n z r => .list e (fun q => by
      rcases List.mem_cons.mp q with q | q
      · exact n (by rw [q]; simp)
      rcases List.mem_cons.mp q with q | q
      · exact n (by rw [q]; simp)
      · rw [List.mem_singleton.mp q, h] at e; cases e) z (reps_add h r)
theorem reps_add {p c l : Addr} {H : Hp} (h : H l = none) : ∀ {ds : List PyData} {vs : List V}, Reps [p, c] H ds vs → Reps [p, c, l] H ds vs
  | _, _, .nil => .nil
  | _, _, .cons r t => .cons (rep_add h r) (reps_add h t)
end
theorem Tape.fre3 {H : Hp} {p c l : Addr} {n : Nat} {o : HO} (J : Tape H p c n) (hl : H l = some o) : Fre [p, c, l] H := fun H' t k ht => (J.keep k).not_mem3 (k _ _ hl (by simp)) ht
theorem GDs.append {ex : List Addr} {H : Hp} {h n : Nat} {vs us : List V} (a : GDs ex H h n vs) (b : GDs ex H h n us) : GDs ex H h n (vs ++ us) := fun v hv => by
  rcases List.mem_append.mp hv with hv | hv
  · exact a v hv
  · exact b v hv
theorem SDs.smalls {h : Nat} : ∀ {zs : List Int}, (∀ z ∈ zs, -1000 < z ∧ z < 1000) → SDs h (zs.length * 11) (zs.map PyData.int)
  | [], _ => .nil
  | z :: zs, hz => (SDs.cons (h := h) (n := 10) (SD.small (hz z List.mem_cons_self).1 (hz z List.mem_cons_self).2 (Nat.le_refl _)) (SDs.smalls fun y hy => hz y (List.mem_cons_of_mem _ hy))).mono (Nat.le_refl _) (by rw [List.length_cons, Nat.add_mul]; omega)
theorem pair_sd {x y : PyData} {n m : Nat} (a : SD 2 n x) (b : SD 2 m y) (h : n + m ≤ 2900) : SD 3 3000 (.tuple [x, y]) := (SD.tup (SDs.cons a (SDs.cons b (SDs.nil (n := 0))))).mono (Nat.le_refl _) (by omega)
theorem one_sd {x : PyData} {n : Nat} (a : SD 2 n x) (h : n ≤ 2900) : SD 3 3000 (.tuple [x]) := (SD.tup (SDs.cons a (SDs.nil (n := 0)))).mono (Nat.le_refl _) (by omega)
abbrev sumPD (ws hs : List Int) : PyData := .tuple [.tuple (ws.map PyData.int), .tuple (hs.map PyData.int)]
def spSomeSum : Sp := fun vs H Q _ => ∃ (p c : Addr) (n : Nat) (R U : Int) (ws : List Way) (bv : V), vs = [.ref p, bv] ∧ Tape H p c n ∧ n < 2 ^ 30 ∧ Rep [p, c] H (bookPD R U ws) bv ∧ (1 ≤ R ∧ R ≤ 12) ∧ (1 ≤ U ∧ U ≤ 6) ∧
  ∀ (v : V) (wts hts : List Int) (H' : Hp), (wts.length : Int) = U → (hts.length : Int) = R → (∀ x ∈ wts, 0 ≤ x ∧ x ≤ 100) → (∀ x ∈ hts, -3 ≤ x ∧ x ≤ 3) → Tape H' p c (n + 30) → Kp [p, c] H H' → Rep [p, c] H' (sumPD wts hts) v → Q v H'
def spBentT : Sp := fun vs H Q _ => ∃ (p c : Addr) (n : Nat) (wts hts : List Int) (tv : V), vs = [.ref p, tv] ∧ Tape H p c n ∧ n < 2 ^ 30 ∧ Rep [p, c] H (sumPD wts hts) tv ∧ (1 ≤ wts.length ∧ wts.length ≤ 6) ∧ (1 ≤ hts.length ∧ hts.length ≤ 12) ∧ (∀ x ∈ wts, 0 ≤ x ∧ x ≤ 100) ∧ (∀ x ∈ hts, -3 ≤ x ∧ x ≤ 3) ∧
  ∀ d v H', Tape H' p c (n + 10) → Kp [p, c] H H' → Rep [p, c] H' d v → SD 3 3000 d → Q v H'
end My

namespace L2
open PySem PySem.Spec PyProof.Rows
/-! ## list(range(n)) -/
def rngV (n : Nat) : List V := (List.range n).map fun (i : Nat) => V.int (i : Int)
def tLR (ta : TA) : TE := fun σ H Q => ta σ H fun vs H1 => ∃ j : Int, vs = [.int j] ∧ 0 ≤ j ∧ j ≤ 1000000 ∧ ∀ l, H1 l = none → Q (.ref l) (upd H1 l (.lst (rngV j.toNat)))
theorem vals_rng : ∀ (n : Nat) (us : List Value), us.length = n → (∀ (k : Nat) (u : Value), us[k]? = some u → ∃ t, u = Value.int ((k : Nat) : Int) t) → Vals (rngV n) us := by
  intro n
  induction n with
  | zero => intro us h _; rw [List.length_eq_zero_iff.mp h]; exact .nil
  | succ n ih =>
    intro us h hk
    have hne : us ≠ [] := fun e => by rw [e] at h; cases h
    obtain ⟨l, x, rfl⟩ : ∃ l x, us = l ++ [x] := ⟨us.dropLast, us.getLast hne, (List.dropLast_concat_getLast hne).symm⟩
    have hl : l.length = n := by simpa using h
    have e : rngV (n + 1) = rngV n ++ [V.int n] := by unfold rngV; rw [List.range_succ, List.map_append]; rfl
    rw [e]
    obtain ⟨t, et⟩ := hk n x (by rw [← hl]; simp)
    subst et
    exact (ih l hl fun k u hu => hk k u (by rw [List.getElem?_append_left (by exact (List.getElem?_eq_some_iff.mp hu).1)]; exact hu)).append (.cons ⟨t, rfl⟩ .nil)
section
variable {X : Cx}
theorem pe_listRange {a : Expr} {ta : TA} {p1 p2 pos1 pos2 : Pos} (hc : X.calm = true) (hg1 : Gl X "list") (hm1 : X.mg "list" = none) (hg2 : Gl X "range") (hm2 : X.mg "range" = none) (ha : PA X [a] ta) (hs : starEach [a] X.env = [(false, eval a X.env)] := by rfl)
    (hs1 : starEach [.Call (.Name "range" p2) [a] [] pos2] X.env = [(false, eval (.Call (.Name "range" p2) [a] [] pos2) X.env)] := by rfl) : PE X (.Call (.Name "list" p1) [.Call (.Name "range" p2) [a] [] pos2] [] pos1) (tLR ta) := by
  intro pins s σ H Q I h
  refine wpAny_Call_Name_kw (ld_blt I hg1 hm1 boot_list ?_)
  refine PyProof.Rows.callWith_type1 ?_ hs1 rfl
  rw [hs1]
  show wpAny _ _ (spliced ((false, eval (.Call (.Name "range" p2) [a] [] pos2) X.env) :: [])) _ _ s
  refine Calls.spliced_cons ?_
  refine Call_ (ld_blt I hg2 hm2 boot_range (PyProof.Rows.callWith_type1 (thn (ha pos2 pins s σ H _ I h) fun us s1 ⟨vs, H1, I1, r1, q1⟩ => ?_) hs rfl))
  obtain ⟨j, e, b1, b2, q⟩ := q1
  subst e
  cases r1 with
  | cons r rr =>
    cases rr
    obtain ⟨t, rfl⟩ := r
    refine call_range_1 (Calls.spliced_nil ?_)
    have I2 : Inv X pins σ H1 { s1 with heap := s1.heap.push { cls := .type "range", data := .fields #[.int 0 s1.toks, .int j t, .int 1 (s1.toks + 1)] }, toks := s1.toks + 1 + 1 } := I1.kept fun b o e => Heap.get?_push_of_some _ e
    have hs := sizeLine_eq
    refine call_list_range (n := j.toNat) (I2.ok.hd hc) (IsRange.new ..) (small_one (by omega) (by omega) (by omega) (by omega)) (by rw [rangeSize_one]; split <;> omega) (by omega) fun h' tk acc' c' hk hS' hacc => ?_
    refine ⟨.ref _, _, I2.laid (t' := tk) hk (Nat.le_refl _) (show ObjOk X.prog X.w _ h' _ (.lst (rngV j.toNat)) from ⟨by unfold rngV; simp; omega, acc'.toList, c', vals_rng _ _ (by simp [hacc.1]) (fun k u hu => ?_), by simpa using hS'⟩), rfl, q _ (I2.hok.fresh (Nat.le_refl _))⟩
    obtain ⟨t, et⟩ := hacc.2 k u (by simpa using hu)
    exact ⟨t, by rw [et]; simp⟩
end
end L2

namespace My
open PySem PySem.Spec PyProof.Rows L2
theorem comp1_listF {K : PySem.W.Frag} {a : Addr} {xs : List V} {tt : TT} {te : TE} {l : Addr} {fr : L2.St} {o0 : Option V} {H1 : Hp} {Q : Hp → Prop} (ft : Nat → Bool) (fe : Nat → V) (hq : SqL K H1 a xs) (hz : xs.length ≤ sizeLine) (hl0 : H1 l = none)
    (test : ∀ i x H (M : Bool → Hp → Prop), xs[i]? = some x → Kp [] H1 H → (∀ H3, Kp [] H H3 → M (ft i) H3) → tt (some x :: fr) H M)
    (step : ∀ i x H (N : VK), ft i = true → xs[i]? = some x → Kp [] H1 H → (∀ H4, Kp [] H H4 → N (fe i) H4) → te (some x :: fr) H N)
    (fin : ∀ H, Kp [] H1 H → H l = some (.lst (((List.range xs.length).filter ft).map fe)) → Q H) :
    cTurns (Itl K a) (gName 0) tt te l (o0 :: fr) (upd H1 l (.lst [])) Q := by
  have hs : ∀ {H : Hp}, Kp [] H1 H → SqL K H a xs := fun {H} k => by
    exact (show Same H1 H from fun b o e => k b o e (by simp)).seq hq
  refine comp1 xs.length (CPureF H1 ft fe) ⟨Kp.new hl0 _, rfl⟩ upd_same (fun i H ys hi p _ => ⟨xs, xs[i], hs p.1, List.getElem?_eq_getElem hi⟩) (fun H ys p _ => ⟨xs, hs p.1, Nat.le_refl _⟩) (fun i H ys x H' hi p hl y => ?_) fun H ys p hl => ?_
  · obtain ⟨rfl, hx⟩ := y
    obtain ⟨k1, rfl⟩ := p
    have hlen := filt_len (ft := ft) (fe := fe) i
    have hx := hx xs (hs k1)
    refine test i x _ _ hx k1 fun H3 k3 => ?_
    have hl3 : H3 l = some (.lst (((List.range i).filter ft).map fe)) := k3 _ _ hl (by simp)
    cases hft : ft i with
    | true =>
      refine iteT (step i x _ _ hft hx (k1.trans k3) fun H4 k4 => ?_)
      refine CNext.intro hi (k4 _ _ hl3 (by simp)) (by omega) ⟨fun d o e n => ?_, (filt_yes hft).symm⟩
      rw [upd_ne (ne_of_none e hl0)]; exact k4 _ _ (k3 _ _ (k1 _ _ e n) n) n
    | false =>
      refine iteF ?_
      exact CSkip.intro hi hl3 ⟨k1.trans k3, (filt_no hft).symm⟩
  · obtain ⟨k1, rfl⟩ := p
    exact fin H k1 hl
/-! ## worths and falls -/
def dotI (xs ys : List Int) (n : Nat) : Int := ((List.range n).map fun i => xs.getD i 0 * ys.getD i 0).sum
theorem dotI_succ (xs ys : List Int) (n : Nat) : dotI xs ys (n + 1) = dotI xs ys n + xs.getD n 0 * ys.getD n 0 := by
  unfold dotI
  rw [List.range_succ, List.map_append, List.sum_append]
  simp
def Big (ns : List Int) : Prop := ∀ x ∈ ns, x.natAbs < 10 ^ 99
theorem Big.get {ns : List Int} (h : Big ns) (i : Nat) : (ns.getD i 0).natAbs < 10 ^ 99 := by
  rw [List.getD_eq_getElem?_getD]
  cases e : ns[i]? with
  | none => decide
  | some x => exact h x (List.mem_of_getElem? e)
theorem Big.mul {xs ys : List Int} (h : Big xs) (h' : Big ys) (i : Nat) : IntMulOk (xs.getD i 0) (ys.getD i 0) := mulOk_of (Nat.lt_trans (h.get i) (by decide +kernel)) (Nat.lt_trans (h'.get i) (by decide +kernel))
theorem dotI_leB {xs ys : List Int} {B : Nat} (h : ∀ i, (xs.getD i 0 * ys.getD i 0).natAbs ≤ B) (n : Nat) : (dotI xs ys n).natAbs ≤ n * B := by
  induction n with
  | zero => rw [Nat.zero_mul]; exact Nat.le_refl _
  | succ n ih =>
    rw [dotI_succ, Nat.add_mul, Nat.one_mul]
    have m := h n
    generalize xs.getD n 0 * ys.getD n 0 = z at m ⊢
    have := Int.natAbs_add_le (dotI xs ys n) z
    generalize n * B = nb at *
    omega
theorem dotI_le {xs ys : List Int} (h : Big xs) (h' : Big ys) (n : Nat) : (dotI xs ys n).natAbs ≤ n * (10 ^ 99 * 10 ^ 99) := by
  refine dotI_leB (fun i => ?_) n
  rw [Int.natAbs_mul]
  exact Nat.mul_le_mul (Nat.le_of_lt (h.get i)) (Nat.le_of_lt (h'.get i))
theorem add3 {a b c A B C M : Nat} (ha : a < A) (hb : b < B) (hc : c ≤ C) (h : A + B + C < M) : a + b + c < M := by omega
theorem show_int {z : Int} (h : z.natAbs < 10 ^ 250) : ShOk (.int z) := by
  have hl : z.natAbs.log2 < 1000 := by
    by_cases hz : z.natAbs = 0
    · rw [hz]; decide
    · rw [Nat.log2_lt hz]; exact Nat.lt_of_lt_of_le h (by decide +kernel)
  have hs := sizeLine_eq
  refine ⟨rfl, ?_, Nat.zero_le _, ?_⟩
  · simp only [PyData.showable, decide_eq_true_eq]; omega
  · have e := int_text_length_le10 (k := 250) (by decide) h
    show (Str.ofString (toString z)).length ≤ sizeLine
    rw [PySem.ofString_length]; omega
theorem show_bool (b : Bool) : ShOk (.bool b) := by
  have hs := sizeLine_eq
  refine ⟨rfl, rfl, Nat.zero_le _, ?_⟩
  cases b <;> (refine Nat.le_trans (m := 5) ?_ (by omega); decide +kernel)
theorem atI_int {ns : List Int} {r : Int} (h0 : 0 ≤ r) (h1 : r < ns.length) : atI (ns.map V.int) r = some (.int (ns.getD r.toNat 0)) := by
  have hk : r.toNat < ns.length := by omega
  have e : ((r.toNat : Nat) : Int) = r := by omega
  have q : atI (ns.map V.int) ((r.toNat : Nat) : Int) = some (.int (ns.getD r.toNat 0)) := atI_nat (by rw [List.getElem?_map, List.getElem?_eq_getElem hk, List.getD_eq_getElem?_getD, List.getElem?_eq_getElem hk]; rfl)
  rw [e] at q; exact q
def fallI (ws : List Way) (wts hts : List Int) (k : Int) : Int := hts.getD (wayAt ws k).a.toNat 0 - hts.getD (wayAt ws k).b.toNat 0 - dotI wts (wayAt ws k).g wts.length
def worthI (wts hts : List Int) (r : Int) (ns : List Int) : Int := hts.getD r.toNat 0 + dotI wts ns wts.length
structure SumOk (R U : Int) (wts hts : List Int) : Prop where
  lw : (wts.length : Int) = U
  lh : (hts.length : Int) = R
  bw : Big wts
  bh : Big hts
theorem WayOk.big {R U : Int} {w : Way} (o : WayOk R U w) : Big w.g := fun x hx => by
  have := o.small x hx
  exact Nat.lt_of_lt_of_le (show x.natAbs < 100 by omega) (by decide +kernel)
theorem wayOk_at {R U : Int} {ws : List Way} (ok : BookOk R U ws) {k : Int} (h0 : 0 ≤ k) (h1 : k < ws.length) : WayOk R U (wayAt ws k) := by
  unfold wayAt
  have hk : k.toNat < ws.length := by omega
  rw [List.getD_eq_getElem?_getD, List.getElem?_eq_getElem hk]
  exact ok.ways _ (List.getElem_mem hk)
theorem fallI_show {R U : Int} {ws : List Way} {wts hts : List Int} (ok : BookOk R U ws) (so : SumOk R U wts hts) {k : Int} (h0 : 0 ≤ k) (h1 : k < ws.length) : ShOk (.int (fallI ws wts hts k)) := by
  refine show_int ?_
  unfold fallI
  have d := dotI_le so.bw (wayOk_at ok h0 h1).big wts.length
  have a := so.bh.get (wayAt ws k).a.toNat
  have b := so.bh.get (wayAt ws k).b.toNat
  have l : wts.length ≤ 6 := by have := so.lw; have := ok.p1; omega
  have d := Nat.le_trans d (Nat.mul_le_mul_right _ l)
  have f := add3 a b d (show 10 ^ 99 + 10 ^ 99 + 6 * (10 ^ 99 * 10 ^ 99) < 10 ^ 250 by decide +kernel)
  generalize (10 : Nat) ^ 250 = M at f ⊢
  clear a b d
  generalize hts.getD (wayAt ws k).a.toNat 0 = x at f ⊢
  generalize hts.getD (wayAt ws k).b.toNat 0 = y at f ⊢
  generalize dotI wts (wayAt ws k).g wts.length = z at f ⊢
  omega
theorem worthI_show {wts hts ns : List Int} {r : Int} (l : wts.length ≤ 6) (bw : Big wts) (bh : Big hts) (bn : Big ns) : ShOk (.int (worthI wts hts r ns)) := by
  refine show_int ?_
  unfold worthI
  have d := dotI_le bw bn wts.length
  have a := bh.get r.toNat
  have d := Nat.le_trans d (Nat.mul_le_mul_right _ l)
  have f := add3 a a d (show 10 ^ 99 + 10 ^ 99 + 6 * (10 ^ 99 * 10 ^ 99) < 10 ^ 250 by decide +kernel)
  generalize (10 : Nat) ^ 250 = M at f ⊢
  clear a d
  generalize hts.getD r.toNat 0 = x at f ⊢
  generalize dotI wts ns wts.length = z at f ⊢
  omega
def spWeighed (K : PySem.W.Frag) : Sp := fun vs H Q _ => ∃ a b xs ys, vs = [.ref a, .ref b] ∧ SqT K H a (xs.map V.int) ∧ SqT K H b (ys.map V.int) ∧ xs.length = ys.length ∧ xs.length ≤ 1000 ∧ Big xs ∧ Big ys ∧ ∀ H', Kp [] H H' → Q (.int (dotI xs ys xs.length)) H'
def spWorth : Sp := fun vs H Q _ => ∃ ex wts hts tv r ns sv, vs = [tv, sv] ∧ Rep ex H (sumPD wts hts) tv ∧ Rep ex H (.tuple [.int r, .tuple (ns.map PyData.int)]) sv ∧ (0 ≤ r ∧ r < hts.length) ∧ wts.length = ns.length ∧ wts.length ≤ 1000 ∧ Big wts ∧ Big ns ∧ ∀ H', Kp [] H H' → Q (.int (worthI wts hts r ns)) H'
def spFall : Sp := fun vs H Q _ => ∃ ex R U ws bv wts hts tv k, vs = [bv, tv, .int k] ∧ Rep ex H (bookPD R U ws) bv ∧ BookOk R U ws ∧ Rep ex H (sumPD wts hts) tv ∧ SumOk R U wts hts ∧ (0 ≤ k ∧ k < ws.length) ∧ ∀ H', Kp [] H H' → Q (.int (fallI ws wts hts k)) H'
def spKeptL (K : PySem.W.Frag) : Sp := fun vs H Q _ => ∃ ex R U ws bv wts hts tv l ns, vs = [bv, tv, .ref l] ∧ Rep ex H (bookPD R U ws) bv ∧ BookOk R U ws ∧ Rep ex H (sumPD wts hts) tv ∧ SumOk R U wts hts ∧ SqL K H l (ns.map V.int) ∧ ns.length ≤ 1000 ∧ InW ws ns ∧ ∀ H', Kp [] H H' → Q (.bl (ns.all fun k => decide (0 ≤ fallI ws wts hts k))) H'
def spFalling (K : PySem.W.Frag) : Sp := fun vs H Q _ => ∃ ex R U ws bv wts hts tv l ns, vs = [bv, tv, .ref l] ∧ Rep ex H (bookPD R U ws) bv ∧ BookOk R U ws ∧ Rep ex H (sumPD wts hts) tv ∧ SumOk R U wts hts ∧ SqL K H l (ns.map V.int) ∧ ns.length ≤ 1000 ∧ InW ws ns ∧ ∀ t H', Kp [] H H' → H t = none → H' t = some (.lst ((ns.filter fun k => decide (0 < fallI ws wts hts k)).map V.int)) → Q (.ref t) H'
def spTogether : Sp := fun vs H Q _ => ∃ ex w1 h1 v1 w2 h2 v2, vs = [v1, v2] ∧ Rep ex H (sumPD w1 h1) v1 ∧ Rep ex H (sumPD w2 h2) v2 ∧ w1.length = w2.length ∧ h1.length = h2.length ∧ w1.length ≤ 1000 ∧ h1.length ≤ 1000 ∧ Fre ex H ∧ ∀ v H', Kp [] H H' → Rep ex H' (sumPD (putI w1 w2) (putI h1 h2)) v → Q v H'
theorem rng_filter (ns : List Int) (p : Int → Bool) : ((List.range ns.length).filter fun i => p (ns.getD i 0)).map (fun i => V.int (ns.getD i 0)) = (ns.filter p).map V.int := by
  have e : ∀ (l : List Int), l = (List.range l.length).map (fun i => l.getD i 0) := fun l => by
    apply List.ext_getElem
    · simp
    · intro i h1 h2; simp [List.getD_eq_getElem?_getD, List.getElem?_eq_getElem h1]
  conv => rhs; rw [e ns]
  rw [List.filter_map, List.map_map]
  rfl
theorem all_rng (ns : List Int) (p : Int → Bool) : ((List.range ns.length).map fun i => p (ns.getD i 0)).all id = ns.all p := by
  have e : ∀ (l : List Int), l = (List.range l.length).map (fun i => l.getD i 0) := fun l => by
    apply List.ext_getElem
    · simp
    · intro i h1 h2; simp [List.getD_eq_getElem?_getD, List.getElem?_eq_getElem h1]
  conv => rhs; rw [e ns]
  rw [List.all_map, List.all_map]
  rfl
end My

namespace My
open PySem PySem.Spec PyProof.Rows L2
theorem comp1_listP {K : PySem.W.Frag} {a : Addr} {xs : List V} {tt : TT} {te : TE} {l : Addr} {fr : L2.St} {o0 : Option V} {H0 : Hp} {Q : Hp → Prop} (Pv : Nat → List V → Hp → Prop) (h0 : Pv 0 [] H0) (hl0 : H0 l = some (.lst [])) (hsq : ∀ i ys H, Pv i ys H → SqL K H a xs)
    (step : ∀ i x H ys, i < xs.length → xs[i]? = some x → Pv i ys H → H l = some (.lst ys) → tt (some x :: fr) H fun c H3 => if c = true then te (some x :: fr) H3 (CNext xs.length l fr Pv i x) else CSkip xs.length l fr Pv i x H3)
    (fin : ∀ H ys, Pv xs.length ys H → H l = some (.lst ys) → Q H) : cTurns (Itl K a) (gName 0) tt te l (o0 :: fr) H0 Q := by
  refine comp1 xs.length Pv h0 hl0 (fun i H ys hi p _ => ⟨xs, xs[i], hsq _ _ _ p, List.getElem?_eq_getElem hi⟩) (fun H ys p _ => ⟨xs, hsq _ _ _ p, Nat.le_refl _⟩) (fun i H ys x H' hi p hl y => ?_) fin
  obtain ⟨rfl, hx⟩ := y
  exact step i x H' ys hi (hx xs (hsq _ _ _ p)) p hl
theorem noFree {sc scope : Scope} (h : ∀ x ∈ scope.names, x.2 ≠ .free) : ∀ x ∈ scope.names, x.2 = .free → sc.names.lookup x.1 = some .cell ∨ sc.names.lookup x.1 = some .free := fun x hx e => absurd e (h x hx)
theorem pi_zipK {X : Cx} {es : List Expr} {kk : Nat} {tp : Pos} {K' : PySem.W.Frag} {a b : Expr} {ta : TA} {p pos : Pos} (hK : X.K = K') (hg : Gl X "zip") (hm : X.mg "zip" = none) (ha : PA X [a, b] ta) (hs : starEach [a, b] X.env = [(false, eval a X.env), (false, eval b X.env)] := by rfl) (hs2 : starEach [b] X.env = [(false, eval b X.env)] := by rfl) :
    PI X (.Tuple es kk tp) (.Call (.Name "zip" p) [a, b] [] pos) (iZip K' ta) := hK ▸ pi_zip hg hm ha hs hs2
theorem kept_eq (ns : List Int) (f : Int → Int) : ((List.range ns.length).filter fun i => decide (f (ns.getD i 0) < 0)).isEmpty = ns.all fun k => decide (0 ≤ f k) := by
  rw [Bool.eq_iff_iff, List.all_eq_true, List.isEmpty_iff, List.filter_eq_nil_iff]
  constructor
  · intro z x hx
    obtain ⟨i, hi, rfl⟩ := List.getElem_of_mem hx
    have := z i (List.mem_range.mpr hi)
    rw [List.getD_eq_getElem?_getD, List.getElem?_eq_getElem hi] at this
    have : ¬ f ns[i] < 0 := by simpa using this
    exact decide_eq_true (by omega)
  · intro z i hi hc
    have hi := List.mem_range.mp hi
    have := z ns[i] (List.getElem_mem hi)
    have h0 : 0 ≤ f ns[i] := by simpa using this
    rw [List.getD_eq_getElem?_getD, List.getElem?_eq_getElem hi] at hc
    have : f ns[i] < 0 := by simpa using hc
    omega
theorem great_w {r : Int} (r0 : 0 ≤ r) (r1 : r < 10 ^ 40) : (10 ^ 63 * 10 ^ 36 - 1 - r).natAbs < 10 ^ 99 := by
  have e : (10 : Int) ^ 63 * 10 ^ 36 = ((10 ^ 99 : Nat) : Int) := by decide +kernel
  have m : (10 : Int) ^ 40 ≤ ((10 ^ 99 : Nat) : Int) - 1 := by decide +kernel
  rw [e]
  have r2 := Int.lt_of_lt_of_le r1 m
  clear r1 m e
  generalize (10 : Nat) ^ 99 = M at r2 ⊢
  omega
theorem great_h {r : Int} (r0 : 0 ≤ r) (r1 : r < 10 ^ 40) : (10 ^ 63 * 10 ^ 35 - r).natAbs < 10 ^ 99 := by
  have e : (10 : Int) ^ 63 * 10 ^ 35 = ((10 ^ 98 : Nat) : Int) := by decide +kernel
  have m : (10 : Int) ^ 40 ≤ ((10 ^ 98 : Nat) : Int) - 1 := by decide +kernel
  rw [e]
  have r2 := Int.lt_of_lt_of_le r1 m
  have r3 : (10 : Nat) ^ 98 < 10 ^ 99 := by decide +kernel
  clear r1 m e
  generalize (10 : Nat) ^ 98 = M at r2 r3 ⊢
  generalize (10 : Nat) ^ 99 = L at r3 ⊢
  omega
theorem nat40 {r : Int} (r0 : 0 ≤ r) (r1 : r < 10 ^ 40) : r.natAbs < 10 ^ 99 := by
  have m : (10 : Int) ^ 40 ≤ ((10 ^ 99 : Nat) : Int) := by decide +kernel
  have r2 := Int.lt_of_lt_of_le r1 m
  clear r1 m
  generalize (10 : Nat) ^ 99 = M at r2 ⊢
  omega
theorem small99 {z : Int} (h : z.natAbs < 1000) : z.natAbs < 10 ^ 99 := Nat.lt_of_lt_of_le h (by decide +kernel)
def spSomeSumG : Sp := fun vs H Q _ => ∃ (p c x : Addr) (ox : HO) (n : Nat) (R U : Int) (ws : List Way) (bv : V), vs = [.ref p, bv] ∧ H x = some ox ∧ x ∉ [p, c] ∧ Tape H p c n ∧ n < 2 ^ 30 ∧ Rep [p, c] H (bookPD R U ws) bv ∧ (1 ≤ R ∧ R ≤ 12) ∧ (1 ≤ U ∧ U ≤ 6) ∧
  ∀ (v : V) (wts hts : List Int) (H' : Hp), SumOk R U wts hts → Tape H' p c (n + 60) → Kp [p, c] H H' → Rep [p, c, x] H' (sumPD wts hts) v → Q v H'
def spSomeWays : Sp := fun vs H Q _ => ∃ (p c : Addr) (n : Nat) (R U : Int) (ws : List Way) (bv : V), vs = [.ref p, bv] ∧ Tape H p c n ∧ n < 2 ^ 30 ∧ Rep [p, c] H (bookPD R U ws) bv ∧ BookOk R U ws ∧
  ∀ (t : Addr) (ns : List Int) (H' : Hp), Tape H' p c (n + 70) → Kp [p, c] H H' → H t = none → t ∉ [p, c] → H' t = some (.lst (ns.map V.int)) → InW ws ns → ns.length ≤ 60 → Q (.ref t) H'
abbrev sumOf (s : List Int × List Int) : PyData := sumPD s.1 s.2
theorem SumOk.sd {R U : Int} {wts hts : List Int} (so : SumOk R U wts hts) (hR : R ≤ 12) (hU : U ≤ 6) {w2 h2 : List Int} (so2 : SumOk R U w2 h2) : ShOk (sumPD (putI wts w2) (putI hts h2)) := by
  have key : ∀ (h : Nat) (zs : List Int), (∀ z ∈ zs, z.natAbs < 10 ^ 100) → SDs h (zs.length * 334) (zs.map PyData.int) := by
    intro h zs
    induction zs with
    | nil => intro _; exact .nil
    | cons z zs ih =>
      intro hz
      exact (SDs.cons (h := h) (n := 333) (SD.int (hz z List.mem_cons_self) (Nat.le_refl _)) (ih fun y hy => hz y (List.mem_cons_of_mem _ hy))).mono (Nat.le_refl _) (by rw [List.length_cons, Nat.add_mul]; omega)
  have add : ∀ (xs ys : List Int), Big xs → Big ys → ∀ z ∈ putI xs ys, z.natAbs < 10 ^ 100 := by
    intro xs ys bx by' z hz
    unfold putI at hz
    obtain ⟨i, hi, rfl⟩ := List.getElem_of_mem hz
    rw [List.getElem_zipWith]
    have a := bx _ (List.getElem_mem (l := xs) (n := i) (by simp at hi; omega))
    have b := by' _ (List.getElem_mem (l := ys) (n := i) (by simp at hi; omega))
    have m : (10 : Nat) ^ 99 + 10 ^ 99 < 10 ^ 100 := by decide +kernel
    generalize (10 : Nat) ^ 99 = A at a b m
    generalize (10 : Nat) ^ 100 = B at m ⊢
    omega
  have l1 : (putI wts w2).length ≤ 6 := by rw [putI_len]; have := so.lw; omega
  have l2 : (putI hts h2).length ≤ 12 := by rw [putI_len]; have := so.lh; omega
  have s1 : SDs 1 2100 ((putI wts w2).map PyData.int) := (key 1 _ (add _ _ so.bw so2.bw)).mono (Nat.le_refl _) (by omega)
  have s2 : SDs 1 4100 ((putI hts h2).map PyData.int) := (key 1 _ (add _ _ so.bh so2.bh)).mono (Nat.le_refl _) (by omega)
  exact (SD.tup (SDs.cons (SD.tup s1) (SDs.cons (SD.tup s2) (SDs.nil (n := 0))))).show (by decide) (by decide)
theorem show_ints {ns : List Int} (h : ns.length ≤ 100) (hb : ∀ z ∈ ns, -1000 < z ∧ z < 1000) : ShOk (.list (ns.map PyData.int)) :=
  (SD.lst ((SDs.smalls (h := 0) hb).mono (Nat.le_refl _) (show ns.length * 11 ≤ 1100 by omega))).show (by decide) (by decide)
end My

namespace My
open PySem PySem.Spec PyProof.Rows L2
/-- k31: the book and the list of sums while tape is drawn from -/
structure K31 (p c sl : Addr) (R U : Int) (ws : List Way) (bv : V) (sums : List (List Int × List Int)) (svs : List V) (H : Hp) (n : Nat) : Prop where
  T : Tape H p c n
  b : Rep [p, c, sl] H (bookPD R U ws) bv
  l : H sl = some (.lst svs)
  s : Reps [p, c, sl] H (sums.map sumOf) svs
  nl : sl ∉ [p, c]
section
variable {p c sl : Addr} {R U : Int} {ws : List Way} {bv : V} {sums : List (List Int × List Int)} {svs : List V} {H H' : Hp} {n m : Nat}
theorem K31.go (N : K31 p c sl R U ws bv sums svs H n) (k : Kp [p, c] H H') (T : Tape H' p c m) : K31 p c sl R U ws bv sums svs H' m :=
  ⟨T, N.b.keep (k.mono (by simp)), k _ _ N.l N.nl, N.s.keep (k.mono (by simp)), N.nl⟩
theorem K31.kp (N : K31 p c sl R U ws bv sums svs H n) (k : Kp [] H H') : K31 p c sl R U ws bv sums svs H' n := N.go k.of (N.T.keep k)
theorem K31.mono (N : K31 p c sl R U ws bv sums svs H n) (h : n ≤ m) : K31 p c sl R U ws bv sums svs H m := N.go .refl (N.T.mono h)
theorem K31.b2 (N : K31 p c sl R U ws bv sums svs H n) : Rep [p, c] H (bookPD R U ws) bv := Rep.mono (by simp) N.b
theorem K31.fre (N : K31 p c sl R U ws bv sums svs H n) : Fre [p, c, sl] H := N.T.fre3 N.l
theorem K31.at (N : K31 p c sl R U ws bv sums svs H n) {i : Nat} {v : V} (h : svs[i]? = some v) : ∃ s, sums[i]? = some s ∧ Rep [p, c, sl] H (sumOf s) v := by
  obtain ⟨d, hd, r⟩ := N.s.getV h
  rw [List.getElem?_map] at hd
  cases e : sums[i]? with
  | none => rw [e] at hd; cases hd
  | some s => rw [e] at hd; cases hd; exact ⟨s, rfl, r⟩
end
theorem nines_ok : ((10 : Int) ^ 50 * 10 ^ 50 - 1) = 9999999999999999999999999999999999999999999999999999999999999999999999999999999999999999999999999999 := by decide +kernel
theorem putI_nines (z : Int) (n : Nat) : putI (List.replicate n z) (List.replicate n z) = List.replicate n (z + z) := by
  unfold putI
  rw [List.zipWith_replicate, Nat.min_self]
theorem sumB_two (R U z : Int) (h : 0 ≤ z) (n m : Nat) (hn : (n : Int) = U) (hm : (m : Int) = R) : sumB R U (sumPD (List.replicate n z) (List.replicate m z)) = true := by
  rw [sumB_2]
  have a : numsD (.tuple ((List.replicate n z).map PyData.int)) U = true := by
    show (decide ((((List.replicate n z).map PyData.int).length : Int) = U) && ((List.replicate n z).map PyData.int).all nnD) = true
    rw [List.length_map, List.length_replicate, decide_eq_true hn, Bool.true_and, List.all_eq_true]
    intro x hx
    obtain ⟨y, hy, rfl⟩ := List.mem_map.mp hx
    obtain ⟨_, rfl⟩ := List.mem_replicate.mp hy
    exact decide_eq_true h
  have b : wholesD (.tuple ((List.replicate m z).map PyData.int)) R = true := by
    rw [wholesD_tup (by rw [List.length_map, List.length_replicate]; exact hm), List.all_eq_true]
    intro x hx
    obtain ⟨y, hy, rfl⟩ := List.mem_map.mp hx
    rfl
  rw [a, b]; rfl
theorem repT_all {H : Hp} {t0 : Addr} {k nz : Int} {Q : VK} (h0 : H t0 = none) (hk : 1 ≤ k) (q : ∀ t H', Kp [] H H' → H t = none → H' t = some (.tup ((List.replicate k.toNat nz).map V.int)) → Q (.ref t) H') :
    (k = 1 → Q (.ref t0) (upd H t0 (.tup [.int nz]))) ∧ (k ≠ 1 → ∀ p, upd H t0 (.tup [.int nz]) p = none → Q (.ref p) (upd (upd H t0 (.tup [.int nz])) p (.tup (List.replicate k.toNat [V.int nz]).flatten))) := by
  constructor
  · rintro rfl
    exact q _ _ (Kp.new h0 _) h0 upd_same
  · intro _ p hp
    have k1 : Kp [] H (upd H t0 (.tup [.int nz])) := Kp.new h0 _
    refine q p _ (k1.trans (Kp.new hp _)) (Kp.free k1 hp (by simp)) ?_
    rw [upd_same, flat1, List.map_replicate]
theorem repT1 {K : PySem.W.Frag} {H : Hp} {t0 : Addr} {k nz : Int} {Q : VK} (h0 : H t0 = none) (hk : 1 ≤ k) (hk2 : k ≤ 1000) (q : ∀ t H', Kp [] H H' → H t = none → H' t = some (.tup ((List.replicate k.toNat nz).map V.int)) → Q (.ref t) H') :
    rRepT K (.ref t0) (.int k) (upd H t0 (.tup [.int nz])) Q :=
  ⟨t0, k, _, rfl, rfl, SqT.of upd_same, by simp, by omega, by rw [sizeLine_eq]; simp; omega, repT_all h0 hk q⟩
end My

namespace My
open PySem PySem.Spec PyProof.Rows L2
def top (i : Nat) : Stmt := PySem.Challenge.pw_fallsum_k31_worths_and_falls.main.body.getD i (.Pass ⟨0, 0, 0, 0⟩)
abbrev s_is_whole : Stmt := top 1
abbrev s_is_tuple_of : Stmt := top 2
abbrev s_are_numbers : Stmt := top 3
abbrev s_put_to : Stmt := top 4
abbrev s_is_sum : Stmt := top 6
abbrev s_weighed : Stmt := top 7
abbrev s_worth : Stmt := top 8
abbrev s_fall : Stmt := top 9
abbrev s_is_kept : Stmt := top 10
abbrev s_falling : Stmt := top 11
abbrev s_together : Stmt := top 12
abbrev s_law_tape : Stmt := top 14
abbrev s_law_draw : Stmt := top 15
abbrev s_law_gain : Stmt := top 16
abbrev s_law_gains : Stmt := top 17
abbrev s_law_nested : Stmt := top 18
abbrev s_law_book : Stmt := top 19
abbrev s_law_whole : Stmt := top 20
abbrev s_law_are_whole : Stmt := top 21
abbrev s_law_is_sum : Stmt := top 22
abbrev s_law_fall : Stmt := top 23
abbrev s_law_kept : Stmt := top 24
abbrev s_law_some_sum : Stmt := top 25
abbrev s_law_worth : Stmt := top 26
abbrev s_law_some_ways : Stmt := top 27
abbrev s_law : Stmt := top 28
structure Txt (mg : Str → Option Value) : Prop where
  b_isinstance : mg "isinstance" = none
  b_int : mg "int" = none
  b_bool : mg "bool" = none
  b_str : mg "str" = none
  b_tuple : mg "tuple" = none
  b_len : mg "len" = none
  b_all : mg "all" = none
  b_sum : mg "sum" = none
  b_range : mg "range" = none
  b_list : mg "list" = none
  b_zip : mg "zip" = none
  b_enumerate : mg "enumerate" = none
  b_min : mg "min" = none
  b_max : mg "max" = none
  b_repr : mg "repr" = none
section
variable {P : Program} {w : World} {K : PySem.W.Frag} {mg : Str → Option Value} {base : Heap}
theorem sc_is_whole : FnScope ["thing"] ["thing"] (defScope s_is_whole) := ⟨rfl, rfl, rfl, by decide +kernel, rfl, by decide +kernel, by decide +kernel⟩
theorem ok_is_whole (T : Txt mg) (D : Def K mg "is_whole" s_is_whole ["thing"]) : Cal P w K mg base "is_whole" 1 ["thing"] spWhole := by
  refine D.cal fun f fd F => F.ok sc_is_whole (fun vs H Q E h => ?_) (fun cdv A outer s H vs Q E hr h => ?_)
  · obtain ⟨ex, d, v, rfl, _⟩ := h
    rfl
  obtain ⟨ex, d, v, rfl, r, q⟩ := h
  refine ⟨_, (@pss_one _ _ _ (@ps_ret _ _ _ _ (pe_and (pe_callB call_isD rfl T.b_isinstance boot_isinstance (pa_name (pv 0) (pa_name (pe_bltn rfl T.b_int boot_int (v := .ty "int") rfl) pa_nil))) (pe_one (pe_not (pe_callB call_isD rfl T.b_isinstance boot_isinstance (pa_name (pv 0) (pa_name (pe_bltn rfl T.b_bool boot_bool (v := .ty "bool") rfl) pa_nil)))))))), ?_⟩
  refine ⟨_, rfl, ex, d, _, _, rfl, r, isT_int, _, rfl, ?_⟩
  refine ite_b (fun c => ?_) (fun c => ?_)
  · refine ⟨_, rfl, ex, d, _, _, rfl, r, isT_bool, _, rfl, ?_⟩
    have e : (!instD d "bool") = wholeD d := by cases d <;> simp_all [instD, tyName, wholeD]
    rw [e]; exact q
  · have e : wholeD d = false := by cases d <;> simp_all [instD, tyName, wholeD]
    rw [e] at q; exact q

theorem sc_is_tuple_of : FnScope ["thing", "many"] ["thing", "many"] (defScope s_is_tuple_of) := ⟨rfl, rfl, rfl, by decide +kernel, rfl, by decide +kernel, by decide +kernel⟩
theorem ok_is_tuple_of (T : Txt mg) (D : Def K mg "is_tuple_of" s_is_tuple_of ["thing", "many"]) : Cal P w K mg base "is_tuple_of" 1 ["thing", "many"] spTup := by
  refine D.cal fun f fd F => F.ok sc_is_tuple_of (fun vs H Q E h => ?_) (fun cdv A outer s H vs Q E hr h => ?_)
  · obtain ⟨ex, d, v, n, rfl, _⟩ := h
    rfl
  obtain ⟨ex, d, v, n, rfl, r, q⟩ := h
  refine ⟨_, (@pss_one _ _ _ (@ps_ret _ _ _ _ (pe_and (pe_callB call_isD rfl T.b_isinstance boot_isinstance (pa_name (pv 0) (pa_name (pe_bltn rfl T.b_tuple boot_tuple (v := .ty "tuple") rfl) pa_nil))) (pe_one (pe_cmpR op_eq (pe_callB call_len_seq rfl T.b_len PySem.boot_len (pa_name (pv 0) pa_nil)) (pv 1) (nomark _)))))), ?_⟩
  refine ⟨_, rfl, ex, d, _, _, rfl, r, isT_tuple, _, rfl, ?_⟩
  refine ite_b (fun c => ?_) (fun c => ?_)
  · obtain ⟨xs, rfl⟩ := instD_tuple c
    cases r with
    | tuple e n' z rs =>
      refine ⟨_, rfl, _, _, rfl, .inr (SqT.of e), _, rfl, rfl, ?_⟩
      have hl := rs.length
      have e : decide (V.int (↑(List.length ‹List V›)) = V.int n) = tupD (.tuple xs) n := by show _ = decide ((xs.length : Int) = n); rw [hl]; simp
      rw [e]; exact q
  · have e : tupD d n = false := by cases d <;> first | rfl | exact absurd rfl (instD_notuple c _)
    rw [e] at q; exact q

theorem sc_are_numbers : FnScope ["thing", "many"] ["thing", "many"] (defScope s_are_numbers) := ⟨rfl, rfl, rfl, by decide +kernel, rfl, by decide +kernel, by decide +kernel⟩
theorem ok_are_numbers (T : Txt mg) (D : Def K mg "are_numbers" s_are_numbers ["thing", "many"]) (c_is_tuple_of : Cal P w K mg base "is_tuple_of" 1 ["thing", "many"] spTup) (c_is_whole : Cal P w K mg base "is_whole" 1 ["thing"] spWhole) : Cal P w K mg base "are_numbers" 2 ["thing", "many"] spNums := by
  refine D.cal fun f fd F => F.ok sc_are_numbers (fun vs H Q E h => ?_) (fun cdv A outer s H vs Q E hr h => ?_)
  · obtain ⟨ex, d, v, n, rfl, _⟩ := h
    rfl
  obtain ⟨ex, d, v, n, rfl, r, q⟩ := h
  refine ⟨_, (@pss_one _ _ _ (@ps_ret _ _ _ _ (pe_and (pe_c c_is_tuple_of (hr.mono (by decide)) rfl (pa_name (pv 0) (pa_name (pv 1) pa_nil))) (pe_one (pe_callB call_all rfl T.b_all boot_all (pa_comp (pe_comp (sc := (defScope s_are_numbers)) (N := ["thing", "many"]) (N' := ["part"]) (k := 1) (idx := []) rfl (by exact ⟨rfl, by decide +kernel, by decide +kernel, by decide +kernel, by decide +kernel, by decide +kernel, rfl, rfl⟩) rfl rfl (pi_tup (pv 0)) (fun _ _ _ _ => (pg_name (i := 0) (show (["part"] : List Str).Nodup by decide +kernel) rfl (Or.inl rfl) (Or.inr rfl))) (fun _ _ _ _ => pts_nil) (fun _ _ _ _ => (pe_and (pe_c c_is_whole (hr.mono (by decide)) rfl (pa_name (pv 0) pa_nil)) (pe_one (pe_cmpR op_ge (pv 0) pe_int (nomark _)))))) pa_nil)))))), ?_⟩
  refine ⟨_, rfl, _, rfl, ex, d, _, _, rfl, r, _, rfl, ite_b (fun cc => ?_) (fun cc => ?_)⟩
  · obtain ⟨ds, rfl, hlen⟩ := tupD_tup cc
    obtain ⟨a, xs, rfl, ha, _, za, rs⟩ := rep_tup r
    have hl := rs.length
    refine ⟨_, rfl, a, rfl, ⟨_, SqT.of ha⟩, fun l hl0 => ?_⟩
    refine comp1_tup (K := K) (fun i => .bl (nnD (ds.getD i .none))) (SqT.of ha) za hl0 ?_ ?_
    · intro i x H1 M hx k1 hM
      obtain ⟨d, ed, rd⟩ := rs.getV hx
      have eg : ds.getD i .none = d := by rw [List.getD_eq_getElem?_getD, ed]; rfl
      have hm := hM H1 .refl
      rw [eg] at hm
      refine ⟨_, rfl, ex, d, _, rfl, rd.keep k1.of, _, rfl, ite_b (fun c2 => ?_) (fun c2 => ?_)⟩
      · obtain ⟨j, rfl⟩ := wholeD_int c2
        cases rd
        exact ⟨_, rfl, _, _, rfl, rfl, hm⟩
      · have e : nnD d = false := by cases d <;> first | rfl | cases c2
        rw [e] at hm; exact hm
    · intro H1 k1 hl1
      rw [← hl, map_bl] at hl1
      refine ⟨rfl, l, _, rfl, SqL.of hl1, ?_⟩
      rw [all_range nnD ds .none]
      have := q H1 k1
      have e : numsD (.tuple ds) n = ds.all nnD := by
        show (decide ((ds.length : Int) = n) && ds.all nnD) = _
        rw [decide_eq_true hlen, Bool.true_and]
      rw [e] at this
      exact this
  · have := q H .refl
    rw [numsD_not cc] at this
    exact this

theorem sc_law_tape : FnScope ["_law_script"] ["_law_script"] (defScope s_law_tape) := ⟨rfl, rfl, rfl, by decide +kernel, rfl, by decide +kernel, by decide +kernel⟩
theorem ok_law_tape (T : Txt mg) (D : Def K mg "_law_tape" s_law_tape ["_law_script"]) : Cal P w K mg base "_law_tape" 1 ["_law_script"] (spTape K) := by
  refine D.cal fun f fd F => F.ok sc_law_tape (fun vs H Q E h => ?_) (fun cdv A outer s H vs Q E hr h => ?_)
  · obtain ⟨a, ns, rfl, _⟩ := h
    rfl
  obtain ⟨a, ns, rfl, hS, hlen, q⟩ := h
  refine ⟨_, (@pss_one _ _ _ (@ps_ret _ _ _ _ (@PEs.out _ _ _ (pes_lst (pas_call (pes_of (pe_callTy call_list_of rfl T.b_list boot_list (pa_sub (pe_slice sl_list (pv 0) po_none (po_some pe_int)) pa_nil))) (pas_const pes_int (pas_const pes_int pas_nil))))))), ?_⟩
  obtain ⟨ms, ems, lms⟩ := cutV_ints ns none (some 63)
  refine ⟨_, rfl, _, rfl, a, _, rfl, hS, fun l1 hl1 => ?_⟩
  rw [ems]
  refine ⟨l1, _, rfl, .inl (SqL.of upd_same), fun l2 hl2 => ⟨small4 (Nat.le_of_ble_eq_true rfl), fun p hp => ?_⟩⟩
  have n1 : l2 ≠ l1 := fun z => by rw [z, upd_same] at hl2; cases hl2
  have n2 : p ≠ l2 := fun z => by rw [z, upd_same] at hp; cases hp
  have n3 : p ≠ l1 := fun z => by rw [z, upd_ne (Ne.symm n1), upd_same] at hp; cases hp
  rw [upd_ne n1] at hl2
  rw [upd_ne n2, upd_ne n3] at hp
  refine q p l2 _ (fun b o e _ => ?_) hp hl2 ⟨ms, 0, 0, upd_same, by rw [upd_ne (Ne.symm n2), upd_same], by omega, by decide, by decide⟩
  rw [upd_ne (ne_of_none e hp), upd_ne (ne_of_none e hl2), upd_ne (ne_of_none e hl1)]; exact e
theorem sc_law_draw : FnScope ["_law_tape_here", "_law_many", "_law_digit", "_law_at", "_law_cell", "_law_mixed"] ["_law_tape_here", "_law_many"] (defScope s_law_draw) := ⟨rfl, rfl, rfl, by decide +kernel, rfl, by decide +kernel, by decide +kernel⟩
theorem ok_law_draw (T : Txt mg) (D : Def K mg "_law_draw" s_law_draw ["_law_tape_here", "_law_many"]) : Cal P w K mg base "_law_draw" 1 ["_law_tape_here", "_law_many"] spDraw := by
  refine D.cal fun f fd F => F.ok sc_law_draw (fun vs H Q E h => ?_) (fun cdv A outer s H vs Q E hr h => ?_)
  · obtain ⟨p, c, n, m, rfl, _⟩ := h
    rfl
  obtain ⟨p, c, n, m, rfl, J, hn, h0, h1, q⟩ := h
  refine ⟨_, (@pss_cons _ _ _ _ _ (ps_if (pt_cmpR op_gt (pe_ix ix_list (pv 0) pe_int (fun _ _ => rfl)) pe_int (nomark _)) (@pss_cons _ _ _ _ _ (ps_set (i := 2) sc_law_draw.nd rfl (Or.inl rfl) (pe_op op_mod (pe_ix ix_list (pv 0) pe_int (fun _ _ => rfl)) (pv 1)))
      (@pss_cons _ _ _ _ _ (ps_asg (pe_op op_fdivB (pe_ix ix_list (pv 0) pe_int (fun _ _ => rfl)) (pv 1)) (pg_sub (pv 0) pe_int set_list (fun v => assign_sub_const _ _ _ _ _ _ v)))
      (@pss_one _ _ _ (@ps_ret _ _ _ _ (pv 2))))) pss_nil)
      (@pss_cons _ _ _ _ _ (ps_set (i := 3) sc_law_draw.nd rfl (Or.inl rfl) (pe_ix ix_list (pv 0) pe_int (fun _ _ => rfl)))
      (@pss_cons _ _ _ _ _ (ps_asg (pe_op op_add (pv 3) pe_int) (pg_sub (pv 0) pe_int set_list (fun v => assign_sub_const _ _ _ _ _ _ v)))
      (@pss_cons _ _ _ _ _ (ps_set (i := 4) sc_law_draw.nd rfl (Or.inl rfl) pe_int)
      (@pss_cons _ _ _ _ _ (ps_if (pt_cmpR op_gt (pe_callB call_len_seq rfl T.b_len PySem.boot_len (pa_sub (pe_ix ix_list (pv 0) pe_int (fun _ _ => rfl)) pa_nil)) pe_int (nomark _)) (@pss_one _ _ _ (ps_set (i := 4) sc_law_draw.nd rfl (Or.inl rfl) (pe_ix ix_list (pe_ix ix_list (pv 0) pe_int (fun _ _ => rfl)) (pe_op op_mod (pv 3) (pe_callB call_len_seq rfl T.b_len PySem.boot_len (pa_sub (pe_ix ix_list (pv 0) pe_int (fun _ _ => rfl)) pa_nil))) (fun _ _ => rfl)))) pss_nil)
      (@pss_cons _ _ _ _ _ (ps_if (PW.pt (pw_and (pt_cmpR op_lt (pv 3) (pe_callB call_len_seq rfl T.b_len PySem.boot_len (pa_sub (pe_ix ix_list (pv 0) pe_int (fun _ _ => rfl)) pa_nil)) (nomark _)) (pw_and1 (pt_cmpR op_ge (pv 4) (pe_op op_pow pe_int pe_int) (nomark _))))) (@pss_cons _ _ _ _ _ (ps_asg (pe_op op_fdivB (pv 4) (pv 1)) (pg_sub (pv 0) pe_int set_list (fun v => assign_sub_const _ _ _ _ _ _ v)))
      (@pss_one _ _ _ (@ps_ret _ _ _ _ (pe_op op_mod (pv 4) (pv 1))))) pss_nil)
      (@pss_cons _ _ _ _ _ (ps_set (i := 5) sc_law_draw.nd rfl (Or.inl rfl) (pe_op op_mod (pe_op op_mul (pe_op op_add (pe_op op_mod (pv 4) pe_int) pe_int) (pe_op op_add (pe_op op_add (pe_op op_mul (pe_op op_mul pe_int (pv 3)) (pv 3)) (pe_op op_mul pe_int (pv 3))) pe_int)) pe_int))
      (@pss_cons _ _ _ _ _ (ps_set (i := 5) sc_law_draw.nd rfl (Or.inl rfl) (pe_op op_mod (pe_op op_add (pe_op op_add (pe_op op_mul (pv 5) (pv 5)) (pe_op op_mul pe_int (pv 3))) (pe_op op_mod (pv 4) pe_int)) pe_int))
      (@pss_one _ _ _ (@ps_ret _ _ _ _ (pe_op op_mod (pe_op op_fdivB (pv 5) pe_int) (pv 1)))))))))))), ?_⟩
  have npc := J.ne
  obtain ⟨ns, k, g, hp, hc, hl, k0, k1⟩ := J.ex
  refine seq_by (fun σ' H' => σ' = [some (.ref p), some (.int m), none, none, none, none] ∧ H = H') (fun N hN => ?_) ?_
  · refine ⟨_, rfl, p, _, 2, _, rfl, rfl, SqL.of hp, rfl, _, _, rfl, rfl, _, rfl, ite_b (fun cc => ?_) (fun cc => hN _ _ ⟨rfl, rfl⟩)⟩
    refine ⟨_, rfl, p, _, 2, _, rfl, rfl, SqL.of hp, rfl, _, rfl, _, _, rfl, rfl, h0, ?_⟩
    refine ⟨_, rfl, p, _, 2, _, rfl, rfl, SqL.of hp, rfl, _, rfl, _, _, rfl, rfl, cdivB_of h0 h1, _, rfl, p, _, 2, 2, rfl, rfl, hp, rfl, ?_⟩
    refine ⟨_, rfl, q _ _ (Int.emod_nonneg _ (by omega)) (Int.emod_lt_of_pos _ h0) ⟨ns, k, _, upd_same, by rw [upd_ne (Ne.symm npc)]; exact hc, hl, k0, by omega⟩ (Kp.at (by simp) _)⟩
  rintro _ _ ⟨rfl, rfl⟩
  refine seq_by (fun σ' H' => σ' = [some (.ref p), some (.int m), none, some (.int k), none, none] ∧ H = H') (fun N hN => ⟨_, rfl, p, _, 1, _, rfl, rfl, SqL.of hp, rfl, hN _ _ ⟨rfl, rfl⟩⟩) ?_
  rintro _ _ ⟨rfl, rfl⟩
  refine seq_by (fun σ' H' => σ' = [some (.ref p), some (.int m), none, some (.int k), none, none] ∧ H' p = some (.lst [.ref c, .int (k + 1), .int g]) ∧ H' c = some (.lst (ns.map V.int)) ∧ Kp [p, c] H H') (fun N hN => ?_) ?_
  · refine ⟨_, rfl, _, _, rfl, rfl, _, rfl, p, _, 1, 1, rfl, rfl, hp, rfl, hN _ _ ⟨rfl, upd_same, by rw [upd_ne (Ne.symm npc)]; exact hc, Kp.at (by simp) _⟩⟩
  rintro _ H1 ⟨rfl, hp1, hc1, kp1⟩
  have nl : ((ns.map V.int).length : Int) = ns.length := by rw [List.length_map]
  refine seq_by (fun σ' H' => σ' = [some (.ref p), some (.int m), none, some (.int k), some (.int 0), none] ∧ H1 = H') (fun N hN => hN _ _ ⟨rfl, rfl⟩) ?_
  rintro _ _ ⟨rfl, rfl⟩
  refine seq_by (fun σ' H' => ∃ x : Int, σ' = [some (.ref p), some (.int m), none, some (.int k), some (.int x), none] ∧ H1 = H') (fun N hN => ?_) ?_
  · refine ⟨_, rfl, p, _, 0, _, rfl, rfl, SqL.of hp1, rfl, c, _, rfl, .inl (SqL.of hc1), _, _, rfl, rfl, _, rfl, ite_b (fun cc => ?_) (fun cc => hN _ _ ⟨0, rfl, rfl⟩)⟩
    have cc : (0 : Int) < ns.length := by simpa using cc
    refine ⟨_, rfl, p, _, 0, _, rfl, rfl, SqL.of hp1, rfl, _, rfl, _, rfl, p, _, 0, _, rfl, rfl, SqL.of hp1, rfl, c, _, rfl, .inl (SqL.of hc1), _, _, rfl, rfl, by rw [nl]; exact cc, ?_⟩
    obtain ⟨x, hx, _⟩ := at_P (P := fun _ => True) ns (i := k % ((ns.map V.int).length : Int)) (by simp) (Int.emod_nonneg _ (by rw [nl]; omega)) (by rw [nl]; exact Int.emod_lt_of_pos _ cc)
    exact ⟨c, _, _, _, rfl, rfl, SqL.of hc1, hx, hN _ _ ⟨x, rfl, rfl⟩⟩
  rintro _ _ ⟨x, rfl, rfl⟩
  refine seq_by (fun σ' H' => σ' = [some (.ref p), some (.int m), none, some (.int k), some (.int x), none] ∧ H1 = H') (fun N hN => ?_) ?_
  · refine ⟨_, rfl, _, rfl, p, _, 0, _, rfl, rfl, SqL.of hp1, rfl, c, _, rfl, .inl (SqL.of hc1), _, _, rfl, rfl, _, rfl, ?_⟩
    refine ite_b (fun cc => ?_) (fun cc => iteF (hN _ _ ⟨rfl, rfl⟩))
    refine ⟨_, rfl, _, _, rfl, rfl, ⟨by decide, by decide, by decide⟩, _, _, rfl, rfl, _, rfl, ite_b (fun cc => ?_) (fun cc => hN _ _ ⟨rfl, rfl⟩)⟩
    refine ⟨_, rfl, _, rfl, _, _, rfl, rfl, cdivB_of h0 h1, _, rfl, p, _, 2, 2, rfl, rfl, hp1, rfl, ?_⟩
    refine ⟨_, rfl, _, rfl, _, _, rfl, rfl, h0, ?_⟩
    exact q _ _ (Int.emod_nonneg _ (by omega)) (Int.emod_lt_of_pos _ h0) ⟨ns, k + 1, _, upd_same, by rw [upd_ne (Ne.symm npc)]; exact hc1, hl, by omega, by omega⟩ (kp1.trans (Kp.at (by simp) _))
  rintro _ _ ⟨rfl, rfl⟩
  have kb : k < 2 ^ 41 := by omega
  refine seq_by (fun σ' H' => ∃ y : Int, σ' = [some (.ref p), some (.int m), none, some (.int k), some (.int x), some (.int y)] ∧ H1 = H' ∧ 0 ≤ y ∧ y < 2147483647) (fun N hN => ?_) ?_
  · refine ⟨_, rfl, _, _, rfl, rfl, (show (0 : Int) < 1000003 by decide), _, _, rfl, rfl, _, rfl, _, _, rfl, rfl, .inl ⟨by decide, by decide⟩, _, rfl, _, _, rfl, rfl, .inr ⟨by omega, by omega⟩, _, rfl, _, _, rfl, rfl, .inl ⟨by decide, by decide⟩, _, _, rfl, rfl, _, _, rfl, rfl, _, _, rfl, rfl, .inl ⟨?_, ?_⟩, _, _, rfl, rfl, (show (0 : Int) < 2147483647 by decide), hN _ _ ⟨_, rfl, rfl, Int.emod_nonneg _ (by decide), Int.emod_lt_of_pos _ (by decide)⟩⟩
    all_goals (have := Int.emod_nonneg x (show (1000003 : Int) ≠ 0 by decide); have := Int.emod_lt_of_pos x (show (0 : Int) < 1000003 by decide); omega)
  rintro _ _ ⟨y, rfl, rfl, y0, y1⟩
  refine seq_by (fun σ' H' => ∃ y : Int, σ' = [some (.ref p), some (.int m), none, some (.int k), some (.int x), some (.int y)] ∧ H1 = H' ∧ 0 ≤ y) (fun N hN => ?_) ?_
  · refine ⟨_, rfl, _, rfl, _, _, rfl, rfl, .inl ⟨by omega, by omega⟩, _, rfl, _, _, rfl, rfl, .inl ⟨by decide, by decide⟩, _, _, rfl, rfl, _, rfl, _, _, rfl, rfl, (show (0 : Int) < 65537 by decide), _, _, rfl, rfl, _, _, rfl, rfl, (show (0 : Int) < 2147483629 by decide), hN _ _ ⟨_, rfl, rfl, Int.emod_nonneg _ (by decide)⟩⟩
  rintro _ _ ⟨y, rfl, rfl, y0⟩
  refine ⟨_, rfl, _, _, rfl, rfl, cdivB_of (by decide) (by decide +kernel), _, rfl, _, _, rfl, rfl, h0, ?_⟩
  exact q _ _ (Int.emod_nonneg _ (by omega)) (Int.emod_lt_of_pos _ h0) ⟨ns, k + 1, g, hp1, hc1, hl, by omega, by omega⟩ kp1
theorem sc_law_gain : FnScope ["_law_tape_here", "_law_way"] ["_law_tape_here"] (defScope s_law_gain) := ⟨rfl, rfl, rfl, by decide +kernel, rfl, by decide +kernel, by decide +kernel⟩
theorem ok_law_gain (T : Txt mg) (D : Def K mg "_law_gain" s_law_gain ["_law_tape_here"]) (c__law_draw : Cal P w K mg base "_law_draw" 1 ["_law_tape_here", "_law_many"] spDraw) : Cal P w K mg base "_law_gain" 2 ["_law_tape_here"] spGainT := by
  refine D.cal fun f fd F => F.ok sc_law_gain (fun vs H Q E h => ?_) (fun cdv A outer s H vs Q E hr h => ?_)
  · obtain ⟨p, c, n, rfl, _⟩ := h
    rfl
  obtain ⟨p, c, n, rfl, J, hn, q⟩ := h
  refine ⟨_, (@pss_cons _ _ _ _ _ (ps_set (i := 1) sc_law_gain.nd rfl (Or.inl rfl) (pe_c c__law_draw (hr.mono (by decide)) rfl (pa_name (pv 0) (pa_const pe_int pa_nil))))
      (@pss_cons _ _ _ _ _ (ps_if (pt_cmpR op_eq (pv 1) pe_int (nomark _)) (@pss_one _ _ _ (@ps_ret _ _ _ _ (pe_op op_sub (pe_c c__law_draw (hr.mono (by decide)) rfl (pa_name (pv 0) (pa_const pe_int pa_nil))) pe_int))) pss_nil)
      (@pss_one _ _ _ (@ps_ret _ _ _ _ (pe_ix ix_list (@PEs.out _ _ _ (pes_lst (pas_const pes_int (pas_const pes_int (pas_unary (pes_of (pe_un un_neg pe_int)) (pas_unary (pes_of (pe_un un_neg pe_int)) (pas_unary (pes_of (pe_un un_neg pe_int)) (pas_const pes_int (pas_const pes_int (pas_const pes_int (pas_unary (pes_of (pe_un un_neg pe_int)) pas_nil))))))))))) (pv 1) (fun _ _ => rfl)))))), ?_⟩
  refine seq_by (fun σ' H' => ∃ r : Int, σ' = [some (.ref p), some (.int r)] ∧ (0 ≤ r ∧ r < 10) ∧ Tape H' p c (n + 1) ∧ Kp [p, c] H H') (fun N hN => ?_) ?_
  · exact ⟨_, rfl, p, c, n, 10, rfl, J, by omega, by decide, by decide +kernel, fun r H1 r0 r1 J1 k1 => hN _ _ ⟨r, rfl, ⟨r0, r1⟩, J1, k1⟩⟩
  rintro _ H1 ⟨r, rfl, ⟨r0, r1⟩, J1, k1⟩
  refine seq_by (fun σ' H' => σ' = [some (.ref p), some (.int r)] ∧ H1 = H' ∧ r < 9) (fun N hN => ?_) ?_
  · refine ⟨_, rfl, rfl, _, rfl, ite_b (fun cc => ?_) (fun cc => hN _ _ ⟨rfl, rfl, by (have h3 : r ≠ 9 := (by simpa using cc)); omega⟩)⟩
    exact ⟨_, rfl, p, c, n + 1, 19, rfl, J1, by omega, by decide, by decide +kernel, fun r2 H2 b0 b1 J2 k2 => ⟨_, _, rfl, rfl, q _ _ (by omega) (by omega) J2 (k1.trans k2)⟩⟩
  rintro _ _ ⟨rfl, rfl, r9⟩
  refine ⟨_, rfl, _, rfl, _, rfl, _, rfl, small4 (Nat.le_of_ble_eq_true rfl), fun l hl => ?_⟩
  obtain ⟨m, hm, hb⟩ := at_P (P := fun n => -9 ≤ n ∧ n ≤ 9) [0, 0, -1, -1, -1, 1, 1, 2, -2] (by simp) r0 (show r < 9 from r9)
  exact ⟨_, rfl, l, _, _, _, rfl, rfl, SqL.of upd_same, hm, q _ _ hb.1 hb.2 ((J1.new hl).mono (by omega)) (k1.trans (Kp.new hl _))⟩
theorem sc_law_gains : FnScope ["_law_tape_here", "_law_purses"] ["_law_tape_here", "_law_purses"] (defScope s_law_gains) := ⟨rfl, rfl, rfl, by decide +kernel, rfl, by decide +kernel, by decide +kernel⟩
theorem ok_law_gains (T : Txt mg) (D : Def K mg "_law_gains" s_law_gains ["_law_tape_here", "_law_purses"]) (c__law_gain : Cal P w K mg base "_law_gain" 2 ["_law_tape_here"] spGainT) : Cal P w K mg base "_law_gains" 3 ["_law_tape_here", "_law_purses"] spGainsT := by
  refine D.cal fun f fd F => F.ok sc_law_gains (fun vs H Q E h => ?_) (fun cdv A outer s H vs Q E hr h => ?_)
  · obtain ⟨p, c, n, U, rfl, _⟩ := h
    rfl
  obtain ⟨p, c, n, U, rfl, J, hn, U0, U1, q⟩ := h
  refine ⟨_, (@pss_one _ _ _ (@ps_ret _ _ _ _ (pe_callTy call_tuple_of rfl T.b_tuple boot_tuple (pa_comp (pe_comp (sc := (defScope s_law_gains)) (N := ["_law_tape_here", "_law_purses"]) (N' := ["_law_p", "_law_tape_here"]) (k := 1) (idx := [0]) rfl (by exact ⟨rfl, by decide +kernel, by decide +kernel, by decide +kernel, by decide +kernel, by decide +kernel, rfl, rfl⟩) rfl rfl (pi_range1 rfl T.b_range (pa_name (pv 1) pa_nil)) (fun _ _ _ _ => (pg_name (i := 0) (show (["_law_p", "_law_tape_here"] : List Str).Nodup by decide +kernel) rfl (Or.inl rfl) (Or.inr rfl))) (fun _ _ _ _ => pts_nil) (fun _ _ _ _ => (pe_c c__law_gain (hr.mono (by decide)) rfl (pa_name (pv 1) pa_nil)))) pa_nil)))), ?_⟩
  have hs : sizeLine = 16777216 := sizeLine_eq
  refine ⟨_, rfl, U, rfl, by omega, by omega, fun l2 h2 => ?_⟩
  have nl2 := J.fresh h2
  refine comp1_rngP (fun j zs H' => Tape H' p c (n + 2 * j) ∧ Kp [p, c] H H' ∧ ∃ ns : List Int, zs = ns.map V.int ∧ ns.length = j ∧ ∀ x ∈ ns, -9 ≤ x ∧ x ≤ 9) ⟨J.new h2, Kp.new h2 _, [], rfl, rfl, by simp⟩ upd_same ?_ ?_
  · rintro j H6 zs N' hj ⟨J6, k6, ns, rfl, hjl, hb⟩ hl6 hN'
    refine ⟨_, rfl, p, c, _, rfl, J6, by omega, fun r H7 r0 r1 J7 k7 => hN' _ _ (k7 _ _ hl6 nl2) (by rw [List.length_map]; omega) ⟨(J7.upd nl2).mono (by omega), fun b' o e n' => ?_, ns ++ [r], by simp, by simp [hjl], ?_⟩⟩
    · rw [upd_ne (ne_of_none e h2)]; exact k7 _ _ (k6 _ _ e n') n'
    · intro x hx
      rcases List.mem_append.mp hx with hx | hx
      · exact hb x hx
      · rw [List.mem_singleton.mp hx]; exact ⟨r0, r1⟩
  · rintro H6 zs ⟨J6, k6, ns, rfl, hjl, hb⟩ hl6
    refine ⟨l2, _, rfl, .inl ⟨SqL.of hl6, fun t ht => ?_⟩⟩
    have ht' : H t = none := by
      cases e : H t with
      | none => rfl
      | some o =>
        by_cases hp : t ∈ [p, c]
        · exact absurd hp (J6.fresh ht)
        · rw [k6 _ _ e hp] at ht; cases ht
    exact q t ns _ (by omega) hb ((J6.new ht).mono (by omega)) (k6.trans (Kp.new ht _)) ht' (J6.fresh ht) upd_same

theorem sc_law_nested : FnScope ["_law_tape_here", "_law_rooms", "_law_purses", "_law_ways", "_law_pair", "_law_extra", "_law_room", "_law_one", "_law_step"] ["_law_tape_here", "_law_rooms", "_law_purses"] (defScope s_law_nested) := ⟨rfl, rfl, rfl, by decide +kernel, rfl, by decide +kernel, by decide +kernel⟩
theorem ok_law_nested (T : Txt mg) (D : Def K mg "_law_nested" s_law_nested ["_law_tape_here", "_law_rooms", "_law_purses"]) (c__law_gains : Cal P w K mg base "_law_gains" 3 ["_law_tape_here", "_law_purses"] spGainsT) (c__law_draw : Cal P w K mg base "_law_draw" 1 ["_law_tape_here", "_law_many"] spDraw) : Cal P w K mg base "_law_nested" 4 ["_law_tape_here", "_law_rooms", "_law_purses"] spNested := by
  refine D.cal fun f fd F => F.ok sc_law_nested (fun vs H Q E h => ?_) (fun cdv A outer s H vs Q E hr h => ?_)
  · obtain ⟨p, c, n, R, U, rfl, _⟩ := h
    rfl
  obtain ⟨p, c, n, R, U, rfl, J, hn, ⟨R0, R1⟩, ⟨U0, U1⟩, q⟩ := h
  refine ⟨_, (@pss_cons _ _ _ _ _ (@ps_setD _ _ 3 _ _ _ _ sc_law_nested.nd rfl (Or.inl rfl) (pes_lst pas_nil) rfl (Or.inl rfl))
      (@pss_cons _ _ _ _ _ (@ps_setD _ _ 4 _ _ _ _ sc_law_nested.nd rfl (Or.inl rfl) (pes_lst (pas_call (pes_of (pe_c c__law_gains (hr.mono (by decide)) rfl (pa_name (pv 0) (pa_name (pv 2) pa_nil)))) pas_nil)) rfl (Or.inl rfl))
      (@pss_cons _ _ _ _ _ (ps_expr (pe_bm PySem.F.plainAttrs_list PySem.F.slot_list_append PySem.F.type_list_append mt_append (pv 4) (pa_call (pe_callTy call_tuple_of rfl T.b_tuple boot_tuple (pa_comp (pe_comp (sc := (defScope s_law_nested)) (N := ["_law_tape_here", "_law_rooms", "_law_purses", "_law_ways", "_law_pair", "_law_extra", "_law_room", "_law_one", "_law_step"]) (N' := ["_law_number"]) (k := 1) (idx := []) rfl (by exact ⟨rfl, by decide +kernel, by decide +kernel, by decide +kernel, by decide +kernel, by decide +kernel, rfl, rfl⟩) rfl rfl (pi_tup (pe_ix ix_list (pv 4) pe_int (fun _ _ => rfl))) (fun _ _ _ _ => (pg_name (i := 0) (show (["_law_number"] : List Str).Nodup by decide +kernel) rfl (Or.inl rfl) (Or.inr rfl))) (fun _ _ _ _ => pts_nil) (fun _ _ _ _ => (pe_un un_neg (pv 0)))) pa_nil)) pa_nil)))
      (@pss_cons _ _ _ _ _ (ps_set (i := 5) sc_law_nested.nd rfl (Or.inl rfl) (pe_c c__law_draw (hr.mono (by decide)) rfl (pa_name (pv 0) (pa_name (pv 2) pa_nil))))
      (@pss_cons _ _ _ _ _ (ps_for PassesOwn.never rfl (pi_range1 rfl T.b_range (pa_name (pv 1) pa_nil)) (pg_name (i := 6) sc_law_nested.nd rfl (Or.inl rfl) (Or.inl rfl))
      (@pss_cons _ _ _ _ _ (ps_set (i := 7) sc_law_nested.nd rfl (Or.inl rfl) (pe_callTy call_list_of rfl T.b_list boot_list (pa_sub (pe_ix ix_list (pv 4) (pe_op op_mod (pv 6) pe_int) (fun _ _ => rfl)) pa_nil)))
      (@pss_cons _ _ _ _ _ (ps_asg (pe_op op_add (pe_ix ix_list (pv 7) (pv 5) (fun _ _ => rfl)) (pe_ix ix_list (@PEs.out _ _ _ (pes_lst (pas_const pes_int (pas_const pes_int (pas_const pes_int (pas_const pes_int (pas_unary (pes_of (pe_un un_neg pe_int)) pas_nil))))))) (pe_c c__law_draw (hr.mono (by decide)) rfl (pa_name (pv 0) (pa_const pe_int pa_nil))) (fun _ _ => rfl))) (pg_sub (pv 7) (pv 5) set_list (fun v => assign_sub_name _ _ _ _ _ v)))
      (@pss_cons _ _ _ _ _ (ps_expr (pe_bm PySem.F.plainAttrs_list PySem.F.slot_list_append PySem.F.type_list_append mt_append (pv 3) (pa_tuple (@PEs.out _ _ _ (pes_tup (pas_name (pes_of (pv 6)) (pas_name (pes_of (pv 6)) (pas_call (pes_of (pe_callTy call_tuple_of rfl T.b_tuple boot_tuple (pa_name (pv 7) pa_nil))) pas_nil))))) pa_nil)))
      (@pss_cons _ _ _ _ _ (ps_set (i := 8) sc_law_nested.nd rfl (Or.inl rfl) (pe_op op_rep (@PEs.out _ _ _ (pes_lst (pas_const pes_int pas_nil))) (pv 2)))
      (@pss_cons _ _ _ _ _ (ps_asg (pe_ix ix_list (@PEs.out _ _ _ (pes_lst (pas_unary (pes_of (pe_un un_neg pe_int)) (pas_unary (pes_of (pe_un un_neg pe_int)) (pas_unary (pes_of (pe_un un_neg pe_int)) (pas_const pes_int (pas_const pes_int pas_nil))))))) (pe_c c__law_draw (hr.mono (by decide)) rfl (pa_name (pv 0) (pa_const pe_int pa_nil))) (fun _ _ => rfl)) (pg_sub (pv 8) (pe_c c__law_draw (hr.mono (by decide)) rfl (pa_name (pv 0) (pa_name (pv 2) pa_nil))) set_list (fun v => assign_sub_call _ _ _ _ _ _ _ v)))
      (@pss_one _ _ _ (ps_expr (pe_bm PySem.F.plainAttrs_list PySem.F.slot_list_append PySem.F.type_list_append mt_append (pv 3) (pa_tuple (@PEs.out _ _ _ (pes_tup (pas_name (pes_of (pv 6)) (pas_binop (pes_of (pe_op op_mod (pe_op op_add (pv 6) pe_int) (pv 1))) (pas_call (pes_of (pe_callTy call_tuple_of rfl T.b_tuple boot_tuple (pa_name (pv 8) pa_nil))) pas_nil))))) pa_nil))))))))))
      (@pss_one _ _ _ (@ps_ret _ _ _ _ (pv 3)))))))), ?_⟩
  have hs : sizeLine = 16777216 := sizeLine_eq
  refine seq_by (fun σ' H' => ∃ l : Addr, σ' = [some (.ref p), some (.int R), some (.int U), some (.ref l), none, none, none, none, none] ∧ NW p c l R U H H' n [] []) (fun N hN => ⟨small4 (Nat.le_of_ble_eq_true rfl), fun l hl => hN _ _ ⟨l, rfl, J.new hl, Kp.new hl _, upd_same, .nil, by simp, hl, J.fresh hl⟩⟩) ?_
  rintro _ H1 ⟨l, rfl, N1⟩
  refine seq_by (fun σ' H' => ∃ (pr t : Addr) (gs : List Int), σ' = [some (.ref p), some (.int R), some (.int U), some (.ref l), some (.ref pr), none, none, none, none] ∧ NW p c l R U H H' (n + 12) [] [] ∧ H' pr = some (.lst [.ref t]) ∧ H' t = some (.tup (gs.map V.int)) ∧ H pr = none ∧ pr ∉ [p, c] ∧ t ∉ [p, c] ∧ pr ≠ l ∧ t ≠ l ∧ (gs.length : Int) = U ∧ ∀ x ∈ gs, -9 ≤ x ∧ x ≤ 9) (fun N hN => ?_) ?_
  · refine ⟨_, rfl, _, rfl, p, c, n, U, rfl, N1.T, by omega, by omega, U1, fun t gs H2 gl gb J2 k2 hf nt ht => ⟨small4 (Nat.le_of_ble_eq_true rfl), fun pr hpr => ?_⟩⟩
    have N2 := N1.go k2 J2
    exact hN _ _ ⟨pr, t, gs, rfl, N2.new hpr, upd_same, by rw [upd_ne (ne_of_none ht hpr)]; exact ht, kp_freeT N2.k J2 hpr, J2.fresh hpr, nt, (fun z => by rw [z, N2.hl] at hpr; cases hpr), (fun z => by rw [z, N1.hl] at hf; cases hf), gl, gb⟩
  rintro _ H2 ⟨pr, t, gs, rfl, N2, hpr, ht, fpr, npr, nt, epr, et, gl, gb⟩
  refine seq_by (fun σ' H' => ∃ (t2 : Addr) (fs : List Int), σ' = [some (.ref p), some (.int R), some (.int U), some (.ref l), some (.ref pr), none, none, none, none] ∧ NW p c l R U H H' (n + 12) [] [] ∧ H' pr = some (.lst [.ref t, .ref t2]) ∧ H' t = some (.tup (gs.map V.int)) ∧ H' t2 = some (.tup (fs.map V.int)) ∧ t2 ∉ [p, c] ∧ t2 ≠ l ∧ (fs.length : Int) = U ∧ ∀ x ∈ fs, -9 ≤ x ∧ x ≤ 9) (fun N hN => ?_) ?_
  · refine ⟨_, rfl, .inl ⟨rfl, _, SqL.of hpr⟩, _, rfl, pr, _, 0, _, rfl, rfl, SqL.of hpr, rfl, ?_⟩
    refine ⟨t, rfl, ⟨_, SqT.of ht⟩, fun l2 h2 => comp1_tup (fun i => V.int (-(gs.getD i 0))) (SqT.of ht) (by rw [List.length_map]; omega) h2 (fun i x H3 M hx k3 hM => ?_) (fun H3 k3 h3 => ?_)⟩
    · rw [List.getElem?_map] at hx
      cases e : gs[i]? with
      | none => rw [e] at hx; cases hx
      | some z =>
        rw [e] at hx
        obtain rfl : V.int z = x := Option.some.inj hx
        have hM := hM H3 .refl
        rw [List.getD_eq_getElem?_getD, e] at hM
        exact ⟨_, rfl, z, rfl, hM⟩
    rw [List.length_map, show (List.range gs.length).map (fun i => V.int (-(gs.getD i 0))) = ((List.range gs.length).map fun i => -(gs.getD i 0)).map V.int by rw [List.map_map]; rfl] at h3
    have N3 := N2.go k3.of (N2.T.keep k3)
    have hpr3 := k3 _ _ hpr (by simp)
    have ht3 := k3 _ _ ht (by simp)
    refine ⟨l2, _, rfl, .inl ⟨SqL.of h3, fun t2 h4 => ⟨pr, [.ref t], .ref t2, rfl, rfl, ?_, (show 1 < sizeLine by omega), ?_⟩⟩⟩
    · rw [upd_ne (ne_of_none hpr3 h4)]; exact hpr3
    have N4 := N3.new h4 (o := .tup (((List.range gs.length).map fun i => -(gs.getD i 0)).map V.int))
    have ep : t2 ≠ pr := fun z => by rw [z, hpr3] at h4; cases h4
    have etp : t ≠ pr := fun z => by rw [z, hpr] at ht; cases ht
    refine hN _ _ ⟨t2, (List.range gs.length).map fun i => -(gs.getD i 0), rfl, ⟨N4.T.upd npr, ?_, ?_, ?_, N4.hw, N4.f0, N4.nl⟩, upd_same, ?_, ?_, N3.T.fresh h4, (fun z => by rw [z, N3.hl] at h4; cases h4), ?_, ?_⟩
    · exact Kp.late N4.k fpr _
    · rw [upd_ne (Ne.symm epr)]; exact N4.hl
    · exact .nil
    · rw [upd_ne etp, upd_ne (ne_of_none ht3 h4)]; exact ht3
    · rw [upd_ne ep, upd_same]
    · simp; omega
    · intro x hx
      obtain ⟨i, hi, rfl⟩ := List.mem_map.mp hx
      have hi := List.mem_range.mp hi
      have := gb _ (List.getElem_mem hi)
      rw [List.getD_eq_getElem?_getD, List.getElem?_eq_getElem hi]
      show -9 ≤ -gs[i] ∧ -gs[i] ≤ 9
      omega
  rintro _ H3 ⟨t2, fs, rfl, N3, hpr3, ht3, ht23, nt2, et2, fl, fb⟩
  refine seq_by (fun σ' H' => ∃ e : Int, σ' = [some (.ref p), some (.int R), some (.int U), some (.ref l), some (.ref pr), some (.int e), none, none, none] ∧ NW p c l R U H H' (n + 13) [] [] ∧ H' pr = some (.lst [.ref t, .ref t2]) ∧ H' t = some (.tup (gs.map V.int)) ∧ H' t2 = some (.tup (fs.map V.int)) ∧ 0 ≤ e ∧ e < U) (fun N hN => ⟨_, rfl, _, rfl, p, c, _, U, rfl, N3.T, by omega, by omega, small9000 (by omega), fun e H4 e0 e1 J4 k4 => hN _ _ ⟨e, rfl, N3.go k4 J4, k4 _ _ hpr3 npr, k4 _ _ ht3 nt, k4 _ _ ht23 nt2, e0, e1⟩⟩) ?_
  rintro _ H4 ⟨e, rfl, N4, hpr4, ht4, ht24, e0, e1⟩
  refine seq_by (fun σ' H' => ∃ (ys : List V) (ws : List Way) (o6 o7 o8 : Option V), σ' = [some (.ref p), some (.int R), some (.int U), some (.ref l), some (.ref pr), some (.int e), o6, o7, o8] ∧ NW p c l R U H H' (n + 60) ys ws ∧ ws.length ≤ 24) (fun N hN => ?_) ?_
  · refine ⟨_, rfl, R, rfl, by omega, by omega, ?_⟩
    refine for_range (n := R.toNat) (fun i σ H' => ∃ (ys : List V) (ws : List Way) (o6 o7 o8 : Option V), σ = [some (.ref p), some (.int R), some (.int U), some (.ref l), some (.ref pr), some (.int e), o6, o7, o8] ∧ NW p c l R U H H' (n + 13 + 3 * i) ys ws ∧ ws.length = 2 * i ∧ H' pr = some (.lst [.ref t, .ref t2]) ∧ H' t = some (.tup (gs.map V.int)) ∧ H' t2 = some (.tup (fs.map V.int))) ⟨[], [], _, _, _, rfl, N4, rfl, hpr4, ht4, ht24⟩ ?_ ?_
    · rintro i σ H5 hi ⟨ys, ws, o6, o7, o8, rfl, N5, wl, hpr5, ht5, ht25⟩
      rw [show (0 : Int) + (i : Int) = i from Int.zero_add _]
      refine seq_by (fun σ' H' => ∃ (o : Addr) (xs : List Int), σ' = [some (.ref p), some (.int R), some (.int U), some (.ref l), some (.ref pr), some (.int e), some (.int i), some (.ref o), o8] ∧ Kp [p, c] H5 H' ∧ Tape H' p c (n + 13 + 3 * i) ∧ H5 o = none ∧ H' o = some (.lst (xs.map V.int)) ∧ (xs.length : Int) = U ∧ ∀ x ∈ xs, -9 ≤ x ∧ x ≤ 9) (fun N hN => ?_) ?_
      · refine ⟨_, rfl, _, rfl, _, _, rfl, rfl, (show (0 : Int) < 2 by decide), ?_⟩
        rcases pair_at (x := V.ref t) (y := V.ref t2) (i : Int) with hm | hm
        · exact ⟨pr, _, _, _, rfl, rfl, SqL.of hpr5, hm, t, _, rfl, .inr (SqT.of ht5), fun o ho => hN _ _ ⟨o, gs, rfl, Kp.new ho _, N5.T.new ho, ho, upd_same, gl, gb⟩⟩
        · exact ⟨pr, _, _, _, rfl, rfl, SqL.of hpr5, hm, t2, _, rfl, .inr (SqT.of ht25), fun o ho => hN _ _ ⟨o, fs, rfl, Kp.new ho _, N5.T.new ho, ho, upd_same, fl, fb⟩⟩
      rintro _ H6 ⟨o, xs, rfl, k6, J6, fo, ho6, xl, xb⟩
      have no : o ∉ [p, c] := N5.T.fresh fo
      refine seq_by (fun σ' H' => ∃ (xs : List Int), σ' = [some (.ref p), some (.int R), some (.int U), some (.ref l), some (.ref pr), some (.int e), some (.int i), some (.ref o), o8] ∧ Kp [p, c] H5 H' ∧ Tape H' p c (n + 13 + 3 * i + 1) ∧ H' o = some (.lst (xs.map V.int)) ∧ (xs.length : Int) = U ∧ ∀ x ∈ xs, -99 ≤ x ∧ x ≤ 99) (fun N hN => ?_) ?_
      · obtain ⟨x, hx, bx⟩ := at_P (P := fun n => -9 ≤ n ∧ n ≤ 9) xs xb e0 (by omega : e < xs.length)
        refine ⟨_, rfl, _, rfl, o, _, e, _, rfl, rfl, SqL.of ho6, hx, _, rfl, small4 (Nat.le_of_ble_eq_true rfl), fun l5 h5 => ?_⟩
        refine ⟨_, rfl, p, c, _, 5, rfl, J6.new h5, by omega, by decide, by decide +kernel, fun r H7 r0 r1 J7 k7 => ?_⟩
        obtain ⟨y, hy, yb⟩ := at_P (P := fun n => -1 ≤ n ∧ n ≤ 1) [0, 0, 0, 1, -1] (by simp) r0 r1
        have ho7 : H7 o = some (.lst (xs.map V.int)) := k7 _ _ (by rw [upd_ne (ne_of_none ho6 h5)]; exact ho6) no
        refine ⟨l5, _, _, _, rfl, rfl, SqL.of (k7 _ _ upd_same (J6.fresh h5)), hy, _, _, rfl, rfl, _, rfl, _, rfl, o, _, e, e.toNat, rfl, rfl, ho7, ixN_in e0 (by rw [List.length_map]; omega), ?_⟩
        rw [set_int]
        exact hN _ _ ⟨_, rfl, Kp.late (k6.trans ((Kp.new h5 _).trans k7)) fo _, J7.upd no, upd_same, by rw [List.length_set]; exact xl, set_P (fun x hx => by have := xb x hx; omega) (by omega)⟩
      rintro _ H7 ⟨xs, rfl, k7, J7, ho7, xl, xb⟩
      refine seq_by (fun σ' H' => ∃ (ys : List V) (ws : List Way), σ' = [some (.ref p), some (.int R), some (.int U), some (.ref l), some (.ref pr), some (.int e), some (.int i), some (.ref o), o8] ∧ NW p c l R U H H' (n + 13 + 3 * i + 1) ys ws ∧ ws.length = 2 * i + 1 ∧ H' pr = some (.lst [.ref t, .ref t2]) ∧ H' t = some (.tup (gs.map V.int)) ∧ H' t2 = some (.tup (fs.map V.int))) (fun N hN => ?_) ?_
      · have N7 := N5.go k7 J7
        refine ⟨_, rfl, .inl ⟨rfl, _, SqL.of N7.hl⟩, _, rfl, _, rfl, _, rfl, o, _, rfl, .inl ⟨SqL.of ho7, fun t1 h1 => ⟨small4 (Nat.le_of_ble_eq_true rfl), fun t3 h3 => ?_⟩⟩⟩
        obtain ⟨hl8, N8⟩ := N7.app (a := i) (b := i) h1 h3 (by omega) ⟨by show (0 : Int) ≤ i; omega, by show (i : Int) < R; omega, by show (0 : Int) ≤ i; omega, by show (i : Int) < R; omega, xl, xb⟩
        exact ⟨l, ys, .ref t3, rfl, rfl, hl8, by rw [N7.len]; omega, hN _ _ ⟨_, _, rfl, N8, by simp [wl], upd3 (k7 _ _ hpr5 npr) h1 h3 epr, upd3 (k7 _ _ ht5 nt) h1 h3 et, upd3 (k7 _ _ ht25 nt2) h1 h3 et2⟩⟩
      rintro _ H8 ⟨ys8, ws8, rfl, N8, wl8, hpr8, ht8, ht28⟩
      refine seq_by (fun σ' H' => ∃ (so : Addr) (xs : List Int), σ' = [some (.ref p), some (.int R), some (.int U), some (.ref l), some (.ref pr), some (.int e), some (.int i), some (.ref o), some (.ref so)] ∧ Kp [p, c] H8 H' ∧ Tape H' p c (n + 13 + 3 * i + 1) ∧ H8 so = none ∧ H' so = some (.lst (xs.map V.int)) ∧ (xs.length : Int) = U ∧ ∀ x ∈ xs, -9 ≤ x ∧ x ≤ 9) (fun N hN => ?_) ?_
      · refine ⟨small4 (Nat.le_of_ble_eq_true rfl), fun z1 h1 => ⟨_, rfl, z1, U, _, rfl, rfl, upd_same, by omega, by omega, by show 1 * U.toNat ≤ _; omega, fun z2 h2 => ?_⟩⟩
        rw [rep0]
        have h2' : H8 z2 = none := kp_freeT (p := p) (c := c) (Kp.new h1 _) (N8.T.new h1) h2
        refine hN _ _ ⟨z2, _, rfl, (Kp.new h1 _).trans (Kp.new h2 _), (N8.T.new h1).new h2, h2', upd_same, by simp; omega, fun x hx => ?_⟩
        rw [List.eq_of_mem_replicate hx]; decide
      rintro _ H9 ⟨so, xs, rfl, k9, J9, fo9, ho9, xl9, xb9⟩
      have no9 : so ∉ [p, c] := N8.T.fresh fo9
      refine seq_by (fun σ' H' => ∃ (xs : List Int), σ' = [some (.ref p), some (.int R), some (.int U), some (.ref l), some (.ref pr), some (.int e), some (.int i), some (.ref o), some (.ref so)] ∧ Kp [p, c] H8 H' ∧ Tape H' p c (n + 13 + 3 * i + 3) ∧ H' so = some (.lst (xs.map V.int)) ∧ (xs.length : Int) = U ∧ ∀ x ∈ xs, -99 ≤ x ∧ x ≤ 99) (fun N hN => ?_) ?_
      · refine ⟨_, rfl, _, rfl, _, rfl, small4 (Nat.le_of_ble_eq_true rfl), fun l5 h5 => ?_⟩
        refine ⟨_, rfl, p, c, _, 5, rfl, J9.new h5, by omega, by decide, by decide +kernel, fun r HA r0 r1 JA kA => ?_⟩
        obtain ⟨y, hy, yb⟩ := at_P (P := fun n => -1 ≤ n ∧ n ≤ 1) [-1, -1, -1, 0, 1] (by simp) r0 r1
        have hoA : HA so = some (.lst (xs.map V.int)) := kA _ _ (by rw [upd_ne (ne_of_none ho9 h5)]; exact ho9) no9
        refine ⟨l5, _, _, _, rfl, rfl, SqL.of (kA _ _ upd_same (J9.fresh h5)), hy, _, rfl, _, rfl, _, rfl, p, c, _, U, rfl, JA, by omega, by omega, small9000 (by omega), fun d HB d0 d1 JB kB => ?_⟩
        refine ⟨so, _, d, d.toNat, rfl, rfl, kB _ _ hoA no9, ixN_in d0 (by rw [List.length_map]; omega), ?_⟩
        rw [set_int]
        exact hN _ _ ⟨_, rfl, Kp.late (k9.trans ((Kp.new h5 _).trans (kA.trans kB))) fo9 _, (JB.upd no9).mono (by omega), upd_same, by rw [List.length_set]; exact xl9, set_P (fun x hx => by have := xb9 x hx; omega) (by omega)⟩
      rintro _ HC ⟨xs, rfl, kC, JC, hoC, xl, xb⟩
      have NC := N8.go kC JC
      have m0 := Int.emod_nonneg ((i : Int) + 1) (show R ≠ 0 by omega)
      have m1 := Int.emod_lt_of_pos ((i : Int) + 1) (show 0 < R by omega)
      refine ⟨_, rfl, .inl ⟨rfl, _, SqL.of NC.hl⟩, _, rfl, _, rfl, _, _, rfl, rfl, _, rfl, _, _, rfl, rfl, (show 0 < R by omega), _, rfl, so, _, rfl, .inl ⟨SqL.of hoC, fun t1 h1 => ⟨small4 (Nat.le_of_ble_eq_true rfl), fun t3 h3 => ?_⟩⟩⟩
      obtain ⟨hlD, ND⟩ := NC.app (a := i) (b := ((i : Int) + 1) % R) h1 h3 (by omega) ⟨by show (0 : Int) ≤ i; omega, by show (i : Int) < R; omega, m0, m1, xl, xb⟩
      have kD := kC
      exact ⟨l, _, .ref t3, rfl, rfl, hlD, by rw [NC.len]; omega, _, _, _, _, _, rfl, ⟨ND.T.mono (by omega), ND.k, ND.hl, ND.rs, ND.hw, ND.f0, ND.nl⟩, by simp [wl8]; omega, upd3 (kC _ _ hpr8 npr) h1 h3 epr, upd3 (kC _ _ ht8 nt) h1 h3 et, upd3 (kC _ _ ht28 nt2) h1 h3 et2⟩
    · rintro σ H5 ⟨ys, ws, o6, o7, o8, rfl, N5, wl, _⟩
      exact hN _ _ ⟨ys, ws, o6, o7, o8, rfl, ⟨N5.T.mono (by omega), N5.k, N5.hl, N5.rs, N5.hw, N5.f0, N5.nl⟩, by omega⟩
  rintro _ H5 ⟨ys, ws, o6, o7, o8, rfl, N5, wl⟩
  exact ⟨_, rfl, q l ys ws H5 N5 wl⟩

theorem sc_law_book : FnScope ["_law_tape_here", "_law_most", "_law_rooms", "_law_purses", "_law_ways", "_law_down", "_law_k", "_law_one", "_law_at", "_law_a", "_law_b"] ["_law_tape_here", "_law_most"] (defScope s_law_book) := ⟨rfl, rfl, rfl, by decide +kernel, rfl, by decide +kernel, by decide +kernel⟩
theorem ok_law_book (T : Txt mg) (D : Def K mg "_law_book" s_law_book ["_law_tape_here", "_law_most"]) (c__law_draw : Cal P w K mg base "_law_draw" 1 ["_law_tape_here", "_law_many"] spDraw) (c__law_nested : Cal P w K mg base "_law_nested" 4 ["_law_tape_here", "_law_rooms", "_law_purses"] spNested) (c__law_gains : Cal P w K mg base "_law_gains" 3 ["_law_tape_here", "_law_purses"] spGainsT) : Cal P w K mg base "_law_book" 5 ["_law_tape_here", "_law_most"] spBookT := by
  refine D.cal fun f fd F => F.ok sc_law_book (fun vs H Q E h => ?_) (fun cdv A outer s H vs Q E hr h => ?_)
  · obtain ⟨p, c, mt, n, mr, mu, mw, rfl, _⟩ := h
    rfl
  obtain ⟨p, c, mt, n, mr, mu, mw, rfl, J, hn, hm, nm, ⟨mr0, mr1⟩, ⟨mu0, mu1⟩, ⟨mw0, mw1⟩, q⟩ := h
  refine ⟨_, (@pss_cons _ _ _ _ _ (ps_set (i := 2) sc_law_book.nd rfl (Or.inr rfl) (pe_op op_add pe_int (pe_c c__law_draw (hr.mono (by decide)) rfl (pa_name (pv 0) (pa_sub (pe_ix ix_tup (pv 1) pe_int (fun _ _ => rfl)) pa_nil)))))
      (@pss_cons _ _ _ _ _ (ps_set (i := 3) sc_law_book.nd rfl (Or.inl rfl) (pe_op op_add pe_int (pe_c c__law_draw (hr.mono (by decide)) rfl (pa_name (pv 0) (pa_sub (pe_ix ix_tup (pv 1) pe_int (fun _ _ => rfl)) pa_nil)))))
      (@pss_cons _ _ _ _ _ (@ps_setD _ _ 4 _ _ _ _ sc_law_book.nd rfl (Or.inl rfl) (pes_lst pas_nil) rfl (Or.inl rfl))
      (@pss_cons _ _ _ _ _ (ps_if (pt_cmpR op_eq (pe_c c__law_draw (hr.mono (by decide)) rfl (pa_name (pv 0) (pa_const pe_int pa_nil))) pe_int (nomark _)) (@pss_one _ _ _ (ps_set (i := 4) sc_law_book.nd rfl (Or.inl rfl) (pe_c c__law_nested (hr.mono (by decide)) rfl (pa_name (pv 0) (pa_name (pv 2) (pa_name (pv 3) pa_nil)))))) pss_nil)
      (@pss_cons _ _ _ _ _ (ps_set (i := 5) sc_law_book.nd rfl (Or.inl rfl) (pe_c c__law_draw (hr.mono (by decide)) rfl (pa_name (pv 0) (pa_const pe_int pa_nil))))
      (@pss_cons _ _ _ _ _ (ps_for PassesOwn.never rfl (pi_range1 rfl T.b_range (pa_call (pe_c c__law_draw (hr.mono (by decide)) rfl (pa_name (pv 0) (pa_call (pe_callB (call_max2 rfl) rfl T.b_max boot_max (pa_const pe_int (pa_binop (pe_op op_sub (pe_op op_add (pe_ix ix_tup (pv 1) pe_int (fun _ _ => rfl)) pe_int) (pe_callB call_len_seq rfl T.b_len PySem.boot_len (pa_name (pv 4) pa_nil))) pa_nil))) pa_nil))) pa_nil)) (pg_name (i := 6) sc_law_book.nd rfl (Or.inl rfl) (Or.inl rfl))
      (@pss_cons _ _ _ _ _ (ps_set (i := 7) sc_law_book.nd rfl (Or.inl rfl) (pe_callTy call_list_of rfl T.b_list boot_list (pa_call (pe_c c__law_gains (hr.mono (by decide)) rfl (pa_name (pv 0) (pa_name (pv 3) pa_nil))) pa_nil)))
      (@pss_cons _ _ _ _ _ (ps_if (pt_cmpR op_eq (pv 5) pe_int (nomark _)) (@pss_cons _ _ _ _ _ (ps_set (i := 8) sc_law_book.nd rfl (Or.inl rfl) (pe_c c__law_draw (hr.mono (by decide)) rfl (pa_name (pv 0) (pa_name (pv 3) pa_nil))))
      (@pss_one _ _ _ (ps_asg (pe_callB (call_min2 rfl) rfl T.b_min boot_min (pa_sub (pe_ix ix_list (pv 7) (pv 8) (fun _ _ => rfl)) (pa_unary (pe_un un_neg pe_int) pa_nil))) (pg_sub (pv 7) (pv 8) set_list (fun v => assign_sub_name _ _ _ _ _ v))))) pss_nil)
      (@pss_cons _ _ _ _ _ (ps_asg (pe_comp (sc := (defScope s_law_book)) (N := ["_law_tape_here", "_law_most", "_law_rooms", "_law_purses", "_law_ways", "_law_down", "_law_k", "_law_one", "_law_at", "_law_a", "_law_b"]) (N' := ["_law_end", "_law_tape_here", "_law_rooms"]) (k := 1) (idx := [0, 2]) rfl (by exact ⟨rfl, by decide +kernel, by decide +kernel, by decide +kernel, by decide +kernel, by decide +kernel, rfl, rfl⟩) rfl rfl (pi_range1 rfl T.b_range (pa_const pe_int pa_nil)) (fun _ _ _ _ => (pg_name (i := 0) (show (["_law_end", "_law_tape_here", "_law_rooms"] : List Str).Nodup by decide +kernel) rfl (Or.inl rfl) (Or.inr rfl))) (fun _ _ _ _ => pts_nil) (fun _ _ _ _ => (pe_c c__law_draw (hr.mono (by decide)) rfl (pa_name (pv 1) (pa_name (pv 2) pa_nil))))) (pg_pairL (K' := K) (i := 9) (j := 10) rfl sc_law_book.nd ⟨rfl, (Or.inl rfl), (Or.inl rfl)⟩ ⟨rfl, (Or.inl rfl), (Or.inl rfl)⟩ rfl))
      (@pss_one _ _ _ (ps_expr (pe_bm PySem.F.plainAttrs_list PySem.F.slot_list_append PySem.F.type_list_append mt_append (pv 4) (pa_tuple (@PEs.out _ _ _ (pes_tup (pas_name (pes_of (pv 9)) (pas_name (pes_of (pv 10)) (pas_call (pes_of (pe_callTy call_tuple_of rfl T.b_tuple boot_tuple (pa_name (pv 7) pa_nil))) pas_nil))))) pa_nil))))))))
      (@pss_one _ _ _ (@ps_ret _ _ _ _ (@PEs.out _ _ _ (pes_tup (pas_name (pes_of (pv 2)) (pas_name (pes_of (pv 3)) (pas_call (pes_of (pe_callTy call_tuple_of rfl T.b_tuple boot_tuple (pa_name (pv 4) pa_nil))) pas_nil))))))))))))), ?_⟩
  have hs : sizeLine = 16777216 := sizeLine_eq
  refine seq_by (fun σ' H' => ∃ R : Int, σ' = [some (.ref p), some (.ref mt), some (.int R), none, none, none, none, none, none, none, none] ∧ (1 ≤ R ∧ R ≤ mr) ∧ Tape H' p c (n + 1) ∧ Kp [p, c] H H') (fun N hN => ?_) ?_
  · exact ⟨_, rfl, _, rfl, mt, _, 0, _, rfl, rfl, SqT.of hm, rfl, p, c, n, mr, rfl, J, by omega, by omega, small9000 (by omega), fun r H1 r0 r1 J1 k1 => ⟨_, _, rfl, rfl, hN _ _ ⟨_, rfl, by omega, J1, k1⟩⟩⟩
  rintro _ H1 ⟨R, rfl, ⟨R0, R1⟩, J1, k1⟩
  refine seq_by (fun σ' H' => ∃ U : Int, σ' = [some (.ref p), some (.ref mt), some (.int R), some (.int U), none, none, none, none, none, none, none] ∧ (1 ≤ U ∧ U ≤ mu) ∧ Tape H' p c (n + 2) ∧ Kp [p, c] H H') (fun N hN => ?_) ?_
  · exact ⟨_, rfl, _, rfl, mt, _, 1, _, rfl, rfl, SqT.of (k1 _ _ hm nm), rfl, p, c, _, mu, rfl, J1, by omega, by omega, small9000 (by omega), fun r H2 r0 r1 J2 k2 => ⟨_, _, rfl, rfl, hN _ _ ⟨_, rfl, by omega, J2, k1.trans k2⟩⟩⟩
  rintro _ H2 ⟨U, rfl, ⟨U0, U1⟩, J2, k2⟩
  refine seq_by (fun σ' H' => ∃ l : Addr, σ' = [some (.ref p), some (.ref mt), some (.int R), some (.int U), some (.ref l), none, none, none, none, none, none] ∧ NW p c l R U H H' (n + 2) [] []) (fun N hN => ⟨small4 (Nat.le_of_ble_eq_true rfl), fun l hl => hN _ _ ⟨l, rfl, J2.new hl, k2.trans (Kp.new hl _), upd_same, .nil, by simp, kp_freeT k2 J2 hl, J2.fresh hl⟩⟩) ?_
  rintro _ H3 ⟨l, rfl, N3⟩
  refine seq_by (fun σ' H' => ∃ (l : Addr) (ys : List V) (ws : List Way), σ' = [some (.ref p), some (.ref mt), some (.int R), some (.int U), some (.ref l), none, none, none, none, none, none] ∧ NW p c l R U H H' (n + 63) ys ws ∧ ws.length ≤ 24) (fun N hN => ?_) ?_
  · refine ⟨_, rfl, p, c, _, 3, rfl, N3.T, by omega, by decide, by decide +kernel, fun r H4 r0 r1 J4 k4 => ⟨rfl, _, rfl, ite_b (fun cc => ?_) (fun cc => hN _ _ ⟨l, [], [], rfl, (N3.go k4 J4).go .refl (J4.mono (by omega)), by simp⟩)⟩⟩
    have k4' := N3.k.trans k4
    refine ⟨_, rfl, _, rfl, _, rfl, p, c, _, R, U, rfl, J4, by omega, ⟨R0, by omega⟩, ⟨U0, by omega⟩, fun l2 ys ws H5 N5 wl => hN _ _ ⟨l2, ys, ws, rfl, ⟨N5.T.mono (by omega), k4'.trans N5.k, N5.hl, N5.rs, N5.hw, kp_freeT k4' J4 N5.f0, N5.nl⟩, wl⟩⟩
  clear N3
  rintro _ H4 ⟨l, ys, ws, rfl, N4, wl⟩
  refine seq_by (fun σ' H' => ∃ dn : Int, σ' = [some (.ref p), some (.ref mt), some (.int R), some (.int U), some (.ref l), some (.int dn), none, none, none, none, none] ∧ NW p c l R U H H' (n + 64) ys ws) (fun N hN => ⟨_, rfl, p, c, _, 3, rfl, N4.T, by omega, by decide, by decide +kernel, fun dn H5 e0 e1 J5 k5 => hN _ _ ⟨dn, rfl, N4.go k5 J5⟩⟩) ?_
  rintro _ H5 ⟨dn, rfl, N5⟩
  refine seq_by (fun σ' H' => ∃ (ys : List V) (ws : List Way) (o6 o7 o8 o9 oa : Option V), σ' = [some (.ref p), some (.ref mt), some (.int R), some (.int U), some (.ref l), some (.int dn), o6, o7, o8, o9, oa] ∧ NW p c l R U H H' (n + 2000) ys ws ∧ ws.length ≤ 60) (fun N hN => ?_) ?_
  · have yl := N5.len
    refine ⟨_, rfl, _, rfl, mt, _, 2, _, rfl, rfl, SqT.of (N5.k _ _ hm nm), rfl, _, _, rfl, rfl, _, rfl, l, _, rfl, .inl (SqL.of N5.hl), _, _, rfl, rfl, _, _, rfl, ?_⟩
    refine ⟨p, c, _, _, rfl, N5.T, by omega, by split <;> omega, by split <;> exact small9000 (by omega), fun r H6 r0 r1 J6 k6 => ?_⟩
    have rb : r ≤ 36 := by split at r1 <;> omega
    clear r1
    refine ⟨r, rfl, by omega, by omega, ?_⟩
    refine for_range (n := r.toNat) (fun i σ H' => ∃ (ys : List V) (ws : List Way) (o6 o7 o8 o9 oa : Option V), σ = [some (.ref p), some (.ref mt), some (.int R), some (.int U), some (.ref l), some (.int dn), o6, o7, o8, o9, oa] ∧ NW p c l R U H H' (n + 65 + 15 * i) ys ws ∧ ws.length ≤ 24 + i) ⟨ys, ws, _, _, _, _, _, rfl, N5.go k6 J6, by omega⟩ ?_ ?_
    · clear N5 N4 yl
      rintro i σ H6 hi ⟨ys, ws, o6, o7, o8, o9, oa, rfl, N6, wl⟩
      rw [show (0 : Int) + (i : Int) = i from Int.zero_add _]
      refine seq_by (fun σ' H' => ∃ (o : Addr) (xs : List Int), σ' = [some (.ref p), some (.ref mt), some (.int R), some (.int U), some (.ref l), some (.int dn), some (.int i), some (.ref o), o8, o9, oa] ∧ Kp [p, c] H6 H' ∧ Tape H' p c (n + 65 + 15 * i + 12) ∧ H6 o = none ∧ H' o = some (.lst (xs.map V.int)) ∧ (xs.length : Int) = U ∧ ∀ x ∈ xs, -9 ≤ x ∧ x ≤ 9) (fun N hN => ?_) ?_
      · exact ⟨_, rfl, _, rfl, p, c, _, U, rfl, N6.T, by omega, by omega, by omega, fun t gs H7 gl gb J7 k7 ft nt ht => ⟨t, _, rfl, .inr (SqT.of ht), fun o ho => hN _ _ ⟨o, gs, rfl, k7.trans (Kp.new ho _), J7.new ho, kp_freeT k7 J7 ho, upd_same, gl, gb⟩⟩⟩
      rintro _ H7 ⟨o, xs, rfl, k7, J7, fo, ho7, xl, xb⟩
      have no : o ∉ [p, c] := N6.T.fresh fo
      refine seq_by (fun σ' H' => ∃ (xs : List Int) (o8 : Option V), σ' = [some (.ref p), some (.ref mt), some (.int R), some (.int U), some (.ref l), some (.int dn), some (.int i), some (.ref o), o8, o9, oa] ∧ Kp [p, c] H6 H' ∧ Tape H' p c (n + 65 + 15 * i + 13) ∧ H' o = some (.lst (xs.map V.int)) ∧ (xs.length : Int) = U ∧ ∀ x ∈ xs, -99 ≤ x ∧ x ≤ 99) (fun N hN => ?_) ?_
      · refine ⟨_, rfl, rfl, _, rfl, ite_b (fun cc => ?_) (fun cc => hN _ _ ⟨xs, _, rfl, k7, J7.mono (by omega), ho7, xl, fun x hx => by have := xb x hx; omega⟩)⟩
        refine ⟨_, rfl, _, rfl, p, c, _, U, rfl, J7, by omega, by omega, small9000 (by omega), fun a H8 a0 a1 J8 k8 => ?_⟩
        obtain ⟨x, hx, bx⟩ := at_P (P := fun n => -9 ≤ n ∧ n ≤ 9) xs xb a0 (by omega : a < xs.length)
        have ho8 := k8 _ _ ho7 no
        refine ⟨_, rfl, _, rfl, o, _, a, _, rfl, rfl, SqL.of ho8, hx, _, rfl, _, _, rfl, _, rfl, _, rfl, o, _, a, a.toNat, rfl, rfl, ho8, ixN_in a0 (by rw [List.length_map]; omega), ?_⟩
        rw [set_int]
        exact hN _ _ ⟨_, _, rfl, Kp.late (k7.trans k8) fo _, J8.upd no, upd_same, by rw [List.length_set]; exact xl, set_P (fun x hx => by have := xb x hx; omega) (by split <;> omega)⟩
      clear J7 ho7 xl xb
      rintro _ H8 ⟨xs, o8, rfl, k8, J8, ho8, xl, xb⟩
      refine seq_by (fun σ' H' => ∃ a b : Int, σ' = [some (.ref p), some (.ref mt), some (.int R), some (.int U), some (.ref l), some (.int dn), some (.int i), some (.ref o), o8, some (.int a), some (.int b)] ∧ Kp [p, c] H6 H' ∧ Tape H' p c (n + 65 + 15 * i + 15) ∧ H' o = some (.lst (xs.map V.int)) ∧ (0 ≤ a ∧ a < R) ∧ (0 ≤ b ∧ b < R)) (fun N hN => ?_) ?_
      · refine ⟨2, rfl, by decide, by decide, fun l2 h2 => ?_⟩
        have nl2 := J8.fresh h2
        refine comp1_rngP (fun j zs H' => Tape H' p c (n + 65 + 15 * i + 13 + j) ∧ Kp [p, c] H8 H' ∧ ∃ ns : List Int, zs = ns.map V.int ∧ ns.length = j ∧ ∀ x ∈ ns, 0 ≤ x ∧ x < R) ⟨J8.new h2, Kp.new h2 _, [], rfl, rfl, by simp⟩ upd_same ?_ ?_
        · rintro j H9 zs N' hj ⟨J9, k9, ns, rfl, hjl, hb⟩ hl9 hN'
          have hj2 : j < 2 := hj
          refine ⟨_, rfl, _, rfl, p, c, _, R, rfl, J9, by omega, by omega, small9000 (by omega), fun r HA r0 r1 JA kA => hN' _ _ (kA _ _ hl9 nl2) (by rw [List.length_map]; omega) ⟨JA.upd nl2, Kp.late (k9.trans kA) h2 _, ns ++ [r], by simp, by simp [hjl], ?_⟩⟩
          intro x hx
          rcases List.mem_append.mp hx with hx | hx
          · exact hb x hx
          · rw [List.mem_singleton.mp hx]; exact ⟨r0, r1⟩
        · rintro H9 zs ⟨J9, k9, ns, rfl, hjl, hb⟩ hl9
          match ns, hjl, hb, hl9 with
          | [a, b], _, hb, hl9 => exact ⟨l2, _, rfl, SqL.of hl9, rfl, _, _, rfl, _, _, rfl, rfl, hN _ _ ⟨a, b, rfl, k8.trans k9, J9, k9 _ _ ho8 no, hb a (by simp), hb b (by simp)⟩⟩
      rintro _ H9 ⟨a, b, rfl, k9, J9, ho9, ⟨a0, a1⟩, ⟨b0, b1⟩⟩
      have N9 := N6.go k9 J9
      refine ⟨_, rfl, .inl ⟨rfl, _, SqL.of N9.hl⟩, _, rfl, _, rfl, _, rfl, o, _, rfl, .inl ⟨SqL.of ho9, fun t1 h1 => ⟨small4 (Nat.le_of_ble_eq_true rfl), fun t3 h3 => ?_⟩⟩⟩
      obtain ⟨hlD, ND⟩ := N9.app (a := a) (b := b) h1 h3 (by omega) ⟨a0, a1, b0, b1, xl, xb⟩
      exact ⟨l, _, .ref t3, rfl, rfl, hlD, by rw [N9.len]; omega, _, _, _, _, _, _, _, rfl, ND, by simp; omega⟩
    · rintro σ H6 ⟨ys, ws, o6, o7, o8, o9, oa, rfl, N6, wl⟩
      exact hN _ _ ⟨ys, ws, o6, o7, o8, o9, oa, rfl, N6.go .refl (N6.T.mono (by omega)), by omega⟩
  rintro _ H6 ⟨ys, ws, o6, o7, o8, o9, oa, rfl, N6, wl⟩
  have hylen := N6.len
  refine ⟨_, rfl, _, rfl, _, rfl, l, ys, rfl, .inl ⟨SqL.of N6.hl, fun t1 h1 => ⟨(small4 (Nat.le_of_ble_eq_true rfl)), fun t2 h2 => ?_⟩⟩⟩
  have r1 := Rep.newT (Reps.mono (ex := [p, c]) (by simp) N6.rs) h1 (N6.T.fresh h1) (by omega)
  have r2 := Rep.newT (.cons (.int R) (.cons (.int U) (.cons r1 .nil))) h2 ((N6.T.new h1).fresh h2) (small4 (Nat.le_of_ble_eq_true rfl))
  exact q R U ws _ _ ⟨R0, by omega, U0, by omega, by omega, N6.hw⟩ R1 U1 ((N6.T.new h1).new h2) (N6.k.trans ((Kp.new h1 _).trans (Kp.new h2 _))) r2

theorem sc_is_sum : FnScope ["book", "thing", "weights", "heights", "rooms", "purses", "ways"] ["book", "thing"] (defScope s_is_sum) := ⟨rfl, rfl, rfl, by decide +kernel, rfl, by decide +kernel, by decide +kernel⟩
theorem ok_is_sum (T : Txt mg) (D : Def K mg "is_sum" s_is_sum ["book", "thing"]) (c_is_tuple_of : Cal P w K mg base "is_tuple_of" 1 ["thing", "many"] spTup) (c_is_whole : Cal P w K mg base "is_whole" 1 ["thing"] spWhole) (c_are_numbers : Cal P w K mg base "are_numbers" 2 ["thing", "many"] spNums) : Cal P w K mg base "is_sum" 3 ["book", "thing"] spIsSum := by
  refine D.cal fun f fd F => F.ok sc_is_sum (fun vs H Q E h => ?_) (fun cdv A outer s H vs Q E hr h => ?_)
  · obtain ⟨ex, R, U, ws, bv, d, v, rfl, _⟩ := h
    rfl
  obtain ⟨ex, R, U, ws, bv, d, v, rfl, rb, r, q⟩ := h
  refine ⟨_, (@pss_cons _ _ _ _ _ (ps_if (pt_not (pt_val (pe_c c_is_tuple_of (hr.mono (by decide)) rfl (pa_name (pv 1) (pa_const pe_int pa_nil))))) (@pss_one _ _ _ (@ps_ret _ _ _ _ pe_bl)) pss_nil)
      (@pss_cons _ _ _ _ _ (ps_asg (pv 1) (pg_pair (K' := K) (i := 2) (j := 3) rfl sc_is_sum.nd ⟨rfl, (Or.inl rfl), (Or.inl rfl)⟩ ⟨rfl, (Or.inl rfl), (Or.inl rfl)⟩ rfl))
      (@pss_cons _ _ _ _ _ (ps_asg (pv 0) (pg_trio (K' := K) (i := 4) (j := 5) (m := 6) rfl sc_is_sum.nd ⟨rfl, (Or.inl rfl), (Or.inl rfl)⟩ ⟨rfl, (Or.inl rfl), (Or.inl rfl)⟩ ⟨rfl, (Or.inl rfl), (Or.inl rfl)⟩ rfl))
      (@pss_one _ _ _ (@ps_ret _ _ _ _ (pe_and (pe_c c_are_numbers (hr.mono (by decide)) rfl (pa_name (pv 2) (pa_name (pv 5) pa_nil))) (pe_and (pe_c c_is_tuple_of (hr.mono (by decide)) rfl (pa_name (pv 3) (pa_name (pv 4) pa_nil))) (pe_one (pe_callB call_all rfl T.b_all boot_all (pa_comp (pe_comp (sc := (defScope s_is_sum)) (N := ["book", "thing", "weights", "heights", "rooms", "purses", "ways"]) (N' := ["part"]) (k := 1) (idx := []) rfl (by exact ⟨rfl, by decide +kernel, by decide +kernel, by decide +kernel, by decide +kernel, by decide +kernel, rfl, rfl⟩) rfl rfl (pi_tup (pv 3)) (fun _ _ _ _ => (pg_name (i := 0) (show (["part"] : List Str).Nodup by decide +kernel) rfl (Or.inl rfl) (Or.inr rfl))) (fun _ _ _ _ => pts_nil) (fun _ _ _ _ => (pe_c c_is_whole (hr.mono (by decide)) rfl (pa_name (pv 0) pa_nil)))) pa_nil)))))))))), ?_⟩
  refine seq_by (fun σ' H' => σ' = [some bv, some v, none, none, none, none, none] ∧ H = H' ∧ tupD d 2 = true) (fun N hN => ?_) ?_
  · refine ⟨_, rfl, ex, d, _, _, rfl, r, _, rfl, ?_⟩
    cases ht : tupD d 2 with
    | true => exact ite_nt (hN _ _ ⟨rfl, rfl, ht⟩)
    | false =>
      have := q H .refl
      rw [sumB_no2 ht] at this
      exact iteT this
  rintro _ _ ⟨rfl, rfl, ht⟩
  obtain ⟨d1, d2, rfl⟩ := tupD_2 ht
  obtain ⟨ba, wa, vs, B⟩ := rep_book rb
  have eb := B.e
  subst eb
  obtain ⟨sa, ys, rfl, hs, _, _, rss⟩ := rep_tup r
  obtain ⟨y1, y2, rfl, q1, q2⟩ := reps_2 rss
  refine seq_by (fun σ' H' => σ' = [some (.ref ba), some (.ref sa), some y1, some y2, none, none, none] ∧ H = H') (fun N hN => ?_) ?_
  · exact ⟨_, rfl, sa, _, rfl, SqT.of hs, rfl, _, _, rfl, _, _, rfl, rfl, hN _ _ ⟨rfl, rfl⟩⟩
  rintro _ _ ⟨rfl, rfl⟩
  refine seq_by (fun σ' H' => σ' = [some (.ref ba), some (.ref sa), some y1, some y2, some (.int R), some (.int U), some (.ref wa)] ∧ H = H') (fun N hN => ?_) ?_
  · exact ⟨_, rfl, ba, _, rfl, SqT.of B.b, rfl, _, _, rfl, _, _, rfl, _, _, rfl, rfl, hN _ _ ⟨rfl, rfl⟩⟩
  rintro _ _ ⟨rfl, rfl⟩
  refine ⟨_, rfl, _, rfl, ex, d1, _, _, rfl, q1, fun H1 k1 => ⟨_, rfl, ite_b (fun cc => ?_) (fun cc => ?_)⟩⟩
  · have cc : numsD d1 U = true := cc
    have q2' := q2.keep k1.of
    refine ⟨_, rfl, _, rfl, ex, d2, _, _, rfl, q2', _, rfl, ite_b (fun c2 => ?_) (fun c2 => ?_)⟩
    · obtain ⟨ds, rfl, hlen⟩ := tupD_tup (show tupD d2 R = true from c2)
      obtain ⟨a, xs, rfl, ha, _, za, rs⟩ := rep_tup q2'
      have hl := rs.length
      refine ⟨_, rfl, a, rfl, ⟨_, SqT.of ha⟩, fun l hl0 => ?_⟩
      refine comp1_tup (K := K) (fun i => .bl (wholeD (ds.getD i .none))) (SqT.of ha) za hl0 ?_ ?_
      · intro i x H2 M hx k2 hM
        obtain ⟨d, ed, rd⟩ := rs.getV hx
        have eg : ds.getD i .none = d := by rw [List.getD_eq_getElem?_getD, ed]; rfl
        have hm := hM H2 .refl
        rw [eg] at hm
        exact ⟨_, rfl, ex, d, _, rfl, rd.keep k2.of, hm⟩
      · intro H2 k2 hl1
        rw [← hl, map_bl] at hl1
        refine ⟨rfl, l, _, rfl, SqL.of hl1, ?_⟩
        rw [all_range wholeD ds .none]
        have := q H2 (k1.trans k2)
        rw [sumB_2, cc, Bool.true_and, wholesD_tup hlen] at this
        exact this
    · have := q H1 k1
      rw [sumB_2, cc, Bool.true_and, wholesD_not (show tupD d2 R = false from c2)] at this
      exact this
  · have := q H1 k1
    rw [sumB_2, show numsD d1 U = false from cc, Bool.false_and] at this
    exact this

theorem sc_put_to : FnScope ["numbers", "gains"] ["numbers", "gains"] (defScope s_put_to) := ⟨rfl, rfl, rfl, by decide +kernel, rfl, by decide +kernel, by decide +kernel⟩
theorem ok_put_to (T : Txt mg) (D : Def K mg "put_to" s_put_to ["numbers", "gains"]) : Cal P w K mg base "put_to" 1 ["numbers", "gains"] (spPut K) := by
  refine D.cal fun f fd F => F.ok sc_put_to (fun vs H Q E h => ?_) (fun cdv A outer s H vs Q E hr h => ?_)
  · obtain ⟨a, b, xs, gs, rfl, _⟩ := h
    rfl
  obtain ⟨a, b, xs, gs, rfl, ha, hb, hl, hz, q⟩ := h
  refine ⟨_, (@pss_one _ _ _ (@ps_ret _ _ _ _ (pe_callTy call_tuple_of rfl T.b_tuple boot_tuple (pa_comp (pe_comp (sc := (defScope s_put_to)) (N := ["numbers", "gains"]) (N' := ["number", "more"]) (k := 2) (idx := []) rfl (by exact ⟨rfl, by decide +kernel, by decide +kernel, by decide +kernel, by decide +kernel, by decide +kernel, rfl, rfl⟩) rfl rfl (pi_zip rfl T.b_zip (pa_name (pv 0) (pa_name (pv 1) pa_nil))) (fun _ _ _ _ => (pg_pair (K' := K) (i := 0) (j := 1) rfl (show (["number", "more"] : List Str).Nodup by decide +kernel) ⟨rfl, (Or.inl rfl), (Or.inr rfl)⟩ ⟨rfl, (Or.inl rfl), (Or.inr rfl)⟩ rfl)) (fun _ _ _ _ => pts_nil) (fun _ _ _ _ => (pe_op op_add (pv 0) (pv 1)))) pa_nil)))), ?_⟩
  refine ⟨_, rfl, _, rfl, true, true, a, b, _, _, rfl, ha, hb, fun l hl0 => ?_⟩
  refine comp2_zip (K := K) (b := true) (b' := true) (fun i => .int (xs.getD i 0 + gs.getD i 0)) ha hb xs.length (by simp; omega) (by rw [sizeLine_eq]; omega) hl0 ?_ ?_
  · intro i x y H1 M hi hx hy k1 hM
    rw [List.getElem?_map, List.getElem?_eq_getElem hi] at hx
    cases hx
    rw [List.getElem?_map, List.getElem?_eq_getElem (show i < gs.length by omega)] at hy
    cases hy
    have := hM H1 .refl
    rw [List.getD_eq_getElem?_getD, List.getD_eq_getElem?_getD, List.getElem?_eq_getElem hi, List.getElem?_eq_getElem (show i < gs.length by omega)] at this
    exact ⟨_, rfl, _, rfl, _, _, rfl, rfl, this⟩
  · intro H1 k1 h1
    rw [map_int, putI_range xs gs hl] at h1
    exact ⟨l, _, rfl, .inl ⟨SqL.of h1, fun t ht => q t _ (k1.trans (Kp.new ht _)) (Kp.free k1 ht (by simp)) upd_same⟩⟩

theorem sc_weighed : FnScope ["weights", "numbers"] ["weights", "numbers"] (defScope s_weighed) := ⟨rfl, rfl, rfl, by decide +kernel, rfl, by decide +kernel, by decide +kernel⟩
theorem ok_weighed (T : Txt mg) (D : Def K mg "weighed" s_weighed ["weights", "numbers"]) : Cal P w K mg base "weighed" 1 ["weights", "numbers"] (spWeighed K) := by
  refine D.cal fun f fd F => F.ok sc_weighed (fun vs H Q E h => ?_) (fun cdv A outer s H vs Q E hr h => ?_)
  · obtain ⟨a, b, xs, ys, rfl, _⟩ := h
    rfl
  obtain ⟨a, b, xs, gs, rfl, ha, hb, hl, hz, bx, bg, q⟩ := h
  refine ⟨_, (@pss_one _ _ _ (@ps_ret _ _ _ _ (pe_callB call_sum rfl T.b_sum boot_sum (pa_comp (pe_comp (sc := (defScope s_weighed)) (N := ["weights", "numbers"]) (N' := ["weight", "number"]) (k := 2) (idx := []) rfl (by exact ⟨rfl, by decide +kernel, by decide +kernel, by decide +kernel, by decide +kernel, by decide +kernel, rfl, rfl⟩) rfl rfl (pi_zip rfl T.b_zip (pa_name (pv 0) (pa_name (pv 1) pa_nil))) (fun _ _ _ _ => (pg_pair (K' := K) (i := 0) (j := 1) rfl (show (["weight", "number"] : List Str).Nodup by decide +kernel) ⟨rfl, (Or.inl rfl), (Or.inr rfl)⟩ ⟨rfl, (Or.inl rfl), (Or.inr rfl)⟩ rfl)) (fun _ _ _ _ => pts_nil) (fun _ _ _ _ => (pe_op op_mulB (pv 0) (pv 1)))) pa_nil)))), ?_⟩
  refine ⟨_, rfl, _, rfl, true, true, a, b, _, _, rfl, ha, hb, fun l hl0 => ?_⟩
  refine comp2_zip (K := K) (b := true) (b' := true) (fun i => .int (xs.getD i 0 * gs.getD i 0)) ha hb xs.length (by simp; omega) (by rw [sizeLine_eq]; omega) hl0 ?_ ?_
  · intro i x y H1 M hi hx hy k1 hM
    rw [List.getElem?_map, List.getElem?_eq_getElem hi] at hx
    cases hx
    rw [List.getElem?_map, List.getElem?_eq_getElem (show i < gs.length by omega)] at hy
    cases hy
    have := hM H1 .refl
    have m := bx.mul bg i
    rw [List.getD_eq_getElem?_getD, List.getD_eq_getElem?_getD, List.getElem?_eq_getElem hi, List.getElem?_eq_getElem (show i < gs.length by omega)] at this m
    exact ⟨_, rfl, _, rfl, _, _, rfl, rfl, m, this⟩
  · intro H1 k1 h1
    rw [map_int] at h1
    exact ⟨rfl, l, _, rfl, SqL.of h1, q H1 k1⟩
theorem sc_worth : FnScope ["tally", "stand", "weights", "heights", "room", "numbers"] ["tally", "stand"] (defScope s_worth) := ⟨rfl, rfl, rfl, by decide +kernel, rfl, by decide +kernel, by decide +kernel⟩
theorem ok_worth (T : Txt mg) (D : Def K mg "worth" s_worth ["tally", "stand"]) (c_weighed : Cal P w K mg base "weighed" 1 ["weights", "numbers"] (spWeighed K)) : Cal P w K mg base "worth" 2 ["tally", "stand"] spWorth := by
  refine D.cal fun f fd F => F.ok sc_worth (fun vs H Q E h => ?_) (fun cdv A outer s H vs Q E hr h => ?_)
  · obtain ⟨ex, wts, hts, tv, r, ns, sv, rfl, _⟩ := h
    rfl
  obtain ⟨ex, wts, hts, tv, r, ns, sv, rfl, rt, rs, ⟨r0, r1⟩, hl, hz, bw, bn, q⟩ := h
  refine ⟨_, (@pss_cons _ _ _ _ _ (ps_asg (pv 0) (pg_pair (K' := K) (i := 2) (j := 3) rfl sc_worth.nd ⟨rfl, (Or.inl rfl), (Or.inl rfl)⟩ ⟨rfl, (Or.inl rfl), (Or.inl rfl)⟩ rfl))
      (@pss_cons _ _ _ _ _ (ps_asg (pv 1) (pg_pair (K' := K) (i := 4) (j := 5) rfl sc_worth.nd ⟨rfl, (Or.inl rfl), (Or.inl rfl)⟩ ⟨rfl, (Or.inl rfl), (Or.inl rfl)⟩ rfl))
      (@pss_one _ _ _ (@ps_ret _ _ _ _ (pe_op op_add (pe_ix ix_tup (pv 3) (pv 4) (fun _ _ => rfl)) (pe_c c_weighed (hr.mono (by decide)) rfl (pa_name (pv 2) (pa_name (pv 5) pa_nil)))))))), ?_⟩
  obtain ⟨ta, ys, rfl, hta, _, _, rss⟩ := rep_tup rt
  obtain ⟨y1, y2, rfl, q1, q2⟩ := reps_2 rss
  obtain ⟨wa, ws, rfl, hwa, _, _, rw1⟩ := rep_tup q1
  obtain ⟨ha, hs, rfl, hha, _, _, rh1⟩ := rep_tup q2
  rw [Reps.ints_inv rw1] at hwa
  rw [Reps.ints_inv rh1] at hha
  obtain ⟨sa, zs, rfl, hsa, _, _, rsz⟩ := rep_tup rs
  obtain ⟨z1, z2, rfl, p1, p2⟩ := reps_2 rsz
  obtain ⟨na, ms, rfl, hna, _, _, rn1⟩ := rep_tup p2
  rw [Reps.ints_inv rn1] at hna
  rw [rep_int p1] at hsa
  refine seq_by (fun σ' H' => σ' = [some (.ref ta), some (.ref sa), some (.ref wa), some (.ref ha), none, none] ∧ H = H') (fun N hN => ⟨_, rfl, ta, _, rfl, SqT.of hta, rfl, _, _, rfl, _, _, rfl, rfl, hN _ _ ⟨rfl, rfl⟩⟩) ?_
  rintro _ _ ⟨rfl, rfl⟩
  refine seq_by (fun σ' H' => σ' = [some (.ref ta), some (.ref sa), some (.ref wa), some (.ref ha), some (.int r), some (.ref na)] ∧ H = H') (fun N hN => ⟨_, rfl, sa, _, rfl, SqT.of hsa, rfl, _, _, rfl, _, _, rfl, rfl, hN _ _ ⟨rfl, rfl⟩⟩) ?_
  rintro _ _ ⟨rfl, rfl⟩
  exact ⟨_, rfl, _, rfl, ha, _, _, _, rfl, rfl, SqT.of hha, atI_int r0 r1, _, rfl, _, rfl, wa, na, wts, ns, rfl, SqT.of hwa, SqT.of hna, hl, hz, bw, bn, fun H' k => ⟨_, _, rfl, rfl, q H' k⟩⟩
theorem sc_fall : FnScope ["book", "tally", "k", "weights", "heights", "a", "b", "gains"] ["book", "tally", "k"] (defScope s_fall) := ⟨rfl, rfl, rfl, by decide +kernel, rfl, by decide +kernel, by decide +kernel⟩
theorem ok_fall (T : Txt mg) (D : Def K mg "fall" s_fall ["book", "tally", "k"]) (c_weighed : Cal P w K mg base "weighed" 1 ["weights", "numbers"] (spWeighed K)) : Cal P w K mg base "fall" 2 ["book", "tally", "k"] spFall := by
  refine D.cal fun f fd F => F.ok sc_fall (fun vs H Q E h => ?_) (fun cdv A outer s H vs Q E hr h => ?_)
  · obtain ⟨ex, R, U, ws, bv, wts, hts, tv, k, rfl, _⟩ := h
    rfl
  obtain ⟨ex, R, U, ws, bv, wts, hts, tv, k, rfl, rb, ok, rt, so, ⟨k0, k1⟩, q⟩ := h
  refine ⟨_, (@pss_cons _ _ _ _ _ (ps_asg (pv 1) (pg_pair (K' := K) (i := 3) (j := 4) rfl sc_fall.nd ⟨rfl, (Or.inl rfl), (Or.inl rfl)⟩ ⟨rfl, (Or.inl rfl), (Or.inl rfl)⟩ rfl))
      (@pss_cons _ _ _ _ _ (ps_asg (pe_ix ix_tup (pe_ix ix_tup (pv 0) pe_int (fun _ _ => rfl)) (pv 2) (fun _ _ => rfl)) (pg_trio (K' := K) (i := 5) (j := 6) (m := 7) rfl sc_fall.nd ⟨rfl, (Or.inl rfl), (Or.inl rfl)⟩ ⟨rfl, (Or.inl rfl), (Or.inl rfl)⟩ ⟨rfl, (Or.inl rfl), (Or.inl rfl)⟩ rfl))
      (@pss_one _ _ _ (@ps_ret _ _ _ _ (pe_op op_sub (pe_op op_sub (pe_ix ix_tup (pv 4) (pv 5) (fun _ _ => rfl)) (pe_ix ix_tup (pv 4) (pv 6) (fun _ _ => rfl))) (pe_c c_weighed (hr.mono (by decide)) rfl (pa_name (pv 3) (pa_name (pv 7) pa_nil)))))))), ?_⟩
  obtain ⟨ta, ys, rfl, hta, _, _, rss⟩ := rep_tup rt
  obtain ⟨y1, y2, rfl, q1, q2⟩ := reps_2 rss
  obtain ⟨wa, wx, rfl, hwa, _, _, rw1⟩ := rep_tup q1
  obtain ⟨ha, hx, rfl, hha, _, _, rh1⟩ := rep_tup q2
  rw [Reps.ints_inv rw1] at hwa
  rw [Reps.ints_inv rh1] at hha
  obtain ⟨ba, va, vs, B⟩ := rep_book rb
  have eb := B.e
  subst eb
  obtain ⟨t1, g1, e1, ht1, hg1, _⟩ := way_at B.r k0 k1
  have wo := wayOk_at ok k0 k1
  have lw := so.lw
  have lh := so.lh
  have lg := wo.len
  have u1 := ok.p1
  refine seq_by (fun σ' H' => σ' = [some (.ref ba), some (.ref ta), some (.int k), some (.ref wa), some (.ref ha), none, none, none] ∧ H = H') (fun N hN => ⟨_, rfl, ta, _, rfl, SqT.of hta, rfl, _, _, rfl, _, _, rfl, rfl, hN _ _ ⟨rfl, rfl⟩⟩) ?_
  rintro _ _ ⟨rfl, rfl⟩
  refine seq_by (fun σ' H' => σ' = [some (.ref ba), some (.ref ta), some (.int k), some (.ref wa), some (.ref ha), some (.int (wayAt ws k).a), some (.int (wayAt ws k).b), some (.ref g1)] ∧ H = H') (fun N hN => ⟨_, rfl, ba, _, _, _, rfl, rfl, SqT.of B.b, at2 _ _ _, _, rfl, va, _, _, _, rfl, rfl, SqT.of B.w, e1, t1, _, rfl, SqT.of ht1, rfl, _, _, rfl, _, _, rfl, _, _, rfl, rfl, hN _ _ ⟨rfl, rfl⟩⟩) ?_
  rintro _ _ ⟨rfl, rfl⟩
  exact ⟨_, rfl, _, rfl, ha, _, _, _, rfl, rfl, SqT.of hha, atI_int wo.a0 (by rw [lh]; exact wo.a1), _, rfl, _, rfl, ha, _, _, _, rfl, rfl, SqT.of hha, atI_int wo.b0 (by rw [lh]; exact wo.b1), _, _, rfl, rfl, _, rfl, _, rfl, wa, g1, wts, (wayAt ws k).g, rfl, SqT.of hwa, SqT.of hg1, by omega, by omega, so.bw, wo.big, fun H' k => ⟨_, _, rfl, rfl, q H' k⟩⟩
theorem sc_is_kept : FnScope ["book", "tally", "some"] ["book", "tally", "some"] (defScope s_is_kept) := ⟨rfl, rfl, rfl, by decide +kernel, rfl, by decide +kernel, by decide +kernel⟩
theorem ok_is_kept (T : Txt mg) (D : Def K mg "is_kept" s_is_kept ["book", "tally", "some"]) (c_fall : Cal P w K mg base "fall" 2 ["book", "tally", "k"] spFall) : Cal P w K mg base "is_kept" 3 ["book", "tally", "some"] (spKeptL K) := by
  refine D.cal fun f fd F => F.ok sc_is_kept (fun vs H Q E h => ?_) (fun cdv A outer s H vs Q E hr h => ?_)
  · obtain ⟨ex, R, U, ws, bv, wts, hts, tv, l, ns, rfl, _⟩ := h
    rfl
  obtain ⟨ex, R, U, ws, bv, wts, hts, tv, l, ns, rfl, rb, ok, rt, so, hq, hz, hin, q⟩ := h
  refine ⟨_, (@pss_one _ _ _ (@ps_ret _ _ _ _ (pe_callB call_all rfl T.b_all boot_all (pa_comp (pe_comp (sc := (defScope s_is_kept)) (N := ["book", "tally", "some"]) (N' := ["k", "book", "tally"]) (k := 1) (idx := [0, 1]) rfl (by exact ⟨rfl, by decide +kernel, by decide +kernel, by decide +kernel, by decide +kernel, by decide +kernel, rfl, rfl⟩) rfl rfl (pi_list (pv 2)) (fun _ _ _ _ => (pg_name (i := 0) (show (["k", "book", "tally"] : List Str).Nodup by decide +kernel) rfl (Or.inl rfl) (Or.inr rfl))) (fun _ _ _ _ => pts_nil) (fun _ _ _ _ => (pe_cmpR op_ge (pe_c c_fall (hr.mono (by decide)) rfl (pa_name (pv 1) (pa_name (pv 2) (pa_name (pv 0) pa_nil)))) pe_int (nomark _)))) pa_nil)))), ?_⟩
  have hs := sizeLine_eq
  refine ⟨_, rfl, l, rfl, ⟨_, hq⟩, fun t ht => ?_⟩
  refine comp1_list (fun i => .bl (decide (0 ≤ fallI ws wts hts (ns.getD i 0)))) hq (by rw [List.length_map]; omega) ht ?_ ?_
  · intro i x H1 N hx k1 hN
    rw [List.getElem?_map] at hx
    cases e : ns[i]? with
    | none => rw [e] at hx; cases hx
    | some z =>
      rw [e] at hx
      obtain rfl : V.int z = x := Option.some.inj hx
      have hi := hin z (List.mem_of_getElem? e)
      refine ⟨_, rfl, _, rfl, _, rfl, ex, R, U, ws, bv, wts, hts, tv, z, rfl, rb.keep k1.of, ok, rt.keep k1.of, so, hi, fun H2 k2 => ⟨_, _, rfl, rfl, ?_⟩⟩
      have := hN H2 k2
      rw [List.getD_eq_getElem?_getD, e] at this
      exact this
  · intro H1 k1 h1
    rw [List.length_map, map_bl] at h1
    refine ⟨rfl, t, _, rfl, SqL.of h1, ?_⟩
    have := q H1 k1
    rw [← all_rng] at this
    exact this
theorem sc_falling : FnScope ["book", "tally", "some"] ["book", "tally", "some"] (defScope s_falling) := ⟨rfl, rfl, rfl, by decide +kernel, rfl, by decide +kernel, by decide +kernel⟩
theorem ok_falling (T : Txt mg) (D : Def K mg "falling" s_falling ["book", "tally", "some"]) (c_fall : Cal P w K mg base "fall" 2 ["book", "tally", "k"] spFall) : Cal P w K mg base "falling" 3 ["book", "tally", "some"] (spFalling K) := by
  refine D.cal fun f fd F => F.ok sc_falling (fun vs H Q E h => ?_) (fun cdv A outer s H vs Q E hr h => ?_)
  · obtain ⟨ex, R, U, ws, bv, wts, hts, tv, l, ns, rfl, _⟩ := h
    rfl
  obtain ⟨ex, R, U, ws, bv, wts, hts, tv, l, ns, rfl, rb, ok, rt, so, hq, hz, hin, q⟩ := h
  refine ⟨_, (@pss_one _ _ _ (@ps_ret _ _ _ _ (pe_comp (sc := (defScope s_falling)) (N := ["book", "tally", "some"]) (N' := ["k", "book", "tally"]) (k := 1) (idx := [0, 1]) rfl (by exact ⟨rfl, by decide +kernel, by decide +kernel, by decide +kernel, by decide +kernel, by decide +kernel, rfl, rfl⟩) rfl rfl (pi_list (pv 2)) (fun _ _ _ _ => (pg_name (i := 0) (show (["k", "book", "tally"] : List Str).Nodup by decide +kernel) rfl (Or.inl rfl) (Or.inr rfl))) (fun _ _ _ _ => pts_one (pt_cmpR op_gt (pe_c c_fall (hr.mono (by decide)) rfl (pa_name (pv 1) (pa_name (pv 2) (pa_name (pv 0) pa_nil)))) pe_int (nomark _))) (fun _ _ _ _ => (pv 0))))), ?_⟩
  have hs := sizeLine_eq
  refine ⟨_, rfl, l, rfl, ⟨_, hq⟩, fun t ht => ?_⟩
  refine comp1_listF (fun i => decide (0 < fallI ws wts hts (ns.getD i 0))) (fun i => .int (ns.getD i 0)) hq (by rw [List.length_map]; omega) ht ?_ ?_ ?_
  · intro i x H1 N hx k1 hN
    rw [List.getElem?_map] at hx
    cases e : ns[i]? with
    | none => rw [e] at hx; cases hx
    | some z =>
      rw [e] at hx
      obtain rfl : V.int z = x := Option.some.inj hx
      have hi := hin z (List.mem_of_getElem? e)
      refine ⟨_, rfl, _, rfl, _, rfl, ex, R, U, ws, bv, wts, hts, tv, z, rfl, rb.keep k1.of, ok, rt.keep k1.of, so, hi, fun H2 k2 => ⟨_, _, rfl, rfl, _, rfl, ?_⟩⟩
      have := hN H2 k2
      rw [List.getD_eq_getElem?_getD, e] at this
      exact this
  · intro i x H1 N _ hx k1 hN
    rw [List.getElem?_map] at hx
    cases e : ns[i]? with
    | none => rw [e] at hx; cases hx
    | some z =>
      rw [e] at hx
      obtain rfl : V.int z = x := Option.some.inj hx
      have := hN H1 .refl
      rw [List.getD_eq_getElem?_getD, e] at this
      exact ⟨_, rfl, this⟩
  · intro H1 k1 h1
    rw [List.length_map, rng_filter ns fun z => decide (0 < fallI ws wts hts z)] at h1
    exact q t H1 k1 ht h1
theorem sc_together : FnScope ["one", "other"] ["one", "other"] (defScope s_together) := ⟨rfl, rfl, rfl, by decide +kernel, rfl, by decide +kernel, by decide +kernel⟩
theorem ok_together (T : Txt mg) (D : Def K mg "together" s_together ["one", "other"]) (c_put_to : Cal P w K mg base "put_to" 1 ["numbers", "gains"] (spPut K)) : Cal P w K mg base "together" 2 ["one", "other"] spTogether := by
  refine D.cal fun f fd F => F.ok sc_together (fun vs H Q E h => ?_) (fun cdv A outer s H vs Q E hr h => ?_)
  · obtain ⟨ex, w1, h1, v1, w2, h2, v2, rfl, _⟩ := h
    rfl
  obtain ⟨ex, w1, h1, v1, w2, h2, v2, rfl, r1, r2, lw, lh, zw, zh, fr, q⟩ := h
  refine ⟨_, (@pss_one _ _ _ (@ps_ret _ _ _ _ (@PEs.out _ _ _ (pes_tup (pas_call (pes_of (pe_c c_put_to (hr.mono (by decide)) rfl (pa_sub (pe_ix ix_tup (pv 0) pe_int (fun _ _ => rfl)) (pa_sub (pe_ix ix_tup (pv 1) pe_int (fun _ _ => rfl)) pa_nil)))) (pas_call (pes_of (pe_c c_put_to (hr.mono (by decide)) rfl (pa_sub (pe_ix ix_tup (pv 0) pe_int (fun _ _ => rfl)) (pa_sub (pe_ix ix_tup (pv 1) pe_int (fun _ _ => rfl)) pa_nil)))) pas_nil)))))), ?_⟩
  have hs := sizeLine_eq
  obtain ⟨ta, ys, rfl, hta, _, _, rss⟩ := rep_tup r1
  obtain ⟨y1, y2, rfl, q1, q2⟩ := reps_2 rss
  obtain ⟨wa, wx, rfl, hwa, _, _, rw1⟩ := rep_tup q1
  obtain ⟨ha, hx, rfl, hha, _, _, rh1⟩ := rep_tup q2
  rw [Reps.ints_inv rw1] at hwa
  rw [Reps.ints_inv rh1] at hha
  obtain ⟨tb, zs, rfl, htb, _, _, rsz⟩ := rep_tup r2
  obtain ⟨z1, z2, rfl, p1, p2⟩ := reps_2 rsz
  obtain ⟨wb, wy, rfl, hwb, _, _, rw2⟩ := rep_tup p1
  obtain ⟨hb, hy, rfl, hhb, _, _, rh2⟩ := rep_tup p2
  rw [Reps.ints_inv rw2] at hwb
  rw [Reps.ints_inv rh2] at hhb
  refine ⟨_, rfl, ta, _, _, _, rfl, rfl, SqT.of hta, at20 _ _, _, rfl, tb, _, _, _, rfl, rfl, SqT.of htb, at20 _ _, wa, wb, w1, w2, rfl, SqT.of hwa, SqT.of hwb, lw, zw, fun t1 H1 k1 f1 e1 => ?_⟩
  have n1 : t1 ∉ ex := fr H t1 .refl f1
  refine ⟨_, rfl, ta, _, _, _, rfl, rfl, SqT.of (k1 _ _ hta (by simp)), at21 _ _, _, rfl, tb, _, _, _, rfl, rfl, SqT.of (k1 _ _ htb (by simp)), at21 _ _, ha, hb, h1, h2, rfl, SqT.of (k1 _ _ hha (by simp)), SqT.of (k1 _ _ hhb (by simp)), lh, zh, fun t2 H2 k2 f2 e2 => ?_⟩
  have n2 : t2 ∉ ex := (fr.kp k1) H1 t2 .refl f2
  refine ⟨small4 (Nat.le_of_ble_eq_true rfl), fun t3 e3 => q _ _ ((k1.trans k2).trans (Kp.new e3 _)) (Rep.newT (.cons ?_ (.cons ?_ .nil)) e3 ((fr.kp (k1.trans k2)) _ _ .refl e3) (small4 (Nat.le_of_ble_eq_true rfl)))⟩
  · exact Rep.tints (k2 _ _ e1 (by simp)) n1 (by rw [putI_len]; omega)
  · exact Rep.tints e2 n2 (by rw [putI_len]; omega)

theorem sc_law_fall : FnScope ["_law_book_here", "_law_total", "_law_k", "_law_a", "_law_b", "_law_gains_here", "_law_found", "_law_p"] ["_law_book_here", "_law_total", "_law_k"] (defScope s_law_fall) := ⟨rfl, rfl, rfl, by decide +kernel, rfl, by decide +kernel, by decide +kernel⟩
theorem ok_law_fall (T : Txt mg) (D : Def K mg "_law_fall" s_law_fall ["_law_book_here", "_law_total", "_law_k"]) : Cal P w K mg base "_law_fall" 1 ["_law_book_here", "_law_total", "_law_k"] spFall := by
  refine D.cal fun f fd F => F.ok sc_law_fall (fun vs H Q E h => ?_) (fun cdv A outer s H vs Q E hr h => ?_)
  · obtain ⟨ex, R, U, ws, bv, wts, hts, tv, k, rfl, _⟩ := h
    rfl
  obtain ⟨ex, R, U, ws, bv, wts, hts, tv, k, rfl, rb, ok, rt, so, ⟨k0, k1⟩, q⟩ := h
  refine ⟨_, (@pss_cons _ _ _ _ _ (ps_asg (pe_ix ix_tup (pe_ix ix_tup (pv 0) pe_int (fun _ _ => rfl)) (pv 2) (fun _ _ => rfl)) (pg_trio (K' := K) (i := 3) (j := 4) (m := 5) rfl sc_law_fall.nd ⟨rfl, (Or.inl rfl), (Or.inl rfl)⟩ ⟨rfl, (Or.inl rfl), (Or.inl rfl)⟩ ⟨rfl, (Or.inl rfl), (Or.inl rfl)⟩ rfl))
      (@pss_cons _ _ _ _ _ (ps_set (i := 6) sc_law_fall.nd rfl (Or.inl rfl) (pe_op op_sub (pe_ix ix_tup (pe_ix ix_tup (pv 1) pe_int (fun _ _ => rfl)) (pv 3) (fun _ _ => rfl)) (pe_ix ix_tup (pe_ix ix_tup (pv 1) pe_int (fun _ _ => rfl)) (pv 4) (fun _ _ => rfl))))
      (@pss_cons _ _ _ _ _ (ps_for PassesOwn.never rfl (pi_range1 rfl T.b_range (pa_sub (pe_ix ix_tup (pv 0) pe_int (fun _ _ => rfl)) pa_nil)) (pg_name (i := 7) sc_law_fall.nd rfl (Or.inl rfl) (Or.inl rfl))
      (@pss_one _ _ _ (ps_set (i := 6) sc_law_fall.nd rfl (Or.inl rfl) (pe_op op_sub (pv 6) (pe_op op_mulB (pe_ix ix_tup (pe_ix ix_tup (pv 1) pe_int (fun _ _ => rfl)) (pv 7) (fun _ _ => rfl)) (pe_ix ix_tup (pv 5) (pv 7) (fun _ _ => rfl)))))))
      (@pss_one _ _ _ (@ps_ret _ _ _ _ (pv 6)))))), ?_⟩
  obtain ⟨ta, ys, rfl, hta, _, _, rss⟩ := rep_tup rt
  obtain ⟨y1, y2, rfl, q1, q2⟩ := reps_2 rss
  obtain ⟨wa, wx, rfl, hwa, _, _, rw1⟩ := rep_tup q1
  obtain ⟨ha, hx, rfl, hha, _, _, rh1⟩ := rep_tup q2
  rw [Reps.ints_inv rw1] at hwa
  rw [Reps.ints_inv rh1] at hha
  obtain ⟨ba, va, vs, B⟩ := rep_book rb
  have eb := B.e
  subst eb
  obtain ⟨t1, g1, e1, ht1, hg1, _⟩ := way_at B.r k0 k1
  have wo := wayOk_at ok k0 k1
  have lw := so.lw
  have lh := so.lh
  have lg := wo.len
  have u0 := ok.p0
  have u1 := ok.p1
  refine seq_by (fun σ' H' => σ' = [some (.ref ba), some (.ref ta), some (.int k), some (.int (wayAt ws k).a), some (.int (wayAt ws k).b), some (.ref g1), none, none] ∧ H = H') (fun N hN => ⟨_, rfl, ba, _, _, _, rfl, rfl, SqT.of B.b, at2 _ _ _, _, rfl, va, _, _, _, rfl, rfl, SqT.of B.w, e1, t1, _, rfl, SqT.of ht1, rfl, _, _, rfl, _, _, rfl, _, _, rfl, rfl, hN _ _ ⟨rfl, rfl⟩⟩) ?_
  rintro _ _ ⟨rfl, rfl⟩
  refine seq_by (fun σ' H' => σ' = [some (.ref ba), some (.ref ta), some (.int k), some (.int (wayAt ws k).a), some (.int (wayAt ws k).b), some (.ref g1), some (.int (hts.getD (wayAt ws k).a.toNat 0 - hts.getD (wayAt ws k).b.toNat 0)), none] ∧ H = H') (fun N hN => ?_) ?_
  · exact ⟨_, rfl, ta, _, _, _, rfl, rfl, SqT.of hta, at21 _ _, _, rfl, ha, _, _, _, rfl, rfl, SqT.of hha, atI_int wo.a0 (by rw [lh]; exact wo.a1), _, rfl, ta, _, _, _, rfl, rfl, SqT.of hta, at21 _ _, _, rfl, ha, _, _, _, rfl, rfl, SqT.of hha, atI_int wo.b0 (by rw [lh]; exact wo.b1), _, _, rfl, rfl, hN _ _ ⟨rfl, rfl⟩⟩
  rintro _ _ ⟨rfl, rfl⟩
  refine seq_by (fun σ' H' => ∃ o, σ' = [some (.ref ba), some (.ref ta), some (.int k), some (.int (wayAt ws k).a), some (.int (wayAt ws k).b), some (.ref g1), some (.int (fallI ws wts hts k)), o] ∧ H = H') (fun N hN => ?_) ?_
  · refine ⟨_, rfl, ba, _, _, _, rfl, rfl, SqT.of B.b, at1 _ _ _, U, rfl, by omega, by omega, ?_⟩
    refine for_range (n := U.toNat) (fun i σ H' => ∃ o, σ = [some (.ref ba), some (.ref ta), some (.int k), some (.int (wayAt ws k).a), some (.int (wayAt ws k).b), some (.ref g1), some (.int (hts.getD (wayAt ws k).a.toNat 0 - hts.getD (wayAt ws k).b.toNat 0 - dotI wts (wayAt ws k).g i)), o] ∧ H = H') ⟨_, by rw [show dotI wts (wayAt ws k).g 0 = 0 from rfl, Int.sub_zero], rfl⟩ ?_ ?_
    · rintro i σ _ hi ⟨o, rfl, rfl⟩
      rw [show (0 : Int) + (i : Int) = i from Int.zero_add _]
      refine ⟨_, rfl, _, rfl, ta, _, _, _, rfl, rfl, SqT.of hta, at20 _ _, _, rfl, wa, _, _, _, rfl, rfl, SqT.of hwa, atI_int (r := (i : Int)) (by omega) (by omega), _, rfl, _, rfl, g1, _, _, _, rfl, rfl, SqT.of hg1, atI_int (r := (i : Int)) (by omega) (by omega), _, _, rfl, rfl, so.bw.mul wo.big i, _, _, rfl, rfl, some (.int i), ?_, rfl⟩
      rw [dotI_succ, ← Int.sub_sub]
      rfl
    · rintro σ _ ⟨o, rfl, rfl⟩
      refine hN _ _ ⟨o, ?_, rfl⟩
      unfold fallI
      rw [show wts.length = U.toNat by omega]
  rintro _ _ ⟨o, rfl, rfl⟩
  exact ⟨_, rfl, q H .refl⟩
theorem sc_law_worth : FnScope ["_law_total", "_law_stand_here", "_law_found", "_law_p"] ["_law_total", "_law_stand_here"] (defScope s_law_worth) := ⟨rfl, rfl, rfl, by decide +kernel, rfl, by decide +kernel, by decide +kernel⟩
theorem ok_law_worth (T : Txt mg) (D : Def K mg "_law_worth" s_law_worth ["_law_total", "_law_stand_here"]) : Cal P w K mg base "_law_worth" 1 ["_law_total", "_law_stand_here"] spWorth := by
  refine D.cal fun f fd F => F.ok sc_law_worth (fun vs H Q E h => ?_) (fun cdv A outer s H vs Q E hr h => ?_)
  · obtain ⟨ex, wts, hts, tv, r, ns, sv, rfl, _⟩ := h
    rfl
  obtain ⟨ex, wts, hts, tv, r, ns, sv, rfl, rt, rs, ⟨r0, r1⟩, hl, hz, bw, bn, q⟩ := h
  refine ⟨_, (@pss_cons _ _ _ _ _ (ps_set (i := 2) sc_law_worth.nd rfl (Or.inl rfl) (pe_ix ix_tup (pe_ix ix_tup (pv 0) pe_int (fun _ _ => rfl)) (pe_ix ix_tup (pv 1) pe_int (fun _ _ => rfl)) (fun _ _ => rfl)))
      (@pss_cons _ _ _ _ _ (ps_for PassesOwn.never rfl (pi_range1 rfl T.b_range (pa_call (pe_callB call_len_seq rfl T.b_len PySem.boot_len (pa_sub (pe_ix ix_tup (pv 0) pe_int (fun _ _ => rfl)) pa_nil)) pa_nil)) (pg_name (i := 3) sc_law_worth.nd rfl (Or.inl rfl) (Or.inl rfl))
      (@pss_one _ _ _ (ps_set (i := 2) sc_law_worth.nd rfl (Or.inl rfl) (pe_op op_add (pv 2) (pe_op op_mulB (pe_ix ix_tup (pe_ix ix_tup (pv 0) pe_int (fun _ _ => rfl)) (pv 3) (fun _ _ => rfl)) (pe_ix ix_tup (pe_ix ix_tup (pv 1) pe_int (fun _ _ => rfl)) (pv 3) (fun _ _ => rfl)))))))
      (@pss_one _ _ _ (@ps_ret _ _ _ _ (pv 2))))), ?_⟩
  obtain ⟨ta, ys, rfl, hta, _, _, rss⟩ := rep_tup rt
  obtain ⟨y1, y2, rfl, q1, q2⟩ := reps_2 rss
  obtain ⟨wa, ws, rfl, hwa, _, _, rw1⟩ := rep_tup q1
  obtain ⟨ha, hs, rfl, hha, _, _, rh1⟩ := rep_tup q2
  rw [Reps.ints_inv rw1] at hwa
  rw [Reps.ints_inv rh1] at hha
  obtain ⟨sa, zs, rfl, hsa, _, _, rsz⟩ := rep_tup rs
  obtain ⟨z1, z2, rfl, p1, p2⟩ := reps_2 rsz
  obtain ⟨na, ms, rfl, hna, _, _, rn1⟩ := rep_tup p2
  rw [Reps.ints_inv rn1] at hna
  rw [rep_int p1] at hsa
  have wl : ((wts.map V.int).length : Int) = wts.length := by rw [List.length_map]
  refine seq_by (fun σ' H' => σ' = [some (.ref ta), some (.ref sa), some (.int (hts.getD r.toNat 0)), none] ∧ H = H') (fun N hN => ?_) ?_
  · exact ⟨_, rfl, ta, _, _, _, rfl, rfl, SqT.of hta, at21 _ _, _, rfl, sa, _, _, _, rfl, rfl, SqT.of hsa, at20 _ _, ha, _, _, _, rfl, rfl, SqT.of hha, atI_int r0 r1, hN _ _ ⟨rfl, rfl⟩⟩
  rintro _ _ ⟨rfl, rfl⟩
  refine seq_by (fun σ' H' => ∃ o, σ' = [some (.ref ta), some (.ref sa), some (.int (worthI wts hts r ns)), o] ∧ H = H') (fun N hN => ?_) ?_
  · refine ⟨_, rfl, ta, _, _, _, rfl, rfl, SqT.of hta, at20 _ _, wa, _, rfl, .inr (SqT.of hwa), _, rfl, by omega, by omega, ?_⟩
    refine for_range (n := ((wts.map V.int).length : Int).toNat) (fun i σ H' => ∃ o, σ = [some (.ref ta), some (.ref sa), some (.int (hts.getD r.toNat 0 + dotI wts ns i)), o] ∧ H = H') ⟨_, by rw [show dotI wts ns 0 = 0 from rfl, Int.add_zero], rfl⟩ ?_ ?_
    · rintro i σ _ hi ⟨o, rfl, rfl⟩
      rw [show (0 : Int) + (i : Int) = i from Int.zero_add _]
      have hi : i < wts.length := by omega
      refine ⟨_, rfl, _, rfl, ta, _, _, _, rfl, rfl, SqT.of hta, at20 _ _, _, rfl, wa, _, _, _, rfl, rfl, SqT.of hwa, atI_int (r := (i : Int)) (by omega) (by omega), _, rfl, sa, _, _, _, rfl, rfl, SqT.of hsa, at21 _ _, _, rfl, na, _, _, _, rfl, rfl, SqT.of hna, atI_int (r := (i : Int)) (by omega) (by omega), _, _, rfl, rfl, bw.mul bn i, _, _, rfl, rfl, some (.int i), ?_, rfl⟩
      rw [dotI_succ, ← Int.add_assoc]
      rfl
    · rintro σ _ ⟨o, rfl, rfl⟩
      refine hN _ _ ⟨o, ?_, rfl⟩
      unfold worthI
      rw [show wts.length = ((wts.map V.int).length : Int).toNat by omega]
  rintro _ _ ⟨o, rfl, rfl⟩
  exact ⟨_, rfl, q H .refl⟩
theorem sc_law_kept : FnScope ["_law_book_here", "_law_total", "_law_some"] ["_law_book_here", "_law_total", "_law_some"] (defScope s_law_kept) := ⟨rfl, rfl, rfl, by decide +kernel, rfl, by decide +kernel, by decide +kernel⟩
theorem ok_law_kept (T : Txt mg) (D : Def K mg "_law_kept" s_law_kept ["_law_book_here", "_law_total", "_law_some"]) (c__law_fall : Cal P w K mg base "_law_fall" 1 ["_law_book_here", "_law_total", "_law_k"] spFall) : Cal P w K mg base "_law_kept" 2 ["_law_book_here", "_law_total", "_law_some"] (spKeptL K) := by
  refine D.cal fun f fd F => F.ok sc_law_kept (fun vs H Q E h => ?_) (fun cdv A outer s H vs Q E hr h => ?_)
  · obtain ⟨ex, R, U, ws, bv, wts, hts, tv, l, ns, rfl, _⟩ := h
    rfl
  obtain ⟨ex, R, U, ws, bv, wts, hts, tv, l, ns, rfl, rb, ok, rt, so, hq, hz, hin, q⟩ := h
  refine ⟨_, (@pss_one _ _ _ (@ps_ret _ _ _ _ (pe_cmpR (op_eqD hr.units) (pe_comp (sc := (defScope s_law_kept)) (N := ["_law_book_here", "_law_total", "_law_some"]) (N' := ["_law_k", "_law_book_here", "_law_total"]) (k := 1) (idx := [0, 1]) rfl (by exact ⟨rfl, by decide +kernel, by decide +kernel, by decide +kernel, by decide +kernel, by decide +kernel, rfl, rfl⟩) rfl rfl (pi_list (pv 2)) (fun _ _ _ _ => (pg_name (i := 0) (show (["_law_k", "_law_book_here", "_law_total"] : List Str).Nodup by decide +kernel) rfl (Or.inl rfl) (Or.inr rfl))) (fun _ _ _ _ => pts_one (pt_cmpR op_lt (pe_c c__law_fall (hr.mono (by decide)) rfl (pa_name (pv 1) (pa_name (pv 2) (pa_name (pv 0) pa_nil)))) pe_int (nomark _))) (fun _ _ _ _ => (pv 0))) (@PEs.out _ _ _ (pes_lst pas_nil)) (nomark _)))), ?_⟩
  have hs := sizeLine_eq
  refine ⟨_, rfl, l, rfl, ⟨_, hq⟩, fun t ht => ?_⟩
  refine comp1_listF (fun i => decide (fallI ws wts hts (ns.getD i 0) < 0)) (fun i => .int (ns.getD i 0)) hq (by rw [List.length_map]; omega) ht ?_ ?_ ?_
  · intro i x H1 N hx k1 hN
    rw [List.getElem?_map] at hx
    cases e : ns[i]? with
    | none => rw [e] at hx; cases hx
    | some z =>
      rw [e] at hx
      obtain rfl : V.int z = x := Option.some.inj hx
      have hi := hin z (List.mem_of_getElem? e)
      refine ⟨_, rfl, _, rfl, _, rfl, ex, R, U, ws, bv, wts, hts, tv, z, rfl, rb.keep k1.of, ok, rt.keep k1.of, so, hi, fun H2 k2 => ⟨_, _, rfl, rfl, _, rfl, ?_⟩⟩
      have := hN H2 k2
      rw [List.getD_eq_getElem?_getD, e] at this
      exact this
  · intro i x H1 N _ hx k1 hN
    rw [List.getElem?_map] at hx
    cases e : ns[i]? with
    | none => rw [e] at hx; cases hx
    | some z =>
      rw [e] at hx
      obtain rfl : V.int z = x := Option.some.inj hx
      have := hN H1 .refl
      rw [List.getD_eq_getElem?_getD, e] at this
      exact ⟨_, rfl, this⟩
  · intro H2 k2 hl2
    rw [List.length_map] at hl2
    have en := kept_eq ns (fallI ws wts hts)
    have fl : ((List.range ns.length).filter fun i => decide (fallI ws wts hts (ns.getD i 0) < 0)).length ≤ sizeLine := Nat.le_trans (List.length_filter_le _ _) (by rw [List.length_range]; omega)
    rw [show ((List.range ns.length).filter fun i => decide (fallI ws wts hts (ns.getD i 0) < 0)).map (fun i => V.int (ns.getD i 0)) = (((List.range ns.length).filter fun i => decide (fallI ws wts hts (ns.getD i 0) < 0)).map fun i => ns.getD i 0).map V.int by rw [List.map_map]; rfl] at hl2
    generalize ((List.range ns.length).filter fun i => decide (fallI ws wts hts (ns.getD i 0) < 0)) = fs at *
    refine ⟨(by decide), fun l2 h2 => ?_⟩
    have k3 : Kp [] H2 (upd H2 l2 (.lst [])) := Kp.new h2 _
    have := q _ (k2.trans k3)
    rw [← en] at this
    refine ⟨[], .list ((fs.map fun i => ns.getD i 0).map PyData.int), .list [], .list (k3 _ _ hl2 (by simp)) (by simp) (by simpa using fl) (Reps.ints _), .list upd_same (by simp) (by simp) .nil, canLay_ints _, rfl, Nat.le_trans (Nat.min_le_right _ _) (by decide), ?_⟩
    rw [eqv_nil]
    cases fs <;> exact this

theorem sc_law_some_sum : FnScope ["_law_tape_here", "_law_book_here", "_law_weights", "_law_p", "_law_great", "_law_some", "_law_heights", "_law_room"] ["_law_tape_here", "_law_book_here"] (defScope s_law_some_sum) := ⟨rfl, rfl, rfl, by decide +kernel, rfl, by decide +kernel, by decide +kernel⟩
theorem ok_law_some_sum (T : Txt mg) (D : Def K mg "_law_some_sum" s_law_some_sum ["_law_tape_here", "_law_book_here"]) (c__law_draw : Cal P w K mg base "_law_draw" 1 ["_law_tape_here", "_law_many"] spDraw) : Cal P w K mg base "_law_some_sum" 2 ["_law_tape_here", "_law_book_here"] spSomeSumG := by
  refine D.cal fun f fd F => F.ok sc_law_some_sum (fun vs H Q E h => ?_) (fun cdv A outer s H vs Q E hr h => ?_)
  · obtain ⟨p, c, x0, ox, n, R, U, ws, bv, rfl, _⟩ := h
    rfl
  obtain ⟨p, c, x0, ox, n, R, U, ws, bv, rfl, hx0, nx0, J, hn, rb, ⟨R0, R1⟩, ⟨U0, U1⟩, q⟩ := h
  refine ⟨_, (@pss_cons _ _ _ _ _ (@ps_setD _ _ 2 _ _ _ _ sc_law_some_sum.nd rfl (Or.inl rfl) (pes_lst pas_nil) rfl (Or.inl rfl))
      (@pss_cons _ _ _ _ _ (ps_for PassesOwn.never rfl (pi_range1 rfl T.b_range (pa_sub (pe_ix ix_tup (pv 1) pe_int (fun _ _ => rfl)) pa_nil)) (pg_name (i := 3) sc_law_some_sum.nd rfl (Or.inl rfl) (Or.inl rfl))
      (@pss_cons _ _ _ _ _ (ps_set (i := 4) sc_law_some_sum.nd rfl (Or.inl rfl) (pe_op op_sub (pe_op op_sub (pe_op op_mulB (pe_op op_pow pe_int pe_int) (pe_op op_pow pe_int pe_int)) pe_int) (pe_c c__law_draw (hr.mono (by decide)) rfl (pa_name (pv 0) (pa_binop (pe_op op_pow pe_int pe_int) pa_nil)))))
      (@pss_cons _ _ _ _ _ (@ps_setD _ _ 5 _ _ _ _ sc_law_some_sum.nd rfl (Or.inl rfl) (pes_lst (pas_const pes_int (pas_const pes_int (pas_call (pes_of (pe_c c__law_draw (hr.mono (by decide)) rfl (pa_name (pv 0) (pa_const pe_int pa_nil)))) (pas_name (pes_of (pv 4)) pas_nil))))) rfl (Or.inl rfl))
      (@pss_one _ _ _ (ps_expr (pe_bm PySem.F.plainAttrs_list PySem.F.slot_list_append PySem.F.type_list_append mt_append (pv 2) (pa_sub (pe_ix ix_list (pv 5) (pe_c c__law_draw (hr.mono (by decide)) rfl (pa_name (pv 0) (pa_const pe_int pa_nil))) (fun _ _ => rfl)) pa_nil)))))))
      (@pss_cons _ _ _ _ _ (@ps_setD _ _ 6 _ _ _ _ sc_law_some_sum.nd rfl (Or.inl rfl) (pes_lst pas_nil) rfl (Or.inl rfl))
      (@pss_cons _ _ _ _ _ (ps_for PassesOwn.never rfl (pi_range1 rfl T.b_range (pa_sub (pe_ix ix_tup (pv 1) pe_int (fun _ _ => rfl)) pa_nil)) (pg_name (i := 7) sc_law_some_sum.nd rfl (Or.inl rfl) (Or.inl rfl))
      (@pss_cons _ _ _ _ _ (@ps_setD _ _ 5 _ _ _ _ sc_law_some_sum.nd rfl (Or.inl rfl) (pes_lst (pas_binop (pes_of (pe_op op_sub (pe_c c__law_draw (hr.mono (by decide)) rfl (pa_name (pv 0) (pa_const pe_int pa_nil))) pe_int)) (pas_binop (pes_of (pe_op op_sub (pe_op op_mulB (pe_op op_pow pe_int pe_int) (pe_op op_pow pe_int pe_int)) (pe_c c__law_draw (hr.mono (by decide)) rfl (pa_name (pv 0) (pa_binop (pe_op op_pow pe_int pe_int) pa_nil))))) pas_nil))) rfl (Or.inl rfl))
      (@pss_one _ _ _ (ps_expr (pe_bm PySem.F.plainAttrs_list PySem.F.slot_list_append PySem.F.type_list_append mt_append (pv 6) (pa_sub (pe_ix ix_list (pv 5) (pe_op op_fdivB (pe_c c__law_draw (hr.mono (by decide)) rfl (pa_name (pv 0) (pa_const pe_int pa_nil))) pe_int) (fun _ _ => rfl)) pa_nil))))))
      (@pss_one _ _ _ (@ps_ret _ _ _ _ (@PEs.out _ _ _ (pes_tup (pas_call (pes_of (pe_callTy call_tuple_of rfl T.b_tuple boot_tuple (pa_name (pv 2) pa_nil))) (pas_call (pes_of (pe_callTy call_tuple_of rfl T.b_tuple boot_tuple (pa_name (pv 6) pa_nil))) pas_nil)))))))))), ?_⟩
  have hs : sizeLine = 16777216 := sizeLine_eq
  obtain ⟨ba, wa, vs, B⟩ := rep_book rb
  have eb := B.e
  subst eb
  refine seq_by (fun σ' H' => ∃ l : Addr, σ' = [some (.ref p), some (.ref ba), some (.ref l), none, none, none, none, none] ∧ H l = none ∧ H' = upd H l (.lst [])) (fun N hN => ⟨small4 (Nat.le_of_ble_eq_true rfl), fun l hl => hN _ _ ⟨l, rfl, hl, rfl⟩⟩) ?_
  rintro _ _ ⟨l, rfl, fl, rfl⟩
  have nl := J.fresh fl
  refine seq_by (fun σ' H' => ∃ (xs : List Int) (o3 o4 o5 : Option V), σ' = [some (.ref p), some (.ref ba), some (.ref l), o3, o4, o5, none, none] ∧ Tape H' p c (n + 18) ∧ Kp [p, c] H H' ∧ H' l = some (.lst (xs.map V.int)) ∧ (xs.length : Int) = U ∧ Big xs) (fun N hN => ?_) ?_
  · refine ⟨_, rfl, ba, _, _, _, rfl, rfl, SqT.of ((Kp.new (ex := []) fl _) _ _ B.b (by simp)), at1 _ _ _, U, rfl, by omega, by omega, ?_⟩
    refine for_range (n := U.toNat) (fun i σ H' => ∃ (xs : List Int) (o3 o4 o5 : Option V), σ = [some (.ref p), some (.ref ba), some (.ref l), o3, o4, o5, none, none] ∧ Tape H' p c (n + 3 * i) ∧ Kp [p, c] H H' ∧ H' l = some (.lst (xs.map V.int)) ∧ xs.length = i ∧ Big xs) ⟨[], _, _, _, rfl, J.new fl, Kp.new fl _, upd_same, rfl, fun x hx => by cases hx⟩ ?_ (fun σ H' ⟨xs, o3, o4, o5, e, J', k', h', z', x'⟩ => hN _ _ ⟨xs, o3, o4, o5, e, J'.mono (by omega), k', h', by omega, x'⟩)
    rintro i σ H3 hi ⟨xs, o3, o4, o5, rfl, J3, k3, hl3, hlen, hx⟩
    refine seq_by (fun σ' H' => ∃ g : Int, σ' = [some (.ref p), some (.ref ba), some (.ref l), some (.int (0 + (i : Int))), some (.int g), o5, none, none] ∧ Tape H' p c (n + 3 * i + 1) ∧ Kp [p, c] H3 H' ∧ g.natAbs < 10 ^ 99) (fun N hN => ?_) ?_
    · exact ⟨_, _, rfl, rfl, ⟨by decide, by decide, by decide⟩, _, _, rfl, rfl, ⟨by decide, by decide, by decide⟩, _, _, rfl, rfl, mulOk_of (by decide +kernel) (by decide +kernel), _, _, rfl, rfl, _, rfl, _, _, rfl, rfl, ⟨by decide, by decide, by decide⟩, p, c, _, _, rfl, J3, by omega, by decide +kernel, by decide +kernel, fun r H4 r0 r1 J4 k4 => ⟨_, _, rfl, rfl, hN _ _ ⟨_, rfl, J4, k4, great_w r0 r1⟩⟩⟩
    rintro _ H4 ⟨g, rfl, J4, k4, gb⟩
    refine seq_by (fun σ' H' => ∃ (m : Addr) (x : Int), σ' = [some (.ref p), some (.ref ba), some (.ref l), some (.int (0 + (i : Int))), some (.int g), some (.ref m), none, none] ∧ Tape H' p c (n + 3 * i + 2) ∧ Kp [p, c] H4 H' ∧ m ∉ [p, c] ∧ H' m = some (.lst ([0, 1, x, g].map V.int)) ∧ x.natAbs < 10 ^ 99) (fun N hN => ?_) ?_
    · exact ⟨_, rfl, p, c, _, 100, rfl, J4, by omega, by decide, by decide +kernel, fun x H5 x0 x1 J5 k5 => ⟨_, rfl, small4 (Nat.le_of_ble_eq_true rfl), fun m hm => hN _ _ ⟨m, x, rfl, J5.new hm, k5.trans (Kp.new hm _), J5.fresh hm, upd_same, small99 (by omega)⟩⟩⟩
    rintro _ H5 ⟨m, x, rfl, J5, k5, nm, hm5, xb⟩
    have hl5 := k5 _ _ (k4 _ _ hl3 nl) nl
    refine ⟨_, rfl, .inl ⟨rfl, _, SqL.of hl5⟩, _, rfl, _, rfl, p, c, _, 4, rfl, J5, by omega, by decide, by decide +kernel, fun r H6 r0 r1 J6 k6 => ?_⟩
    obtain ⟨y, hy, yb⟩ := at_P (P := fun n => n.natAbs < 10 ^ 99) [0, 1, x, g] (by
      intro z hz
      rcases List.mem_cons.mp hz with rfl | hz
      · decide
      rcases List.mem_cons.mp hz with rfl | hz
      · decide +kernel
      rcases List.mem_cons.mp hz with rfl | hz
      · exact xb
      · rw [List.mem_singleton.mp hz]; exact gb) r0 r1
    refine ⟨m, _, _, _, rfl, rfl, SqL.of (k6 _ _ hm5 nm), hy, l, _, _, rfl, rfl, k6 _ _ hl5 nl, by rw [List.length_map]; omega, ?_⟩
    refine ⟨xs ++ [y], _, _, _, rfl, (J6.upd nl).mono (by omega), Kp.late (k3.trans (k4.trans (k5.trans k6))) fl _, by rw [upd_same, List.map_append]; rfl, by simp [hlen], ?_⟩
    intro z hz
    rcases List.mem_append.mp hz with hz | hz
    · exact hx z hz
    · rw [List.mem_singleton.mp hz]; exact yb
  rintro _ H1 ⟨xs, o3, o4, o5, rfl, J1, k1, hl1, xl, xb⟩
  have B1 := B.keep k1
  refine seq_by (fun σ' H' => ∃ l2 : Addr, σ' = [some (.ref p), some (.ref ba), some (.ref l), o3, o4, o5, some (.ref l2), none] ∧ H1 l2 = none ∧ H' = upd H1 l2 (.lst [])) (fun N hN => ⟨small4 (Nat.le_of_ble_eq_true rfl), fun l hl => hN _ _ ⟨l, rfl, hl, rfl⟩⟩) ?_
  rintro _ _ ⟨l2, rfl, fl2, rfl⟩
  have nl2 := J1.fresh fl2
  refine seq_by (fun σ' H' => ∃ (ys : List Int) (o5 o7 : Option V), σ' = [some (.ref p), some (.ref ba), some (.ref l), o3, o4, o5, some (.ref l2), o7] ∧ Tape H' p c (n + 54) ∧ Kp [p, c] H1 H' ∧ H' l2 = some (.lst (ys.map V.int)) ∧ (ys.length : Int) = R ∧ Big ys) (fun N hN => ?_) ?_
  · refine ⟨_, rfl, ba, _, _, _, rfl, rfl, SqT.of ((Kp.new (ex := []) fl2 _) _ _ B1.b (by simp)), at0 _ _ _, R, rfl, by omega, by omega, ?_⟩
    refine for_range (n := R.toNat) (fun i σ H' => ∃ (ys : List Int) (o5 o7 : Option V), σ = [some (.ref p), some (.ref ba), some (.ref l), o3, o4, o5, some (.ref l2), o7] ∧ Tape H' p c (n + 18 + 3 * i) ∧ Kp [p, c] H1 H' ∧ H' l2 = some (.lst (ys.map V.int)) ∧ ys.length = i ∧ Big ys) ⟨[], _, _, rfl, J1.new fl2, Kp.new fl2 _, upd_same, rfl, fun x hx => by cases hx⟩ ?_ (fun σ H' ⟨xs, o5, o7, e, J', k', h', z', x'⟩ => hN _ _ ⟨xs, o5, o7, e, J'.mono (by omega), k', h', by omega, x'⟩)
    clear o5
    rintro i σ H3 hi ⟨ys, o5, o7, rfl, J3, k3, hl3, hlen, hx⟩
    refine seq_by (fun σ' H' => ∃ (m : Addr) (x g : Int), σ' = [some (.ref p), some (.ref ba), some (.ref l), o3, o4, some (.ref m), some (.ref l2), some (.int (0 + (i : Int)))] ∧ Tape H' p c (n + 18 + 3 * i + 2) ∧ Kp [p, c] H3 H' ∧ m ∉ [p, c] ∧ H' m = some (.lst ([x, g].map V.int)) ∧ x.natAbs < 10 ^ 99 ∧ g.natAbs < 10 ^ 99) (fun N hN => ?_) ?_
    · exact ⟨_, rfl, p, c, _, 7, rfl, J3, by omega, by decide, by decide +kernel, fun x H5 x0 x1 J5 k5 => ⟨_, _, rfl, rfl, _, _, rfl, rfl, ⟨by decide, by decide, by decide⟩, _, _, rfl, rfl, ⟨by decide, by decide, by decide⟩, _, _, rfl, rfl, mulOk_of (by decide +kernel) (by decide +kernel), _, rfl, _, _, rfl, rfl, ⟨by decide, by decide, by decide⟩, p, c, _, _, rfl, J5, by omega, by decide +kernel, by decide +kernel, fun r H6 r0 r1 J6 k6 => ⟨_, _, rfl, rfl, small4 (Nat.le_of_ble_eq_true rfl), fun m hm => hN _ _ ⟨m, x - 3, _, rfl, J6.new hm, k5.trans (k6.trans (Kp.new hm _)), J6.fresh hm, upd_same, small99 (by omega), great_h r0 r1⟩⟩⟩⟩
    rintro _ H5 ⟨m, x, g, rfl, J5, k5, nm, hm5, xb', gb⟩
    have hl5 := k5 _ _ hl3 nl2
    refine ⟨_, rfl, .inl ⟨rfl, _, SqL.of hl5⟩, _, rfl, _, rfl, p, c, _, 4, rfl, J5, by omega, by decide, by decide +kernel, fun r H6 r0 r1 J6 k6 => ⟨_, _, rfl, rfl, cdivB_of (by decide) (by decide +kernel), ?_⟩⟩
    obtain ⟨y, hy, yb⟩ := at_P (P := fun n => n.natAbs < 10 ^ 99) [x, g] (i := r / 3) (by
      intro z hz
      rcases List.mem_cons.mp hz with rfl | hz
      · exact xb'
      · rw [List.mem_singleton.mp hz]; exact gb) (by omega) (by show r / 3 < 2; omega)
    refine ⟨m, _, _, _, rfl, rfl, SqL.of (k6 _ _ hm5 nm), hy, l2, _, _, rfl, rfl, k6 _ _ hl5 nl2, by rw [List.length_map]; omega, ?_⟩
    refine ⟨ys ++ [y], _, _, rfl, (J6.upd nl2).mono (by omega), Kp.late (k3.trans (k5.trans k6)) fl2 _, by rw [upd_same, List.map_append]; rfl, by simp [hlen], ?_⟩
    intro z hz
    rcases List.mem_append.mp hz with hz | hz
    · exact hx z hz
    · rw [List.mem_singleton.mp hz]; exact yb
  clear o5
  rintro _ H2 ⟨ys, o5, o7, rfl, J2, k2, hm2, yl, yb⟩
  have hl2 := k2 _ _ hl1 nl
  refine ⟨_, rfl, l, _, rfl, .inl ⟨SqL.of hl2, fun t1 h1 => ?_⟩⟩
  have J3 := J2.new h1 (o := .tup (xs.map V.int))
  have x2 := (k1.trans k2) _ _ hx0 nx0
  have x3 := (Kp.new (ex := []) h1 (.tup (xs.map V.int))) _ _ x2 (by simp)
  refine ⟨_, rfl, l2, _, rfl, .inl ⟨SqL.of (Kp.new (ex := []) h1 _ _ _ hm2 (by simp)), fun t2 h2 => ⟨small4 (Nat.le_of_ble_eq_true rfl), fun t3 h3 => ?_⟩⟩⟩
  have J4 := J3.new h2 (o := .tup (ys.map V.int))
  have x4 := (Kp.new (ex := []) h2 (.tup (ys.map V.int))) _ _ x3 (by simp)
  have r1 := Rep.newT (ex := [p, c, x0]) (Reps.ints xs) h1 (J2.not_mem3 x2 h1) (by rw [List.length_map]; omega)
  have r2 := Rep.newT (ex := [p, c, x0]) (Reps.ints ys) h2 (J3.not_mem3 x3 h2) (by rw [List.length_map]; omega)
  exact q _ xs ys _ ⟨xl, yl, xb, yb⟩ ((J4.new h3).mono (by omega)) (k1.trans (k2.trans ((Kp.new h1 _).trans ((Kp.new h2 _).trans (Kp.new h3 _))))) (Rep.newT (.cons (r1.keep (Kp.new h2 _)) (.cons r2 .nil)) h3 (J4.not_mem3 x4 h3) (small4 (Nat.le_of_ble_eq_true rfl)))
theorem sc_law_some_ways : FnScope ["_law_tape_here", "_law_book_here", "_law_all", "_law_way"] ["_law_tape_here", "_law_book_here"] (defScope s_law_some_ways) := ⟨rfl, rfl, rfl, by decide +kernel, rfl, by decide +kernel, by decide +kernel⟩
theorem ok_law_some_ways (T : Txt mg) (D : Def K mg "_law_some_ways" s_law_some_ways ["_law_tape_here", "_law_book_here"]) (c__law_draw : Cal P w K mg base "_law_draw" 1 ["_law_tape_here", "_law_many"] spDraw) : Cal P w K mg base "_law_some_ways" 2 ["_law_tape_here", "_law_book_here"] spSomeWays := by
  refine D.cal fun f fd F => F.ok sc_law_some_ways (fun vs H Q E h => ?_) (fun cdv A outer s H vs Q E hr h => ?_)
  · obtain ⟨p, c, n, R, U, ws, bv, rfl, _⟩ := h
    rfl
  obtain ⟨p, c, n, R, U, ws, bv, rfl, J, hn, rb, ok, q⟩ := h
  refine ⟨_, (@pss_cons _ _ _ _ _ (ps_set (i := 2) sc_law_some_ways.nd rfl (Or.inl rfl) (pe_listRange rfl rfl T.b_list rfl T.b_range (pa_call (pe_callB call_len_seq rfl T.b_len PySem.boot_len (pa_sub (pe_ix ix_tup (pv 1) pe_int (fun _ _ => rfl)) pa_nil)) pa_nil)))
      (@pss_cons _ _ _ _ _ (ps_set (i := 3) sc_law_some_ways.nd rfl (Or.inr rfl) (pe_c c__law_draw (hr.mono (by decide)) rfl (pa_name (pv 0) (pa_const pe_int pa_nil))))
      (@pss_cons _ _ _ _ _ (ps_if (pt_cmpR op_eq (pv 3) pe_int (nomark _)) (@pss_one _ _ _ (@ps_ret _ _ _ _ (pe_ix ix_list (@PEs.out _ _ _ (pes_lst (pas_name (pes_of (pv 2)) (pas_list (pes_lst pas_nil) pas_nil)))) (pe_c c__law_draw (hr.mono (by decide)) rfl (pa_name (pv 0) (pa_const pe_int pa_nil))) (fun _ _ => rfl)))) pss_nil)
      (@pss_one _ _ _ (@ps_ret _ _ _ _ (pe_comp (sc := (defScope s_law_some_ways)) (N := ["_law_tape_here", "_law_book_here", "_law_all", "_law_way"]) (N' := ["_law_k", "_law_tape_here", "_law_way"]) (k := 1) (idx := [0, 3]) rfl (by exact ⟨rfl, by decide +kernel, by decide +kernel, by decide +kernel, by decide +kernel, by decide +kernel, rfl, rfl⟩) rfl rfl (pi_list (pv 2)) (fun _ _ _ _ => (pg_name (i := 0) (show (["_law_k", "_law_tape_here", "_law_way"] : List Str).Nodup by decide +kernel) rfl (Or.inl rfl) (Or.inr rfl))) (fun _ _ _ _ => pts_one (pt_cmpR op_eq (pe_c c__law_draw (hr.mono (by decide)) rfl (pa_name (pv 1) (pa_binop (pe_op op_add pe_int (pv 2)) pa_nil))) pe_int (nomark _))) (fun _ _ _ _ => (pv 0)))))))), ?_⟩
  have hs : sizeLine = 16777216 := sizeLine_eq
  obtain ⟨ba, wa, vs, B⟩ := rep_book rb
  have eb := B.e
  subst eb
  have vl := B.len
  have wl := ok.len
  let as : List Int := (List.range ws.length).map fun (i : Nat) => (i : Int)
  have ea : rngV ws.length = as.map V.int := by show _ = ((List.range ws.length).map fun (i : Nat) => (i : Int)).map V.int; rw [List.map_map]; rfl
  have la : as.length = ws.length := by simp [as]
  have ia : InW ws as := fun k hk => by
    obtain ⟨i, hi, rfl⟩ := List.mem_map.mp hk
    have := List.mem_range.mp hi
    omega
  refine seq_by (fun σ' H' => ∃ l : Addr, σ' = [some (.ref p), some (.ref ba), some (.ref l), none] ∧ H l = none ∧ Tape H' p c n ∧ Kp [] H H' ∧ H' l = some (.lst (as.map V.int))) (fun N hN => ?_) ?_
  · refine ⟨_, rfl, ba, _, _, _, rfl, rfl, SqT.of B.b, at2 _ _ _, wa, _, rfl, .inr (SqT.of B.w), _, rfl, by omega, by omega, fun l hl => hN _ _ ⟨l, rfl, hl, J.new hl, Kp.new hl _, ?_⟩⟩
    rw [upd_same, Int.toNat_natCast, vl, ea]
  rintro _ H1 ⟨l, rfl, fl, J1, k1, hl1⟩
  have nl := J.fresh fl
  generalize as = as at *
  refine seq_by (fun σ' H' => ∃ wy : Int, σ' = [some (.ref p), some (.ref ba), some (.ref l), some (.int wy)] ∧ Tape H' p c (n + 1) ∧ Kp [p, c] H1 H' ∧ (0 ≤ wy ∧ wy < 4)) (fun N hN => ⟨_, rfl, p, c, _, 4, rfl, J1, by omega, by decide, by decide +kernel, fun wy H2 w0 w1 J2 k2 => hN _ _ ⟨wy, rfl, J2, k2, w0, w1⟩⟩) ?_
  rintro _ H2 ⟨wy, rfl, J2, k2, w0, w1⟩
  have hl2 := k2 _ _ hl1 nl
  have k02 : Kp [p, c] H H2 := k1.of.trans k2
  refine seq_by (fun σ' H' => σ' = [some (.ref p), some (.ref ba), some (.ref l), some (.int wy)] ∧ H2 = H') (fun N hN => ?_) ?_
  · refine ⟨_, rfl, rfl, _, rfl, ite_b (fun cc => ?_) (fun cc => hN _ _ ⟨rfl, rfl⟩)⟩
    refine ⟨_, rfl, small4 (Nat.le_of_ble_eq_true rfl), fun e1 he1 => ⟨small4 (Nat.le_of_ble_eq_true rfl), fun e2 he2 => ?_⟩⟩
    have kk := (Kp.new (ex := []) he1 (.lst [])).trans (Kp.new (ex := []) he2 (.lst [.ref l, .ref e1]))
    refine ⟨_, rfl, p, c, _, 2, rfl, J2.keep kk, by omega, by decide, by decide +kernel, fun r H3 r0 r1 J3 k3 => ?_⟩
    have n1 := J2.fresh he1
    have n2 := (J2.new he1 (o := .lst [])).fresh he2
    have k23 : Kp [p, c] H2 H3 := kk.of.trans k3
    obtain rfl | rfl : r = 0 ∨ r = 1 := by omega
    · exact ⟨e2, _, _, _, rfl, rfl, SqL.of (k3 _ _ upd_same n2), at20 _ _, q l as H3 (J3.mono (by omega)) (k02.trans k23) fl nl (k23 _ _ hl2 nl) ia (by omega)⟩
    · refine ⟨e2, _, _, _, rfl, rfl, SqL.of (k3 _ _ upd_same n2), at21 _ _, q e1 [] H3 (J3.mono (by omega)) (k02.trans k23) (kp_freeT k02 J2 he1) n1 (k3 _ _ ((Kp.new (ex := []) he2 _) _ _ upd_same (by simp)) n1) (fun k hk => by cases hk) (by simp)⟩
  rintro _ _ ⟨rfl, rfl⟩
  refine ⟨_, rfl, l, rfl, ⟨_, SqL.of hl2⟩, fun t ht => ?_⟩
  have nt := J2.fresh ht
  have elt : t ≠ l := fun z => by rw [z, hl2] at ht; cases ht
  refine comp1_listP (K := K) (xs := as.map V.int) (fun j zs H' => Tape H' p c (n + 1 + j) ∧ Kp [p, c] H2 H' ∧ ∃ ns : List Int, zs = ns.map V.int ∧ ns.length ≤ j ∧ InW ws ns) ⟨J2.new ht, Kp.new ht _, [], rfl, by simp, fun k hk => by cases hk⟩ upd_same (fun i ys H' ⟨_, k', _⟩ => SqL.of (k' _ _ hl2 nl)) ?_ ?_
  · rintro i x H3 zs hi hx ⟨J3, k3, ns, rfl, nlen, hin⟩ hl3
    rw [List.length_map] at hi
    rw [List.getElem?_map, List.getElem?_eq_getElem hi] at hx
    obtain rfl : V.int as[i] = x := Option.some.inj hx
    refine ⟨_, rfl, _, rfl, _, _, rfl, rfl, p, c, _, _, rfl, J3, by omega, by omega, small9000 (by omega), fun r H4 r0 r1 J4 k4 => ⟨rfl, _, rfl, ?_⟩⟩
    refine ite_b (fun cc => ?_) (fun cc => ?_)
    · refine ⟨_, rfl, CNext.intro (by rw [List.length_map]; exact hi) (k4 _ _ hl3 nt) (by rw [List.length_map]; omega) ⟨J4.upd nt, Kp.late (k3.trans k4) ht _, ns ++ [as[i]], by simp, by simp; omega, fun k hk => ?_⟩⟩
      rcases List.mem_append.mp hk with hk | hk
      · exact hin k hk
      · rw [List.mem_singleton.mp hk]; exact ia _ (List.getElem_mem hi)
    · exact CSkip.intro (by rw [List.length_map]; exact hi) (k4 _ _ hl3 nt) ⟨J4, k3.trans k4, ns, rfl, by omega, hin⟩
  · rintro H3 zs ⟨J3, k3, ns, rfl, nlen, hin⟩ hl3
    rw [List.length_map] at nlen J3
    exact q t ns H3 (J3.mono (by omega)) (k02.trans k3) (kp_freeT k02 J2 ht) nt hl3 hin (by omega)

theorem sc_law : FnScope ["_law_script", "_law_tape_here", "_law_book_here", "_law_sums", "_law_total", "_law_k", "_law_numbers", "_law_stand_here", "_law_turn", "_law_some", "_law_handed", "_law_found", "_law_due", "_law_other", "_law_nines", "_law_great"] ["_law_script"] (defScope s_law) := ⟨rfl, rfl, rfl, by decide +kernel, rfl, by decide +kernel, by decide +kernel⟩
theorem ok_law {f : Addr} {fd : FuncData} (T : Txt mg) (F : Fun K "law" "law" s_law f fd) (c__law_tape : Cal P w K mg base "_law_tape" 1 ["_law_script"] (spTape K)) (c__law_book : Cal P w K mg base "_law_book" 5 ["_law_tape_here", "_law_most"] spBookT) (c__law_some_sum : Cal P w K mg base "_law_some_sum" 2 ["_law_tape_here", "_law_book_here"] spSomeSumG)
    (c__law_draw : Cal P w K mg base "_law_draw" 1 ["_law_tape_here", "_law_many"] spDraw) (c_worth : Cal P w K mg base "worth" 2 ["tally", "stand"] spWorth) (c__law_worth : Cal P w K mg base "_law_worth" 1 ["_law_total", "_law_stand_here"] spWorth) (c_fall : Cal P w K mg base "fall" 2 ["book", "tally", "k"] spFall) (c__law_fall : Cal P w K mg base "_law_fall" 1 ["_law_book_here", "_law_total", "_law_k"] spFall)
    (c__law_some_ways : Cal P w K mg base "_law_some_ways" 2 ["_law_tape_here", "_law_book_here"] spSomeWays) (c_is_kept : Cal P w K mg base "is_kept" 3 ["book", "tally", "some"] (spKeptL K)) (c__law_kept : Cal P w K mg base "_law_kept" 2 ["_law_book_here", "_law_total", "_law_some"] (spKeptL K)) (c_falling : Cal P w K mg base "falling" 3 ["book", "tally", "some"] (spFalling K)) (c_together : Cal P w K mg base "together" 2 ["one", "other"] spTogether)
    (c_is_sum : Cal P w K mg base "is_sum" 3 ["book", "thing"] spIsSum) : FnOk P w K mg base CX0 6 f fd ["_law_script"] (spLaw K) := by
  refine F.ok sc_law (fun vs H Q E h => ?_) (fun cdv A outer s H vs Q E hr h => ?_)
  · obtain ⟨a, ns, rfl, _⟩ := h
    rfl
  obtain ⟨a, ns, rfl, hS, hlen, q⟩ := h
  refine ⟨_, (@pss_cons _ _ _ _ _ (ps_set (i := 1) sc_law.nd rfl (Or.inr rfl) (pe_c c__law_tape (hr.mono (by decide)) rfl (pa_name (pv 0) pa_nil)))
      (@pss_cons _ _ _ _ _ (ps_set (i := 2) sc_law.nd rfl (Or.inr rfl) (pe_c c__law_book (hr.mono (by decide)) rfl (pa_name (pv 1) (pa_tuple (@PEs.out _ _ _ (pes_tup (pas_const pes_int (pas_const pes_int (pas_const pes_int pas_nil))))) pa_nil))))
      (@pss_cons _ _ _ _ _ (ps_setcomp (i := 3) (sc := (defScope s_law)) (N := ["_law_script", "_law_tape_here", "_law_book_here", "_law_sums", "_law_total", "_law_k", "_law_numbers", "_law_stand_here", "_law_turn", "_law_some", "_law_handed", "_law_found", "_law_due", "_law_other", "_law_nines", "_law_great"]) (N' := ["_law_k", "_law_tape_here", "_law_book_here"]) (k := 1) (idx := [1, 2]) rfl sc_law.nd rfl rfl (by exact ⟨rfl, by decide +kernel, by decide +kernel, by decide +kernel, by decide +kernel, by decide +kernel, rfl, rfl⟩) rfl rfl (pi_range1 rfl T.b_range (pa_const pe_int pa_nil)) (fun _ _ _ _ => (pg_name (i := 0) (show (["_law_k", "_law_tape_here", "_law_book_here"] : List Str).Nodup by decide +kernel) rfl (Or.inl rfl) (Or.inr rfl))) (fun _ _ _ _ => pts_nil) (fun _ _ _ _ => (pe_c c__law_some_sum (hr.mono (by decide)) rfl (pa_name (pv 1) (pa_name (pv 2) pa_nil)))))
      (@pss_cons _ _ _ _ _ (ps_for PassesOwn.never rfl (pi_list (pv 3)) (pg_name (i := 4) sc_law.nd rfl (Or.inr rfl) (Or.inl rfl))
      (@pss_cons _ _ _ _ _ (ps_for PassesOwn.never rfl (pi_range1 rfl T.b_range (pa_const pe_int pa_nil)) (pg_name (i := 5) sc_law.nd rfl (Or.inl rfl) (Or.inl rfl))
      (@pss_cons _ _ _ _ _ (ps_set (i := 6) sc_law.nd rfl (Or.inl rfl) (pe_callTy call_tuple_of rfl T.b_tuple boot_tuple (pa_comp (pe_comp (sc := (defScope s_law)) (N := ["_law_script", "_law_tape_here", "_law_book_here", "_law_sums", "_law_total", "_law_k", "_law_numbers", "_law_stand_here", "_law_turn", "_law_some", "_law_handed", "_law_found", "_law_due", "_law_other", "_law_nines", "_law_great"]) (N' := ["_law_p", "_law_tape_here"]) (k := 1) (idx := [1]) rfl (by exact ⟨rfl, by decide +kernel, by decide +kernel, by decide +kernel, by decide +kernel, by decide +kernel, rfl, rfl⟩) rfl rfl (pi_range1 rfl T.b_range (pa_sub (pe_ix ix_tup (pv 2) pe_int (fun _ _ => rfl)) pa_nil)) (fun _ _ _ _ => (pg_name (i := 0) (show (["_law_p", "_law_tape_here"] : List Str).Nodup by decide +kernel) rfl (Or.inl rfl) (Or.inr rfl))) (fun _ _ _ _ => pts_nil) (fun _ _ _ _ => (pe_ix (ix_listK (K' := K) rfl) (@PEs.out _ _ _ (pes_lst (pas_const pes_int (pas_call (pes_of (pe_c c__law_draw (hr.mono (by decide)) rfl (pa_name (pv 1) (pa_const pe_int pa_nil)))) (pas_call (pes_of (pe_c c__law_draw (hr.mono (by decide)) rfl (pa_name (pv 1) (pa_binop (pe_op op_pow pe_int pe_int) pa_nil)))) pas_nil))))) (pe_c c__law_draw (hr.mono (by decide)) rfl (pa_name (pv 1) (pa_const pe_int pa_nil))) (fun _ _ => rfl)))) pa_nil)))
      (@pss_cons _ _ _ _ _ (@ps_setD _ _ 7 _ _ _ _ sc_law.nd rfl (Or.inl rfl) (pes_tup (pas_call (pes_of (pe_c c__law_draw (hr.mono (by decide)) rfl (pa_name (pv 1) (pa_sub (pe_ix ix_tup (pv 2) pe_int (fun _ _ => rfl)) pa_nil)))) (pas_name (pes_of (pv 6)) pas_nil))) rfl (Or.inl rfl))
      (@pss_one _ _ _ (ps_if (pt_cmpR op_ne (pe_callB (call_repr hr.gd hr.units) rfl T.b_repr boot_repr (pa_call (pe_c c_worth (hr.mono (by decide)) rfl (pa_name (pv 4) (pa_name (pv 7) pa_nil))) pa_nil)) (pe_callB (call_repr hr.gd hr.units) rfl T.b_repr boot_repr (pa_call (pe_c c__law_worth (hr.mono (by decide)) rfl (pa_name (pv 4) (pa_name (pv 7) pa_nil))) pa_nil)) (nomark _)) (@pss_one _ _ _ (@ps_ret _ _ _ _ pe_bl)) pss_nil)))))
      (@pss_cons _ _ _ _ _ (ps_for PassesOwn.never rfl (pi_range1 rfl T.b_range (pa_call (pe_callB call_len_seq rfl T.b_len PySem.boot_len (pa_sub (pe_ix ix_tup (pv 2) pe_int (fun _ _ => rfl)) pa_nil)) pa_nil)) (pg_name (i := 5) sc_law.nd rfl (Or.inl rfl) (Or.inl rfl))
      (@pss_one _ _ _ (ps_if (pt_cmpR op_ne (pe_callB (call_repr hr.gd hr.units) rfl T.b_repr boot_repr (pa_call (pe_c c_fall (hr.mono (by decide)) rfl (pa_name (pv 2) (pa_name (pv 4) (pa_name (pv 5) pa_nil)))) pa_nil)) (pe_callB (call_repr hr.gd hr.units) rfl T.b_repr boot_repr (pa_call (pe_c c__law_fall (hr.mono (by decide)) rfl (pa_name (pv 2) (pa_name (pv 4) (pa_name (pv 5) pa_nil)))) pa_nil)) (nomark _)) (@pss_one _ _ _ (@ps_ret _ _ _ _ pe_bl)) pss_nil)))
      (@pss_cons _ _ _ _ _ (ps_for PassesOwn.never rfl (pi_range1 rfl T.b_range (pa_const pe_int pa_nil)) (pg_name (i := 8) sc_law.nd rfl (Or.inl rfl) (Or.inl rfl))
      (@pss_cons _ _ _ _ _ (ps_set (i := 9) sc_law.nd rfl (Or.inl rfl) (pe_c c__law_some_ways (hr.mono (by decide)) rfl (pa_name (pv 1) (pa_name (pv 2) pa_nil))))
      (@pss_cons _ _ _ _ _ (ps_set (i := 10) sc_law.nd rfl (Or.inl rfl) (pe_callTy call_list_of rfl T.b_list boot_list (pa_name (pv 9) pa_nil)))
      (@pss_cons _ _ _ _ _ (ps_set (i := 11) sc_law.nd rfl (Or.inl rfl) (pe_c c_is_kept (hr.mono (by decide)) rfl (pa_name (pv 2) (pa_name (pv 4) (pa_name (pv 10) pa_nil)))))
      (@pss_cons _ _ _ _ _ (ps_if (pt_cmpR op_ne (pe_callB (call_repr hr.gd hr.units) rfl T.b_repr boot_repr (pa_name (pv 11) pa_nil)) (pe_callB (call_repr hr.gd hr.units) rfl T.b_repr boot_repr (pa_call (pe_c c__law_kept (hr.mono (by decide)) rfl (pa_name (pv 2) (pa_name (pv 4) (pa_name (pv 9) pa_nil)))) pa_nil)) (nomark _)) (@pss_one _ _ _ (@ps_ret _ _ _ _ pe_bl)) pss_nil)
      (@pss_cons _ _ _ _ _ (ps_setcomp (i := 12) (sc := (defScope s_law)) (N := ["_law_script", "_law_tape_here", "_law_book_here", "_law_sums", "_law_total", "_law_k", "_law_numbers", "_law_stand_here", "_law_turn", "_law_some", "_law_handed", "_law_found", "_law_due", "_law_other", "_law_nines", "_law_great"]) (N' := ["_law_k", "_law_book_here", "_law_total"]) (k := 1) (idx := [2, 4]) rfl sc_law.nd rfl rfl (by exact ⟨rfl, by decide +kernel, by decide +kernel, by decide +kernel, by decide +kernel, by decide +kernel, rfl, rfl⟩) rfl rfl (pi_list (pv 9)) (fun _ _ _ _ => (pg_name (i := 0) (show (["_law_k", "_law_book_here", "_law_total"] : List Str).Nodup by decide +kernel) rfl (Or.inl rfl) (Or.inr rfl))) (fun _ _ _ _ => pts_one (pt_cmpR op_gt (pe_c c__law_fall (hr.mono (by decide)) rfl (pa_name (pv 1) (pa_name (pv 2) (pa_name (pv 0) pa_nil)))) pe_int (nomark _))) (fun _ _ _ _ => (pv 0)))
      (@pss_cons _ _ _ _ _ (ps_set (i := 11) sc_law.nd rfl (Or.inl rfl) (pe_c c_falling (hr.mono (by decide)) rfl (pa_name (pv 2) (pa_name (pv 4) (pa_name (pv 10) pa_nil)))))
      (@pss_cons _ _ _ _ _ (ps_if (pt_cmpR op_ne (pe_callB (call_repr hr.gd hr.units) rfl T.b_repr boot_repr (pa_name (pv 11) pa_nil)) (pe_callB (call_repr hr.gd hr.units) rfl T.b_repr boot_repr (pa_name (pv 12) pa_nil)) (nomark _)) (@pss_one _ _ _ (@ps_ret _ _ _ _ pe_bl)) pss_nil)
      (@pss_cons _ _ _ _ _ (ps_expr (pe_bm PySem.F.plainAttrs_list PySem.F.slot_list_append PySem.F.type_list_append mt_append (pv 11) (pa_unary (pe_un un_neg pe_int) pa_nil)))
      (@pss_one _ _ _ (ps_if (pt_cmpR (op_neD hr.units) (pv 10) (pv 9) (nomark _)) (@pss_one _ _ _ (@ps_ret _ _ _ _ pe_bl)) pss_nil)))))))))))
      (@pss_cons _ _ _ _ _ (ps_set (i := 13) sc_law.nd rfl (Or.inr rfl) (pe_ix ix_list (pv 3) pe_int (fun _ _ => rfl)))
      (@pss_cons _ _ _ _ _ (ps_set (i := 12) sc_law.nd rfl (Or.inl rfl) (pe_callTy call_tuple_of rfl T.b_tuple boot_tuple (pa_comp (pe_comp (sc := (defScope s_law)) (N := ["_law_script", "_law_tape_here", "_law_book_here", "_law_sums", "_law_total", "_law_k", "_law_numbers", "_law_stand_here", "_law_turn", "_law_some", "_law_handed", "_law_found", "_law_due", "_law_other", "_law_nines", "_law_great"]) (N' := ["_law_k", "_law_total", "_law_other"]) (k := 1) (idx := [4, 13]) rfl (by exact ⟨rfl, by decide +kernel, by decide +kernel, by decide +kernel, by decide +kernel, by decide +kernel, rfl, rfl⟩) rfl rfl (pi_range1 rfl T.b_range (pa_const pe_int pa_nil)) (fun _ _ _ _ => (pg_name (i := 0) (show (["_law_k", "_law_total", "_law_other"] : List Str).Nodup by decide +kernel) rfl (Or.inl rfl) (Or.inr rfl))) (fun _ _ _ _ => pts_nil) (fun _ _ _ _ => (pe_callTy (call_tuple_ofK (K' := K) rfl) rfl T.b_tuple boot_tuple (pa_comp (pe_comp (sc := _) (N := ["_law_k", "_law_total", "_law_other"]) (N' := ["_law_one", "_law_two"]) (k := 2) (idx := []) rfl (by exact ⟨rfl, by decide +kernel, by decide +kernel, noFree (by decide +kernel), by decide +kernel, by decide +kernel, rfl, rfl⟩) rfl rfl (by exact (pi_zipK (K' := K) rfl rfl T.b_zip (pa_sub (pe_ix (ix_tupK (K' := K) rfl) (pv 1) (pv 0) (fun _ _ => rfl)) (pa_sub (pe_ix (ix_tupK (K' := K) rfl) (pv 2) (pv 0) (fun _ _ => rfl)) pa_nil)))) (fun _ _ _ _ => (pg_pair (K' := K) (i := 0) (j := 1) rfl (show (["_law_one", "_law_two"] : List Str).Nodup by decide +kernel) ⟨rfl, (Or.inl rfl), (Or.inr rfl)⟩ ⟨rfl, (Or.inl rfl), (Or.inr rfl)⟩ rfl)) (fun _ _ _ _ => pts_nil) (fun _ _ _ _ => (pe_op op_add (pv 0) (pv 1)))) pa_nil)))) pa_nil)))
      (@pss_one _ _ _ (ps_if (pt_cmpR op_ne (pe_callB (call_repr hr.gd hr.units) rfl T.b_repr boot_repr (pa_call (pe_c c_together (hr.mono (by decide)) rfl (pa_name (pv 4) (pa_name (pv 13) pa_nil))) pa_nil)) (pe_callB (call_repr hr.gd hr.units) rfl T.b_repr boot_repr (pa_name (pv 12) pa_nil)) (nomark _)) (@pss_one _ _ _ (@ps_ret _ _ _ _ pe_bl)) pss_nil))))))))
      (@pss_cons _ _ _ _ _ (ps_set (i := 14) sc_law.nd rfl (Or.inl rfl) (pe_op op_sub (pe_op op_mulB (pe_op op_pow pe_int pe_int) (pe_op op_pow pe_int pe_int)) pe_int))
      (@pss_cons _ _ _ _ _ (@ps_setD _ _ 15 _ _ _ _ sc_law.nd rfl (Or.inl rfl) (pes_tup (pas_binop (pes_of (pe_op op_repT (@PEs.out _ _ _ (pes_tup (pas_name (pes_of (pv 14)) pas_nil))) (pe_ix ix_tup (pv 2) pe_int (fun _ _ => rfl)))) (pas_binop (pes_of (pe_op op_repT (@PEs.out _ _ _ (pes_tup (pas_name (pes_of (pv 14)) pas_nil))) (pe_ix ix_tup (pv 2) pe_int (fun _ _ => rfl)))) pas_nil))) rfl (Or.inl rfl))
      (@pss_one _ _ _ (@ps_ret _ _ _ _ (pe_cmpR op_isB (pe_c c_is_sum (hr.mono (by decide)) rfl (pa_name (pv 2) (pa_call (pe_c c_together (hr.mono (by decide)) rfl (pa_name (pv 15) (pa_name (pv 15) pa_nil))) pa_nil))) pe_bl (nomark _)))))))))), ?_⟩
  have hs : sizeLine = 16777216 := sizeLine_eq
  refine seq_by (fun σ' H' => ∃ p c, σ' = [some (.ref a), some (.ref p), none, none, none, none, none, none, none, none, none, none, none, none, none, none] ∧ Tape H' p c 0) (fun N hN => ?_) ?_
  · exact ⟨_, rfl, a, ns, rfl, hS, hlen, fun p c H' _ _ _ J => hN _ _ ⟨p, c, rfl, J⟩⟩
  rintro _ H1 ⟨p, c, rfl, J1⟩
  clear hS hlen
  refine seq_by (fun σ' H' => ∃ R U ws bv, σ' = [some (.ref a), some (.ref p), some bv, none, none, none, none, none, none, none, none, none, none, none, none, none] ∧ Tape H' p c 2000 ∧ BookOk R U ws ∧ Rep [p, c] H' (bookPD R U ws) bv) (fun N hN => ?_) ?_
  · exact ⟨_, rfl, small4 (Nat.le_of_ble_eq_true rfl), fun mt hm => ⟨p, c, mt, 0, 4, 3, 10, rfl, J1.new hm, by decide, upd_same, J1.fresh hm, by decide, by decide, by decide, fun R U ws v H' ok _ _ J' _ rb => hN _ _ ⟨R, U, ws, v, rfl, J'.mono (by omega), ok, rb⟩⟩⟩
  rintro _ H2 ⟨R, U, ws, bv, rfl, J2, ok, rb2⟩
  have u0 := ok.p0
  have u1 := ok.p1
  have r0 := ok.r0
  have r1 := ok.r1
  have wl := ok.len
  obtain ⟨ba, wa, vs, B⟩ := rep_book rb2
  have eb := B.e
  subst eb
  have vl := B.len
  have bh2 := B.b
  have wh2 := B.w
  have nba := B.nb
  have nwa := B.nw
  clear B
  refine seq_by (fun σ' H' => ∃ sl sums svs, σ' = [some (.ref a), some (.ref p), some (.ref ba), some (.ref sl), none, none, none, none, none, none, none, none, none, none, none, none] ∧ K31 p c sl R U ws (.ref ba) sums svs H' 2300 ∧ (∀ s ∈ sums, SumOk R U s.1 s.2) ∧ sums.length = 3 ∧ Kp [p, c] H2 H') (fun N hN => ?_) ?_
  · refine ⟨3, rfl, by decide, by decide, fun l hl => ?_⟩
    have nl := J2.fresh hl
    refine comp1_rngP (fun j zs H' => Tape H' p c (2000 + 60 * j) ∧ Kp [p, c] H2 H' ∧ ∃ sums : List (List Int × List Int), Reps [p, c, l] H' (sums.map sumOf) zs ∧ sums.length = j ∧ ∀ s ∈ sums, SumOk R U s.1 s.2) ⟨J2.new hl, Kp.new hl _, [], .nil, rfl, by simp⟩ upd_same ?_ ?_
    · rintro j H6 zs N' hj ⟨J6, k6, sums, rs, hjl, hb⟩ hl6 hN'
      have hlz := rs.length
      rw [List.length_map] at hlz
      refine ⟨_, rfl, _, rfl, p, c, l, _, _, R, U, ws, _, rfl, hl6, nl, J6, by omega, rb2.keep k6, ⟨r0, r1⟩, ⟨u0, u1⟩, fun v wts hts H7 so J7 k7 rv => hN' _ _ (k7 _ _ hl6 nl) (by omega) ⟨(J7.upd nl).mono (by omega), Kp.late (k6.trans k7) hl _, sums ++ [(wts, hts)], ?_, by simp [hjl], ?_⟩⟩
      · rw [List.map_append]
        exact ((rs.keep (k7.mono (by simp))).append (.cons rv .nil)).keep (Kp.at (by simp) _)
      · intro x hx
        rcases List.mem_append.mp hx with hx | hx
        · exact hb x hx
        · rw [List.mem_singleton.mp hx]; exact so
    · rintro H6 zs ⟨J6, k6, sums, rs, hjl, hb⟩ hl6
      exact hN _ _ ⟨l, sums, zs, rfl, ⟨J6.mono (by omega), (rep_add hl rb2).keep (k6.mono (by simp)), hl6, rs, nl⟩, hb, hjl, k6⟩
  rintro _ H3 ⟨sl, sums, svs, rfl, N3, hso, hsl, k3⟩
  have bh3 := k3 _ _ bh2 nba
  have wh3 := k3 _ _ wh2 nwa
  have svl : svs.length = 3 := by have := N3.s.length; rw [List.length_map] at this; omega
  clear J2 rb2 bh2 wh2 k3
  refine seq_by (fun σ' H' => ∃ o4 o5 o6 o7 o8 o9 o10 o11 o12 o13, σ' = [some (.ref a), some (.ref p), some (.ref ba), some (.ref sl), o4, o5, o6, o7, o8, o9, o10, o11, o12, o13, none, none] ∧ K31 p c sl R U ws (.ref ba) sums svs H' (2300 + 500 * 3) ∧ Kp [p, c] H3 H') (fun N hN => ?_) ?_
  · refine ⟨_, rfl, sl, rfl, ⟨_, SqL.of N3.l⟩, ?_⟩
    refine for_list (K := K) (xs := svs) (fun i σ H' => ∃ o4 o5 o6 o7 o8 o9 o10 o11 o12 o13, σ = [some (.ref a), some (.ref p), some (.ref ba), some (.ref sl), o4, o5, o6, o7, o8, o9, o10, o11, o12, o13, none, none] ∧ K31 p c sl R U ws (.ref ba) sums svs H' (2300 + 500 * i) ∧ Kp [p, c] H3 H')
      ⟨_, _, _, _, _, _, _, _, _, _, rfl, N3, .refl⟩ (fun i σ H' _ ⟨_, _, _, _, _, _, _, _, _, _, _, N', _⟩ => SqL.of N'.l) ?_ (fun σ H' ⟨o4, o5, o6, o7, o8, o9, o10, o11, o12, o13, e, N', k'⟩ => hN _ _ ⟨o4, o5, o6, o7, o8, o9, o10, o11, o12, o13, e, by rw [svl] at N'; exact N', k'⟩)
    rintro i tv σ H4 hx ⟨o4, o5, o6, o7, o8, o9, o10, o11, o12, o13, rfl, N4, k4⟩
    have hi : i < 3 := by rw [← svl]; exact (List.getElem?_eq_some_iff.mp hx).1
    obtain ⟨⟨wts, hts⟩, hsi, rt4⟩ := N4.at hx
    have so : SumOk R U wts hts := hso _ (List.mem_of_getElem? hsi)
    have lw := so.lw
    have lh := so.lh
    have bh4 := k4 _ _ bh3 nba
    have wh4 := k4 _ _ wh3 nwa
    have wts6 : wts.length ≤ 6 := by omega
    clear N3 bh3 wh3 hN
    refine seq_by (fun σ' H' => ∃ o5 o6 o7, σ' = [some (.ref a), some (.ref p), some (.ref ba), some (.ref sl), some tv, o5, o6, o7, o8, o9, o10, o11, o12, o13, none, none] ∧ K31 p c sl R U ws (.ref ba) sums svs H' (2300 + 500 * i + 80) ∧ Kp [p, c] H4 H') (fun N hN => ?_) ?_
    · refine ⟨2, rfl, by decide, by decide, ?_⟩
      refine for_range (n := 2) (fun j σ H' => ∃ o5 o6 o7, σ = [some (.ref a), some (.ref p), some (.ref ba), some (.ref sl), some tv, o5, o6, o7, o8, o9, o10, o11, o12, o13, none, none] ∧ K31 p c sl R U ws (.ref ba) sums svs H' (2300 + 500 * i + 40 * j) ∧ Kp [p, c] H4 H') ⟨_, _, _, rfl, N4, .refl⟩ ?_ (fun σ H' ⟨o5, o6, o7, e, N', k'⟩ => hN _ _ ⟨o5, o6, o7, e, N', k'⟩)
      clear o5 o6 o7
      rintro j σ H5 hj ⟨o5, o6, o7, rfl, N5, k5⟩
      have bh5 := k5 _ _ bh4 nba
      have rt5 : Rep [p, c, sl] H5 (sumPD wts hts) tv := rt4.keep (k5.mono (by simp))
      refine seq_by (fun σ' H' => ∃ (nt : Addr) (ns : List Int), σ' = [some (.ref a), some (.ref p), some (.ref ba), some (.ref sl), some tv, some (.int (0 + (j : Int))), some (.ref nt), o7, o8, o9, o10, o11, o12, o13, none, none] ∧ Tape H' p c (2300 + 500 * i + 40 * j + 20) ∧ Kp [p, c] H5 H' ∧ H' nt = some (.tup (ns.map V.int)) ∧ nt ∉ [p, c, sl] ∧ (ns.length : Int) = U ∧ Big ns) (fun N hN => ?_) ?_
      · refine ⟨_, rfl, ba, _, _, _, rfl, rfl, SqT.of bh5, at1 _ _ _, U, rfl, by omega, by omega, fun l hl => ?_⟩
        have nl := N5.T.fresh hl
        refine comp1_rngP (fun m zs H' => Tape H' p c (2300 + 500 * i + 40 * j + 3 * m) ∧ Kp [p, c] H5 H' ∧ ∃ ns : List Int, zs = ns.map V.int ∧ ns.length = m ∧ Big ns) ⟨N5.T.new hl, Kp.new hl _, [], rfl, rfl, fun x hx => by cases hx⟩ upd_same ?_ ?_
        · rintro m H6 zs N' hm ⟨J6, k6, ns, rfl, nlen, bn⟩ hl6 hN'
          refine ⟨_, rfl, p, c, _, 9, rfl, J6, by omega, by decide, by decide +kernel, fun x H7 x0 x1 J7 k7 => ⟨_, rfl, _, _, rfl, rfl, ⟨by decide, by decide, by decide⟩, p, c, _, _, rfl, J7, by omega, by decide +kernel, by decide +kernel, fun y H8 y0 y1 J8 k8 => ⟨small4 (Nat.le_of_ble_eq_true rfl), fun d hd => ⟨_, rfl, p, c, _, 3, rfl, J8.new hd, by omega, by decide, by decide +kernel, fun r H9 r0 r1 J9 k9 => ?_⟩⟩⟩⟩
          have nd := J8.fresh hd
          obtain ⟨z, hz, zb⟩ := at_P (P := fun n => n.natAbs < 10 ^ 99) [0, x, y] (by
            intro z hz
            rcases List.mem_cons.mp hz with rfl | hz
            · decide
            rcases List.mem_cons.mp hz with rfl | hz
            · exact small99 (by omega)
            · rw [List.mem_singleton.mp hz]; exact nat40 y0 y1) r0 r1
          refine ⟨d, _, _, _, rfl, rfl, SqL.of (k9 _ _ upd_same nd), hz, ?_⟩
          have k69 : Kp [p, c] H6 H9 := k7.trans (k8.trans ((Kp.new hd _).trans k9))
          refine hN' _ _ (k69 _ _ hl6 nl) (by rw [List.length_map]; omega) ⟨(J9.upd nl).mono (by omega), Kp.late (k6.trans k69) hl _, ns ++ [z], by simp, by simp [nlen], ?_⟩
          intro q hq
          rcases List.mem_append.mp hq with hq | hq
          · exact bn q hq
          · rw [List.mem_singleton.mp hq]; exact zb
        · rintro H6 zs ⟨J6, k6, ns, rfl, nlen, bn⟩ hl6
          have N6 := N5.go k6 J6
          exact ⟨l, _, rfl, .inl ⟨SqL.of hl6, fun t ht => hN _ _ ⟨t, ns, rfl, (J6.new ht).mono (by omega), k6.trans (Kp.new ht _), upd_same, N6.fre _ _ .refl ht, by omega, bn⟩⟩⟩
      rintro _ H6 ⟨nt, ns, rfl, J6, k6, hnt, nnt, nlen, bn⟩
      have N6 := N5.go k6 J6
      have rt6 := rt5.keep (k6.mono (by simp))
      have bh6 := k6 _ _ bh5 nba
      refine seq_by (fun σ' H' => ∃ (sv : V) (r : Int), σ' = [some (.ref a), some (.ref p), some (.ref ba), some (.ref sl), some tv, some (.int (0 + (j : Int))), some (.ref nt), some sv, o8, o9, o10, o11, o12, o13, none, none] ∧ K31 p c sl R U ws (.ref ba) sums svs H' (2300 + 500 * i + 40 * j + 21) ∧ Kp [p, c] H6 H' ∧ Rep [p, c, sl] H' (.tuple [.int r, .tuple (ns.map PyData.int)]) sv ∧ (0 ≤ r ∧ r < R)) (fun N hN => ?_) ?_
      · refine ⟨_, rfl, _, rfl, ba, _, _, _, rfl, rfl, SqT.of bh6, at0 _ _ _, p, c, _, R, rfl, J6, by omega, by omega, small9000 (by omega), fun r H7 r0 r1 J7 k7 => ⟨_, rfl, small4 (Nat.le_of_ble_eq_true rfl), fun t ht => ?_⟩⟩
        have N7 := N6.go k7 J7
        refine hN _ _ ⟨_, r, rfl, N7.kp (Kp.new ht _), k7.trans (Kp.new ht _), ?_, r0, r1⟩
        exact Rep.newT (.cons (.int r) (.cons (Rep.tints (k7 _ _ hnt (fun z => nnt (List.mem_append_left [sl] z))) nnt (by omega)) .nil)) ht (N7.fre _ _ .refl ht) (small4 (Nat.le_of_ble_eq_true rfl))
      rintro _ H7 ⟨sv, r, rfl, N7, k7, rs7, r0', r1'⟩
      have rt7 := rt6.keep (k7.mono (by simp))
      have sho := worthI_show (r := r) wts6 so.bw so.bh bn
      refine ⟨_, rfl, _, rfl, [p, c, sl], wts, hts, tv, r, ns, sv, rfl, rt7, rs7, ⟨r0', by omega⟩, by omega, by omega, so.bw, bn, fun H8 k8 => ⟨[], .int _, _, rfl, .int _, sho, _, rfl, _, rfl, [p, c, sl], wts, hts, tv, r, ns, sv, rfl, rt7.keep k8.of, rs7.keep k8.of, ⟨r0', by omega⟩, by omega, by omega, so.bw, bn, fun H9 k9 => ⟨[], .int _, _, rfl, .int _, sho, rfl, _, rfl, ?_⟩⟩⟩
      refine ite_b (fun cc => ?_) (fun _ => ⟨_, _, _, rfl, (N7.kp (k8.trans k9)).mono (by omega), k5.trans (k6.trans (k7.trans (k8.trans k9).of))⟩)
      simp at cc
    clear o5 o6 o7
    rintro _ H5 ⟨o5, o6, o7, rfl, N5, k5⟩
    have bh5 := k5 _ _ bh4 nba
    have wh5 := k5 _ _ wh4 nwa
    have rt5 : Rep [p, c, sl] H5 (sumPD wts hts) tv := rt4.keep (k5.mono (by simp))
    clear N4 rt4 bh4 wh4
    refine seq_by (fun σ' H' => ∃ o5, σ' = [some (.ref a), some (.ref p), some (.ref ba), some (.ref sl), some tv, o5, o6, o7, o8, o9, o10, o11, o12, o13, none, none] ∧ Kp [] H5 H') (fun N hN => ?_) ?_
    · refine ⟨_, rfl, ba, _, _, _, rfl, rfl, SqT.of bh5, at2 _ _ _, wa, _, rfl, .inr (SqT.of wh5), _, rfl, by omega, by omega, ?_⟩
      refine for_range (n := ((vs.length : Nat) : Int).toNat) (fun j σ H' => ∃ o5, σ = [some (.ref a), some (.ref p), some (.ref ba), some (.ref sl), some tv, o5, o6, o7, o8, o9, o10, o11, o12, o13, none, none] ∧ Kp [] H5 H') ⟨_, rfl, .refl⟩ ?_ (fun σ H' ⟨o5, e, k'⟩ => hN _ _ ⟨o5, e, k'⟩)
      clear o5
      rintro j σ H6 hj ⟨o5, rfl, k6⟩
      have j0 : (0 : Int) ≤ 0 + (j : Int) := by omega
      have j1 : (0 : Int) + (j : Int) < ws.length := by omega
      have sho := fallI_show ok so j0 j1
      refine ⟨_, rfl, _, rfl, _, rfl, [p, c, sl], R, U, ws, _, wts, hts, tv, _, rfl, N5.b.keep k6.of, ok, rt5.keep k6.of, so, ⟨j0, j1⟩, fun H7 k7 => ⟨[], .int _, _, rfl, .int _, sho, _, rfl, _, rfl, _, rfl, [p, c, sl], R, U, ws, _, wts, hts, tv, _, rfl, N5.b.keep (k6.trans k7).of, ok, rt5.keep (k6.trans k7).of, so, ⟨j0, j1⟩, fun H8 k8 => ⟨[], .int _, _, rfl, .int _, sho, rfl, _, rfl, ?_⟩⟩⟩
      refine ite_b (fun cc => ?_) (fun _ => ⟨_, rfl, k6.trans (k7.trans k8)⟩)
      simp at cc
    clear o5
    rintro _ H6 ⟨o5, rfl, k6⟩
    have N6 := N5.kp k6
    have rt6 := rt5.keep (k6.of (ex := [p, c, sl]))
    have k46 : Kp [p, c] H4 H6 := k5.trans k6.of
    clear N5 rt5 bh5 wh5
    refine seq_by (fun σ' H' => ∃ o8 o9 o10 o11 o12, σ' = [some (.ref a), some (.ref p), some (.ref ba), some (.ref sl), some tv, o5, o6, o7, o8, o9, o10, o11, o12, o13, none, none] ∧ K31 p c sl R U ws (.ref ba) sums svs H' (2300 + 500 * i + 400) ∧ Kp [p, c] H6 H') (fun N hN => ?_) ?_
    · refine ⟨4, rfl, by decide, by decide, ?_⟩
      refine for_range (n := 4) (fun j σ H' => ∃ o8 o9 o10 o11 o12, σ = [some (.ref a), some (.ref p), some (.ref ba), some (.ref sl), some tv, o5, o6, o7, o8, o9, o10, o11, o12, o13, none, none] ∧ K31 p c sl R U ws (.ref ba) sums svs H' (2300 + 500 * i + 80 + 70 * j) ∧ Kp [p, c] H6 H') ⟨_, _, _, _, _, rfl, N6, .refl⟩ ?_ (fun σ H' ⟨o8, o9, o10, o11, o12, e, N', k'⟩ => hN _ _ ⟨o8, o9, o10, o11, o12, e, N'.mono (by omega), k'⟩)
      clear o8 o9 o10 o11 o12
      rintro j σ H7 hj ⟨o8, o9, o10, o11, o12, rfl, N7, k7⟩
      have rt7 := rt6.keep (k7.mono (by simp) : Kp [p, c, sl] H6 H7)
      refine seq_by (fun σ' H' => ∃ (t : Addr) (ns : List Int), σ' = [some (.ref a), some (.ref p), some (.ref ba), some (.ref sl), some tv, o5, o6, o7, some (.int (0 + (j : Int))), some (.ref t), o10, o11, o12, o13, none, none] ∧ K31 p c sl R U ws (.ref ba) sums svs H' (2300 + 500 * i + 80 + 70 * (j + 1)) ∧ Kp [p, c] H7 H' ∧ H' t = some (.lst (ns.map V.int)) ∧ InW ws ns ∧ ns.length ≤ 60) (fun N hN => ?_) ?_
      · exact ⟨_, rfl, _, rfl, p, c, _, R, U, ws, _, rfl, N7.T, by omega, N7.b2, ok, fun t ns H8 J8 k8 f8 n8 h8 iw nl => hN _ _ ⟨t, ns, rfl, (N7.go k8 J8).mono (by omega), k8, h8, iw, nl⟩⟩
      rintro _ H8 ⟨t, ns, rfl, N8, k8, ht8, iw, nlen⟩
      have rt8 := rt7.keep (k8.mono (by simp) : Kp [p, c, sl] H7 H8)
      have hsm : ∀ z ∈ ns, -1000 < z ∧ z < 1000 := fun z hz => by have := iw z hz; omega
      refine seq_by (fun σ' H' => ∃ (l : Addr), σ' = [some (.ref a), some (.ref p), some (.ref ba), some (.ref sl), some tv, o5, o6, o7, some (.int (0 + (j : Int))), some (.ref t), some (.ref l), o11, o12, o13, none, none] ∧ Kp [] H8 H' ∧ H' l = some (.lst (ns.map V.int)) ∧ l ≠ t) (fun N hN => ?_) ?_
      · exact ⟨_, rfl, t, _, rfl, .inl (SqL.of ht8), fun l hl => hN _ _ ⟨l, rfl, Kp.new hl _, upd_same, fun z => by rw [z, ht8] at hl; cases hl⟩⟩
      rintro _ H9 ⟨l, rfl, k9, hl9, _⟩
      have N9 := N8.kp k9
      have rt9 := rt8.keep (k9.of (ex := [p, c, sl]))
      have ht9 := k9 _ _ ht8 (by simp)
      refine seq_by (fun σ' H' => σ' = [some (.ref a), some (.ref p), some (.ref ba), some (.ref sl), some tv, o5, o6, o7, some (.int (0 + (j : Int))), some (.ref t), some (.ref l), some (.bl (ns.all fun k => decide (0 ≤ fallI ws wts hts k))), o12, o13, none, none] ∧ Kp [] H9 H') (fun N hN => ?_) ?_
      · exact ⟨_, rfl, _, rfl, _, rfl, [p, c, sl], R, U, ws, _, wts, hts, tv, l, ns, rfl, N9.b, ok, rt9, so, SqL.of hl9, by omega, iw, fun H' k => hN _ _ ⟨rfl, k⟩⟩
      rintro _ H10 ⟨rfl, k10⟩
      refine seq_by (fun σ' H' => σ' = [some (.ref a), some (.ref p), some (.ref ba), some (.ref sl), some tv, o5, o6, o7, some (.int (0 + (j : Int))), some (.ref t), some (.ref l), some (.bl (ns.all fun k => decide (0 ≤ fallI ws wts hts k))), o12, o13, none, none] ∧ Kp [] H9 H') (fun N hN => ?_) ?_
      · refine ⟨_, rfl, [], .bool _, _, rfl, .bool _, show_bool _, _, rfl, _, rfl, _, rfl, [p, c, sl], R, U, ws, _, wts, hts, tv, t, ns, rfl, N9.b.keep k10.of, ok, rt9.keep k10.of, so, SqL.of (k10 _ _ ht9 (by simp)), by omega, iw, fun H11 k11 => ⟨[], .bool _, _, rfl, .bool _, show_bool _, rfl, _, rfl, ?_⟩⟩
        refine ite_b (fun cc => ?_) (fun _ => hN _ _ ⟨rfl, k10.trans k11⟩)
        simp at cc
      rintro _ H11 ⟨rfl, k11⟩
      have N11 := N9.kp k11
      have rt11 := rt9.keep (k11.of (ex := [p, c, sl]))
      have ht11 := k11 _ _ ht9 (by simp)
      have hl11 := k11 _ _ hl9 (by simp)
      refine seq_by (fun σ' H' => ∃ d, σ' = [some (.ref a), some (.ref p), some (.ref ba), some (.ref sl), some tv, o5, o6, o7, some (.int (0 + (j : Int))), some (.ref t), some (.ref l), some (.bl (ns.all fun k => decide (0 ≤ fallI ws wts hts k))), some (.ref d), o13, none, none] ∧ Kp [] H11 H' ∧ H' d = some (.lst ((ns.filter fun k => decide (0 < fallI ws wts hts k)).map V.int))) (fun N hN => ?_) ?_
      · refine ⟨_, rfl, t, rfl, ⟨_, SqL.of ht11⟩, fun d hd => ?_⟩
        refine comp1_listF (fun i => decide (0 < fallI ws wts hts (ns.getD i 0))) (fun i => .int (ns.getD i 0)) (SqL.of ht11) (by rw [List.length_map]; omega) hd ?_ ?_ ?_
        · intro i' x H1' N' hx' k1' hN'
          rw [List.getElem?_map] at hx'
          cases e : ns[i']? with
          | none => rw [e] at hx'; cases hx'
          | some z =>
            rw [e] at hx'
            obtain rfl : V.int z = x := Option.some.inj hx'
            have hi' := iw z (List.mem_of_getElem? e)
            refine ⟨_, rfl, _, rfl, _, rfl, [p, c, sl], R, U, ws, _, wts, hts, tv, z, rfl, N11.b.keep k1'.of, ok, rt11.keep k1'.of, so, hi', fun H2' k2' => ⟨_, _, rfl, rfl, _, rfl, ?_⟩⟩
            have := hN' H2' k2'
            rw [List.getD_eq_getElem?_getD, e] at this
            exact this
        · intro i' x H1' N' _ hx' k1' hN'
          rw [List.getElem?_map] at hx'
          cases e : ns[i']? with
          | none => rw [e] at hx'; cases hx'
          | some z =>
            rw [e] at hx'
            obtain rfl : V.int z = x := Option.some.inj hx'
            have := hN' H1' .refl
            rw [List.getD_eq_getElem?_getD, e] at this
            exact ⟨_, rfl, this⟩
        · intro H1' k1' h1'
          rw [List.length_map, rng_filter ns fun z => decide (0 < fallI ws wts hts z)] at h1'
          exact hN _ _ ⟨d, rfl, k1', h1'⟩
      rintro _ H12 ⟨d, rfl, k12, hd12⟩
      have N12 := N11.kp k12
      have rt12 := rt11.keep (k12.of (ex := [p, c, sl]))
      have ht12 := k12 _ _ ht11 (by simp)
      have hl12 := k12 _ _ hl11 (by simp)
      have fl : (ns.filter fun k => decide (0 < fallI ws wts hts k)).length ≤ 60 := Nat.le_trans (List.length_filter_le _ _) nlen
      have fsm : ∀ z ∈ (ns.filter fun k => decide (0 < fallI ws wts hts k)), -1000 < z ∧ z < 1000 := fun z hz => hsm z (List.mem_filter.mp hz).1
      refine seq_by (fun σ' H' => ∃ e, σ' = [some (.ref a), some (.ref p), some (.ref ba), some (.ref sl), some tv, o5, o6, o7, some (.int (0 + (j : Int))), some (.ref t), some (.ref l), some (.ref e), some (.ref d), o13, none, none] ∧ Kp [] H12 H' ∧ H12 e = none ∧ H' e = some (.lst ((ns.filter fun k => decide (0 < fallI ws wts hts k)).map V.int))) (fun N hN => ?_) ?_
      · exact ⟨_, rfl, _, rfl, _, rfl, [p, c, sl], R, U, ws, _, wts, hts, tv, l, ns, rfl, N12.b, ok, rt12, so, SqL.of hl12, by omega, iw, fun e H' k f h => hN _ _ ⟨e, rfl, k, f, h⟩⟩
      rintro _ H13 ⟨e, rfl, k13, fe, he13⟩
      generalize (ns.filter fun k => decide (0 < fallI ws wts hts k)) = fs at hd12 fl fsm he13
      have hd13 := k13 _ _ hd12 (by simp)
      have she := show_ints (ns := fs) (by omega) fsm
      refine seq_by (fun σ' H' => σ' = [some (.ref a), some (.ref p), some (.ref ba), some (.ref sl), some tv, o5, o6, o7, some (.int (0 + (j : Int))), some (.ref t), some (.ref l), some (.ref e), some (.ref d), o13, none, none] ∧ H13 = H') (fun N hN => ?_) ?_
      · refine ⟨_, rfl, [], .list (fs.map PyData.int), _, rfl, Rep.lints he13 (by simp) (by omega), she, _, rfl, [], .list (fs.map PyData.int), _, rfl, Rep.lints hd13 (by simp) (by omega), she, rfl, _, rfl, ?_⟩
        refine ite_b (fun cc => ?_) (fun _ => hN _ _ ⟨rfl, rfl⟩)
        simp at cc
      rintro _ _ ⟨rfl, rfl⟩
      refine seq_by (fun σ' H' => σ' = [some (.ref a), some (.ref p), some (.ref ba), some (.ref sl), some tv, o5, o6, o7, some (.int (0 + (j : Int))), some (.ref t), some (.ref l), some (.ref e), some (.ref d), o13, none, none] ∧ Kp [] H12 H') (fun N hN => ?_) ?_
      · exact ⟨_, rfl, .inl ⟨rfl, _, SqL.of he13⟩, _, rfl, e, _, _, rfl, rfl, he13, by rw [List.length_map]; omega, hN _ _ ⟨rfl, Kp.late k13 fe _⟩⟩
      rintro _ H14 ⟨rfl, k14⟩
      have hl14 := k14 _ _ hl12 (by simp)
      have ht14 := k14 _ _ ht12 (by simp)
      refine ⟨_, rfl, _, rfl, [], .list (ns.map PyData.int), .list (ns.map PyData.int), Rep.lints hl14 (by simp) (by omega), Rep.lints ht14 (by simp) (by omega), by rw [PyData.canLay0]; exact canLay_ints ns, by rw [PyData.canLay0]; exact canLay_ints ns, ?_, _, rfl, ?_⟩
      · rw [Nat.min_self, depth_ints]; decide
      · rw [eqv_ints]
        refine ite_nt ?_
        exact ⟨_, _, _, _, _, rfl, N12.kp k14, k7.trans (k8.trans (k9.trans (k11.trans (k12.trans k14))).of)⟩
    clear o8 o9 o10 o11 o12
    rintro _ H7 ⟨o8, o9, o10, o11, o12, rfl, N7, k7⟩
    have rt7 := rt6.keep (k7.mono (by simp) : Kp [p, c, sl] H6 H7)
    have h0s : 0 < svs.length := by omega
    obtain ⟨⟨w2, h2⟩, hs2, ro7⟩ := N7.at (List.getElem?_eq_getElem h0s)
    have so2 : SumOk R U w2 h2 := hso _ (List.mem_of_getElem? hs2)
    have lw2 := so2.lw
    have lh2 := so2.lh
    refine seq_by (fun σ' H' => σ' = [some (.ref a), some (.ref p), some (.ref ba), some (.ref sl), some tv, o5, o6, o7, o8, o9, o10, o11, o12, some svs[0], none, none] ∧ H7 = H') (fun N hN => ?_) ?_
    · exact ⟨_, rfl, sl, _, _, _, rfl, rfl, SqL.of N7.l, atI_nat (j := 0) (List.getElem?_eq_getElem h0s), hN _ _ ⟨rfl, rfl⟩⟩
    rintro _ _ ⟨rfl, rfl⟩
    generalize svs[0] = ov at ro7
    refine seq_by (fun σ' H' => ∃ dv, σ' = [some (.ref a), some (.ref p), some (.ref ba), some (.ref sl), some tv, o5, o6, o7, o8, o9, o10, o11, some dv, some ov, none, none] ∧ Kp [] H7 H' ∧ Rep [p, c, sl] H' (sumPD (putI wts w2) (putI hts h2)) dv) (fun N hN => ?_) ?_
    · obtain ⟨ta, ys, rfl, hta, nta, _, rss⟩ := rep_tup rt7
      obtain ⟨y1, y2, rfl, q1, q2⟩ := reps_2 rss
      obtain ⟨wa1, wx, rfl, hwa, _, _, rw1⟩ := rep_tup q1
      obtain ⟨ha1, hx', rfl, hha, _, _, rh1⟩ := rep_tup q2
      rw [Reps.ints_inv rw1] at hwa
      rw [Reps.ints_inv rh1] at hha
      obtain ⟨tb, zs, rfl, htb, ntb, _, rsz⟩ := rep_tup ro7
      obtain ⟨z1, z2, rfl, p1, p2⟩ := reps_2 rsz
      obtain ⟨wb, wy, rfl, hwb, _, _, rw2⟩ := rep_tup p1
      obtain ⟨hb, hy, rfl, hhb, _, _, rh2⟩ := rep_tup p2
      rw [Reps.ints_inv rw2] at hwb
      rw [Reps.ints_inv rh2] at hhb
      refine ⟨2, rfl, by decide, by decide, fun l hl => ?_⟩
      have nl := N7.fre _ _ .refl hl
      refine comp1_rngP (fun m xs H' => Kp [] H7 H' ∧ Reps [p, c, sl, l] H' ([PyData.tuple ((putI wts w2).map PyData.int), .tuple ((putI hts h2).map PyData.int)].take m) xs ∧ xs.length = m) ⟨Kp.new hl _, .nil, rfl⟩ upd_same ?_ ?_
      · rintro m H8 xs N' hm ⟨k8, rx, xl⟩ hl8 hN'
        obtain ⟨u1, u2, xs1, xs2, a1, a2, g1, g2, l1, l2, et⟩ : ∃ (u1 u2 : Addr) (xs1 xs2 : List Int), atI [V.ref wa1, .ref ha1] (0 + (m : Int)) = some (.ref u1) ∧ atI [V.ref wb, .ref hb] (0 + (m : Int)) = some (.ref u2) ∧ H7 u1 = some (.tup (xs1.map V.int)) ∧ H7 u2 = some (.tup (xs2.map V.int)) ∧ xs1.length = xs2.length ∧ xs1.length ≤ 1000 ∧ ([PyData.tuple ((putI wts w2).map PyData.int), .tuple ((putI hts h2).map PyData.int)].take (m + 1)) = ([PyData.tuple ((putI wts w2).map PyData.int), .tuple ((putI hts h2).map PyData.int)].take m) ++ [.tuple ((putI xs1 xs2).map PyData.int)] := by
          obtain rfl | rfl : m = 0 ∨ m = 1 := by omega
          · exact ⟨wa1, wb, wts, w2, at20 _ _, at20 _ _, hwa, hwb, by omega, by omega, rfl⟩
          · exact ⟨ha1, hb, hts, h2, at21 _ _, at21 _ _, hha, hhb, by omega, by omega, rfl⟩
        refine ⟨_, rfl, _, rfl, ta, _, _, _, rfl, rfl, SqT.of (k8 _ _ hta (by simp)), a1, _, rfl, _, rfl, tb, _, _, _, rfl, rfl, SqT.of (k8 _ _ htb (by simp)), a2, true, true, u1, u2, _, _, rfl, SqT.of (k8 _ _ g1 (by simp)), SqT.of (k8 _ _ g2 (by simp)), fun l3 hl3 => ?_⟩
        refine comp2_zip (K := K) (b := true) (b' := true) (fun i => .int (xs1.getD i 0 + xs2.getD i 0)) (SqT.of (k8 _ _ g1 (by simp))) (SqT.of (k8 _ _ g2 (by simp))) xs1.length (by simp; omega) (by rw [sizeLine_eq]; omega) hl3 ?_ ?_
        · intro i x y H1 M hi hx hy k1 hM
          rw [List.getElem?_map, List.getElem?_eq_getElem hi] at hx
          cases hx
          rw [List.getElem?_map, List.getElem?_eq_getElem (show i < xs2.length by omega)] at hy
          cases hy
          have := hM H1 .refl
          rw [List.getD_eq_getElem?_getD, List.getD_eq_getElem?_getD, List.getElem?_eq_getElem hi, List.getElem?_eq_getElem (show i < xs2.length by omega)] at this
          exact ⟨_, rfl, _, rfl, _, _, rfl, rfl, this⟩
        · intro H9 k9 h9
          rw [map_int, putI_range xs1 xs2 l1] at h9
          refine ⟨l3, _, rfl, .inl ⟨SqL.of h9, fun t ht => ?_⟩⟩
          have N9 := N7.kp (k8.trans k9)
          have hl9 := k9 _ _ hl8 (by simp)
          have nt : t ∉ [p, c, sl, l] := fun z => by
            rcases List.mem_append.mp (show t ∈ [p, c, sl] ++ [l] from z) with z | z
            · exact N9.fre _ _ .refl ht z
            · rw [List.mem_singleton.mp z, hl9] at ht; cases ht
          refine hN' _ _ (Kp.new (ex := []) ht _ _ _ hl9 (by simp)) (by omega) ⟨Kp.late ((k8.trans k9).trans (Kp.new ht _)) hl _, ?_, by simp [xl]⟩
          rw [et]
          exact ((rx.keep (k9.of.trans (Kp.new ht _))).append (.cons (Rep.newT (Reps.ints _) ht nt (by rw [List.length_map, putI_len]; omega)) .nil)).keep (Kp.at (by simp) _)
      · rintro H8 xs ⟨k8, rx, xl⟩ hl8
        refine ⟨l, _, rfl, .inl ⟨SqL.of hl8, fun t ht => hN _ _ ⟨_, rfl, k8.trans (Kp.new ht _), ?_⟩⟩⟩
        exact Rep.newT (Reps.mono (by simp) rx) ht ((N7.kp k8).fre _ _ .refl ht) (by omega)
    rintro _ H8 ⟨dv, rfl, k8, rd8⟩
    have shd := so.sd r1 u1 so2
    refine ⟨_, rfl, _, rfl, [p, c, sl], wts, hts, tv, w2, h2, ov, rfl, rt7.keep k8.of, ro7.keep k8.of, by omega, by omega, by omega, by omega, (N7.kp k8).fre, fun v H9 k9 rv => ⟨[p, c, sl], _, _, rfl, rv, shd, _, rfl, [p, c, sl], _, _, rfl, rd8.keep k9.of, shd, rfl, _, rfl, ?_⟩⟩
    refine ite_b (fun cc => ?_) (fun _ => ⟨_, _, _, _, _, _, _, _, _, _, rfl, (N7.kp (k8.trans k9)).mono (by omega), k4.trans (k46.trans (k7.trans (k8.trans k9).of))⟩)
    simp at cc
  clear N3
  rintro _ H4 ⟨o4, o5, o6, o7, o8, o9, o10, o11, o12, o13, rfl, N4, k4⟩
  have bh4 := k4 _ _ bh3 nba
  refine seq_by (fun σ' H' => σ' = [some (.ref a), some (.ref p), some (.ref ba), some (.ref sl), o4, o5, o6, o7, o8, o9, o10, o11, o12, o13, some (.int (10 ^ 50 * 10 ^ 50 - 1)), none] ∧ H4 = H') (fun N hN => ?_) ?_
  · exact ⟨_, _, rfl, rfl, ⟨by decide, by decide, by decide⟩, _, _, rfl, rfl, ⟨by decide, by decide, by decide⟩, _, _, rfl, rfl, mulOk_of (by decide +kernel) (by decide +kernel), _, _, rfl, rfl, hN _ _ ⟨rfl, rfl⟩⟩
  rintro _ _ ⟨rfl, rfl⟩
  have nn : (0 : Int) ≤ 10 ^ 50 * 10 ^ 50 - 1 := by decide +kernel
  generalize (10 : Int) ^ 50 * 10 ^ 50 - 1 = nz at nn
  refine seq_by (fun σ' H' => ∃ gv, σ' = [some (.ref a), some (.ref p), some (.ref ba), some (.ref sl), o4, o5, o6, o7, o8, o9, o10, o11, o12, o13, some (.int nz), some gv] ∧ Kp [] H4 H' ∧ Rep [p, c, sl] H' (sumPD (List.replicate U.toNat nz) (List.replicate R.toNat nz)) gv) (fun N hN => ?_) ?_
  · refine ⟨_, rfl, small4 (Nat.le_of_ble_eq_true rfl), fun t0 h0 => ⟨_, rfl, ba, _, _, _, rfl, rfl, SqT.of (Kp.new (ex := []) h0 _ _ _ bh4 (by simp)), at1 _ _ _, ?_⟩⟩
    refine repT1 h0 u0 (by omega) fun t1 H5 k5 f1 h1 => ?_
    refine ⟨_, rfl, small4 (Nat.le_of_ble_eq_true rfl), fun t2 h2 => ⟨_, rfl, ba, _, _, _, rfl, rfl, SqT.of (Kp.new (ex := []) h2 _ _ _ (k5 _ _ bh4 (by simp)) (by simp)), at0 _ _ _, ?_⟩⟩
    refine repT1 h2 r0 (by omega) fun t3 H6 k6 f3 h3 => ?_
    refine ⟨small4 (Nat.le_of_ble_eq_true rfl), fun t4 h4 => hN _ _ ⟨_, rfl, (k5.trans k6).trans (Kp.new h4 _), ?_⟩⟩
    have n1 := N4.fre _ _ .refl f1
    have n3 := (N4.kp k5).fre _ _ .refl f3
    exact Rep.newT (.cons (Rep.tints (k6 _ _ h1 (by simp)) n1 (by rw [List.length_replicate]; omega)) (.cons (Rep.tints h3 n3 (by rw [List.length_replicate]; omega)) .nil)) h4 ((N4.kp (k5.trans k6)).fre _ _ .refl h4) (small4 (Nat.le_of_ble_eq_true rfl))
  rintro _ H5 ⟨gv, rfl, k5, rg⟩
  have N5 := N4.kp k5
  refine ⟨_, rfl, _, rfl, _, rfl, [p, c, sl], _, _, gv, _, _, gv, rfl, rg, rg, rfl, rfl, by rw [List.length_replicate]; omega, by rw [List.length_replicate]; omega, N5.fre, fun v H6 k6 rv => ⟨[p, c, sl], R, U, ws, _, _, v, rfl, N5.b.keep k6.of, rv, fun H7 k7 => ?_⟩⟩
  rw [putI_nines, putI_nines, sumB_two R U (nz + nz) (by omega) _ _ (by omega) (by omega)]
  exact ⟨_, _, rfl, rfl, q H7⟩

end
theorem all_mk {l : PySem.W.OpenLaw} {w : World} {K : PySem.W.Frag} {h : Heap} {mg : Str → Option Value} {fa f4 : Addr} (X : K.In h) (G : h.Ns mainGlobals mg) (hfa : mg "law" = some (.ref fa)) (T : Txt mg)
    (D_is_whole : Def K mg "is_whole" s_is_whole ["thing"]) (D_is_tuple_of : Def K mg "is_tuple_of" s_is_tuple_of ["thing", "many"]) (D_are_numbers : Def K mg "are_numbers" s_are_numbers ["thing", "many"]) (D_is_sum : Def K mg "is_sum" s_is_sum ["book", "thing"]) (D_put_to : Def K mg "put_to" s_put_to ["numbers", "gains"]) (D_weighed : Def K mg "weighed" s_weighed ["weights", "numbers"]) (D_worth : Def K mg "worth" s_worth ["tally", "stand"]) (D_fall : Def K mg "fall" s_fall ["book", "tally", "k"]) (D_is_kept : Def K mg "is_kept" s_is_kept ["book", "tally", "some"]) (D_falling : Def K mg "falling" s_falling ["book", "tally", "some"]) (D_together : Def K mg "together" s_together ["one", "other"]) (D_law_tape : Def K mg "_law_tape" s_law_tape ["_law_script"]) (D_law_draw : Def K mg "_law_draw" s_law_draw ["_law_tape_here", "_law_many"]) (D_law_gain : Def K mg "_law_gain" s_law_gain ["_law_tape_here"]) (D_law_gains : Def K mg "_law_gains" s_law_gains ["_law_tape_here", "_law_purses"]) (D_law_nested : Def K mg "_law_nested" s_law_nested ["_law_tape_here", "_law_rooms", "_law_purses"]) (D_law_book : Def K mg "_law_book" s_law_book ["_law_tape_here", "_law_most"]) (D_law_fall : Def K mg "_law_fall" s_law_fall ["_law_book_here", "_law_total", "_law_k"]) (D_law_kept : Def K mg "_law_kept" s_law_kept ["_law_book_here", "_law_total", "_law_some"]) (D_law_some_sum : Def K mg "_law_some_sum" s_law_some_sum ["_law_tape_here", "_law_book_here"]) (D_law_worth : Def K mg "_law_worth" s_law_worth ["_law_total", "_law_stand_here"]) (D_law_some_ways : Def K mg "_law_some_ways" s_law_some_ways ["_law_tape_here", "_law_book_here"])
    {od4 an4 : Option Addr} {sl4 : Array (Option Value)} {oc4 kV4 dc4 pm4 cd4 ct4 : Value} (a4 : PySem.W.nsIn K mainGlobals "law" = some (some (.ref f4)))
    (l4 : K.lookup f4 = some ⟨oc4, od4, .func (PySem.W.fnOf "law" "law" (defArgs s_law) (defBody s_law) (defScope s_law) .none kV4 dc4 pm4 an4 cd4 ct4), sl4⟩) (c4 : PySem.W.codeIn K cd4 "law" = true) (k4 : PySem.W.keepIn K (.ref f4) = true) :
    ∃ fd : FuncData, (∀ (s : Shared) (v : Value), BindsTo s fd ⟨[v], []⟩ [("_law_script", v)]) ∧ ∀ base : Heap, K.In base → base.Ns mainGlobals mg → FnOk l.prog w K mg base CX0 6 fa fd ["_law_script"] (spLaw K) := by
  have e := hfa.symm.trans (PySem.W.mg_of X G a4)
  cases e
  have F4 := fun_mk (st := s_law) l4 c4 k4
  refine ⟨PySem.W.fnOf "law" "law" (defArgs s_law) (defBody s_law) (defScope s_law) .none kV4 dc4 pm4 an4 cd4 ct4, fun s v => .of_eq rfl, fun base _ _ => ?_⟩
  have c_is_whole : Cal l.prog w K mg base "is_whole" 1 ["thing"] spWhole := ok_is_whole T D_is_whole 
  have c_is_tuple_of : Cal l.prog w K mg base "is_tuple_of" 1 ["thing", "many"] spTup := ok_is_tuple_of T D_is_tuple_of 
  have c_are_numbers : Cal l.prog w K mg base "are_numbers" 2 ["thing", "many"] spNums := ok_are_numbers T D_are_numbers c_is_tuple_of c_is_whole
  have c_is_sum : Cal l.prog w K mg base "is_sum" 3 ["book", "thing"] spIsSum := ok_is_sum T D_is_sum c_is_tuple_of c_is_whole c_are_numbers
  have c_put_to : Cal l.prog w K mg base "put_to" 1 ["numbers", "gains"] (spPut K) := ok_put_to T D_put_to 
  have c_weighed : Cal l.prog w K mg base "weighed" 1 ["weights", "numbers"] (spWeighed K) := ok_weighed T D_weighed 
  have c_worth : Cal l.prog w K mg base "worth" 2 ["tally", "stand"] spWorth := ok_worth T D_worth c_weighed
  have c_fall : Cal l.prog w K mg base "fall" 2 ["book", "tally", "k"] spFall := ok_fall T D_fall c_weighed
  have c_is_kept : Cal l.prog w K mg base "is_kept" 3 ["book", "tally", "some"] (spKeptL K) := ok_is_kept T D_is_kept c_fall
  have c_falling : Cal l.prog w K mg base "falling" 3 ["book", "tally", "some"] (spFalling K) := ok_falling T D_falling c_fall
  have c_together : Cal l.prog w K mg base "together" 2 ["one", "other"] spTogether := ok_together T D_together c_put_to
  have c_law_tape : Cal l.prog w K mg base "_law_tape" 1 ["_law_script"] (spTape K) := ok_law_tape T D_law_tape 
  have c_law_draw : Cal l.prog w K mg base "_law_draw" 1 ["_law_tape_here", "_law_many"] spDraw := ok_law_draw T D_law_draw 
  have c_law_gain : Cal l.prog w K mg base "_law_gain" 2 ["_law_tape_here"] spGainT := ok_law_gain T D_law_gain c_law_draw
  have c_law_gains : Cal l.prog w K mg base "_law_gains" 3 ["_law_tape_here", "_law_purses"] spGainsT := ok_law_gains T D_law_gains c_law_gain
  have c_law_nested : Cal l.prog w K mg base "_law_nested" 4 ["_law_tape_here", "_law_rooms", "_law_purses"] spNested := ok_law_nested T D_law_nested c_law_gains c_law_draw
  have c_law_book : Cal l.prog w K mg base "_law_book" 5 ["_law_tape_here", "_law_most"] spBookT := ok_law_book T D_law_book c_law_draw c_law_nested c_law_gains
  have c_law_fall : Cal l.prog w K mg base "_law_fall" 1 ["_law_book_here", "_law_total", "_law_k"] spFall := ok_law_fall T D_law_fall 
  have c_law_kept : Cal l.prog w K mg base "_law_kept" 2 ["_law_book_here", "_law_total", "_law_some"] (spKeptL K) := ok_law_kept T D_law_kept c_law_fall
  have c_law_some_sum : Cal l.prog w K mg base "_law_some_sum" 2 ["_law_tape_here", "_law_book_here"] spSomeSumG := ok_law_some_sum T D_law_some_sum c_law_draw
  have c_law_worth : Cal l.prog w K mg base "_law_worth" 1 ["_law_total", "_law_stand_here"] spWorth := ok_law_worth T D_law_worth 
  have c_law_some_ways : Cal l.prog w K mg base "_law_some_ways" 2 ["_law_tape_here", "_law_book_here"] spSomeWays := ok_law_some_ways T D_law_some_ways c_law_draw
  exact ok_law T F4 c_law_tape c_law_book c_law_some_sum c_law_draw c_worth c_law_worth c_fall c_law_fall c_law_some_ways c_is_kept c_law_kept c_falling c_together c_is_sum
theorem walk {l : PySem.W.OpenLaw} {q : Program} {loose : List Str} {XP : (Str → Option Value) → Heap → Prop} {YP : World → Heap → Prop} {d : DefRec} {K : Params → PySem.W.Frag} (hn : l.most = some 63) (hdf : d.params.defaults = [])
    (hY : ∀ (w : World) (h : Heap), YP w h → (K w.params).In h)
    (F : ∀ (w : World) (mg : Str → Option Value) (fa : Addr) (h : Heap), (K w.params).In h → h.Ns mainGlobals mg → mg d.name = some (.ref fa) →
      ∃ fd : FuncData, (∀ (s : Shared) (u : Value), BindsTo s fd ⟨[u], []⟩ [("_law_script", u)]) ∧ ∀ base : Heap, (K w.params).In base → base.Ns mainGlobals mg → FnOk l.prog w (K w.params) mg base CX0 6 fa fd ["_law_script"] (spLaw (K w.params))) :
    PySem.W.WalkO q loose XP YP l.row.toRowW d [] (fun f vs => PySem.call f vs) :=
  L2.walk_of (n := 63) (k := 6) (x := "_law_script") (CX := fun _ => CX0) (sp := fun w => spLaw (K w.params)) hn (by decide) hdf ⟨rfl, by decide, by decide, rfl⟩ hY F (fun _ _ a ns hl _ hS => ⟨a, ns, rfl, hS, hl, fun _ => rfl⟩) fun _ _ _ _ _ z => z
end My
open PySem PySem.W PyProof.Rows
set_option maxRecDepth 100000 in
set_option maxHeartbeats 0 in
theorem PySem.Challenge.cw_fallsum_k31_worths_and_falls_holds : PySem.Challenge.rw_fallsum_k31_worths_and_falls.Holds := by
  w_on; o_law; k_head; (case hw => w_witness2)
  k_fill
  refine My.walk (l := PySem.Challenge.rw_fallsum_k31_worths_and_falls) rfl rfl (fun w h Y => PySem.W.kIn_of Y) ?F
  case F =>
    intro w mg fa h KX G hmg
    refine' My.all_mk KX G hmg ⟨PySem.W.mg_none_of KX G ?z_isinstance, PySem.W.mg_none_of KX G ?z_int, PySem.W.mg_none_of KX G ?z_bool, PySem.W.mg_none_of KX G ?z_str, PySem.W.mg_none_of KX G ?z_tuple, PySem.W.mg_none_of KX G ?z_len, PySem.W.mg_none_of KX G ?z_all, PySem.W.mg_none_of KX G ?z_sum, PySem.W.mg_none_of KX G ?z_range, PySem.W.mg_none_of KX G ?z_list, PySem.W.mg_none_of KX G ?z_zip, PySem.W.mg_none_of KX G ?z_enumerate, PySem.W.mg_none_of KX G ?z_min, PySem.W.mg_none_of KX G ?z_max, PySem.W.mg_none_of KX G ?z_repr⟩
      (L2.def_mk KX G ?a_is_whole ?l_is_whole ?c_is_whole ?k_is_whole (fun _ _ _ _ _ _ us hl => match us, hl with | [_], _ => rfl))
      (L2.def_mk KX G ?a_is_tuple_of ?l_is_tuple_of ?c_is_tuple_of ?k_is_tuple_of (fun _ _ _ _ _ _ us hl => match us, hl with | [_, _], _ => rfl))
      (L2.def_mk KX G ?a_are_numbers ?l_are_numbers ?c_are_numbers ?k_are_numbers (fun _ _ _ _ _ _ us hl => match us, hl with | [_, _], _ => rfl))
      (L2.def_mk KX G ?a_is_sum ?l_is_sum ?c_is_sum ?k_is_sum (fun _ _ _ _ _ _ us hl => match us, hl with | [_, _], _ => rfl))
      (L2.def_mk KX G ?a_put_to ?l_put_to ?c_put_to ?k_put_to (fun _ _ _ _ _ _ us hl => match us, hl with | [_, _], _ => rfl))
      (L2.def_mk KX G ?a_weighed ?l_weighed ?c_weighed ?k_weighed (fun _ _ _ _ _ _ us hl => match us, hl with | [_, _], _ => rfl))
      (L2.def_mk KX G ?a_worth ?l_worth ?c_worth ?k_worth (fun _ _ _ _ _ _ us hl => match us, hl with | [_, _], _ => rfl))
      (L2.def_mk KX G ?a_fall ?l_fall ?c_fall ?k_fall (fun _ _ _ _ _ _ us hl => match us, hl with | [_, _, _], _ => rfl))
      (L2.def_mk KX G ?a_is_kept ?l_is_kept ?c_is_kept ?k_is_kept (fun _ _ _ _ _ _ us hl => match us, hl with | [_, _, _], _ => rfl))
      (L2.def_mk KX G ?a_falling ?l_falling ?c_falling ?k_falling (fun _ _ _ _ _ _ us hl => match us, hl with | [_, _, _], _ => rfl))
      (L2.def_mk KX G ?a_together ?l_together ?c_together ?k_together (fun _ _ _ _ _ _ us hl => match us, hl with | [_, _], _ => rfl))
      (L2.def_mk KX G ?a_law_tape ?l_law_tape ?c_law_tape ?k_law_tape (fun _ _ _ _ _ _ us hl => match us, hl with | [_], _ => rfl))
      (L2.def_mk KX G ?a_law_draw ?l_law_draw ?c_law_draw ?k_law_draw (fun _ _ _ _ _ _ us hl => match us, hl with | [_, _], _ => rfl))
      (L2.def_mk KX G ?a_law_gain ?l_law_gain ?c_law_gain ?k_law_gain (fun _ _ _ _ _ _ us hl => match us, hl with | [_], _ => rfl))
      (L2.def_mk KX G ?a_law_gains ?l_law_gains ?c_law_gains ?k_law_gains (fun _ _ _ _ _ _ us hl => match us, hl with | [_, _], _ => rfl))
      (L2.def_mk KX G ?a_law_nested ?l_law_nested ?c_law_nested ?k_law_nested (fun _ _ _ _ _ _ us hl => match us, hl with | [_, _, _], _ => rfl))
      (L2.def_mk KX G ?a_law_book ?l_law_book ?c_law_book ?k_law_book (fun _ _ _ _ _ _ us hl => match us, hl with | [_, _], _ => rfl))
      (L2.def_mk KX G ?a_law_fall ?l_law_fall ?c_law_fall ?k_law_fall (fun _ _ _ _ _ _ us hl => match us, hl with | [_, _, _], _ => rfl))
      (L2.def_mk KX G ?a_law_kept ?l_law_kept ?c_law_kept ?k_law_kept (fun _ _ _ _ _ _ us hl => match us, hl with | [_, _, _], _ => rfl))
      (L2.def_mk KX G ?a_law_some_sum ?l_law_some_sum ?c_law_some_sum ?k_law_some_sum (fun _ _ _ _ _ _ us hl => match us, hl with | [_, _], _ => rfl))
      (L2.def_mk KX G ?a_law_worth ?l_law_worth ?c_law_worth ?k_law_worth (fun _ _ _ _ _ _ us hl => match us, hl with | [_, _], _ => rfl))
      (L2.def_mk KX G ?a_law_some_ways ?l_law_some_ways ?c_law_some_ways ?k_law_some_ways (fun _ _ _ _ _ _ us hl => match us, hl with | [_, _], _ => rfl))
      ?a4 ?l4 ?c4 ?k4
    (case z_isinstance => k_is)
    (case z_int => k_is)
    (case z_bool => k_is)
    (case z_str => k_is)
    (case z_tuple => k_is)
    (case z_len => k_is)
    (case z_all => k_is)
    (case z_sum => k_is)
    (case z_range => k_is)
    (case z_list => k_is)
    (case z_zip => k_is)
    (case z_enumerate => k_is)
    (case z_min => k_is)
    (case z_max => k_is)
    (case z_repr => k_is)
    (case a_is_whole => k_is)
    (case l_is_whole => k_is)
    (case c_is_whole => k_is)
    (case k_is_whole => k_is)
    (case a_is_tuple_of => k_is)
    (case l_is_tuple_of => k_is)
    (case c_is_tuple_of => k_is)
    (case k_is_tuple_of => k_is)
    (case a_are_numbers => k_is)
    (case l_are_numbers => k_is)
    (case c_are_numbers => k_is)
    (case k_are_numbers => k_is)
    (case a_is_sum => k_is)
    (case l_is_sum => k_is)
    (case c_is_sum => k_is)
    (case k_is_sum => k_is)
    (case a_put_to => k_is)
    (case l_put_to => k_is)
    (case c_put_to => k_is)
    (case k_put_to => k_is)
    (case a_weighed => k_is)
    (case l_weighed => k_is)
    (case c_weighed => k_is)
    (case k_weighed => k_is)
    (case a_worth => k_is)
    (case l_worth => k_is)
    (case c_worth => k_is)
    (case k_worth => k_is)
    (case a_fall => k_is)
    (case l_fall => k_is)
    (case c_fall => k_is)
    (case k_fall => k_is)
    (case a_is_kept => k_is)
    (case l_is_kept => k_is)
    (case c_is_kept => k_is)
    (case k_is_kept => k_is)
    (case a_falling => k_is)
    (case l_falling => k_is)
    (case c_falling => k_is)
    (case k_falling => k_is)
    (case a_together => k_is)
    (case l_together => k_is)
    (case c_together => k_is)
    (case k_together => k_is)
    (case a_law_tape => k_is)
    (case l_law_tape => k_is)
    (case c_law_tape => k_is)
    (case k_law_tape => k_is)
    (case a_law_draw => k_is)
    (case l_law_draw => k_is)
    (case c_law_draw => k_is)
    (case k_law_draw => k_is)
    (case a_law_gain => k_is)
    (case l_law_gain => k_is)
    (case c_law_gain => k_is)
    (case k_law_gain => k_is)
    (case a_law_gains => k_is)
    (case l_law_gains => k_is)
    (case c_law_gains => k_is)
    (case k_law_gains => k_is)
    (case a_law_nested => k_is)
    (case l_law_nested => k_is)
    (case c_law_nested => k_is)
    (case k_law_nested => k_is)
    (case a_law_book => k_is)
    (case l_law_book => k_is)
    (case c_law_book => k_is)
    (case k_law_book => k_is)
    (case a_law_fall => k_is)
    (case l_law_fall => k_is)
    (case c_law_fall => k_is)
    (case k_law_fall => k_is)
    (case a_law_kept => k_is)
    (case l_law_kept => k_is)
    (case c_law_kept => k_is)
    (case k_law_kept => k_is)
    (case a_law_some_sum => k_is)
    (case l_law_some_sum => k_is)
    (case c_law_some_sum => k_is)
    (case k_law_some_sum => k_is)
    (case a_law_worth => k_is)
    (case l_law_worth => k_is)
    (case c_law_worth => k_is)
    (case k_law_worth => k_is)
    (case a_law_some_ways => k_is)
    (case l_law_some_ways => k_is)
    (case c_law_some_ways => k_is)
    (case k_law_some_ways => k_is)
    (case a4 => k_is)
    (case l4 => k_is)
    (case c4 => k_is)
    (case k4 => k_is)
