import PyProof.Rows.All
import Wide.All
import OpenK.AllK
import Wide.FinOn
import Lean
import PyProof.EqAt
import PyProof.EqKinds
import PyProof.TupleCall
import KE.KTryMore
import OpenK.KOwn
import PyProof.Rows.CatchOwn
import PySem.Challenge.RW_fallsum_k20_what_is_a_round
set_option Elab.async false
set_option linter.all false
set_option maxRecDepth 100000
namespace L2
open PySem PySem.Spec PyProof.Rows

abbrev Key := Sum Int Str
def keyIs : Key → Value → Bool
  | .inl k, v => Value.isInt k v
  | .inr x, v => Value.isStrOf x v
def keyH (w : World) : Key → Int
  | .inl k => hashInt k
  | .inr x => hashStr w x
theorem keyIs_shape : ∀ {k : Key} {v : Value}, keyIs k v = true → (∃ i t, k = Sum.inl i ∧ v = Value.int i t) ∨ (∃ x t, k = Sum.inr x ∧ v = Value.str x t)
  | .inl i, v, h => by
    obtain ⟨t, e⟩ := Value.isInt_shape (k := i) (v := v) h
    exact .inl ⟨i, t, rfl, e⟩
  | .inr x, v, h => by
    obtain ⟨t, e⟩ := Value.isStrOf_shape (x := x) (v := v) h
    exact .inr ⟨x, t, rfl, e⟩
theorem keyIs_int (i : Int) (t : Tok) : keyIs (.inl i) (.int i t) = true := by simp [keyIs, Value.isInt]
theorem keyIs_str (x : Str) (t : Tok) : keyIs (.inr x) (.str x t) = true := by simp [keyIs, Value.isStrOf]
theorem key_ll (a b : Int) : decide ((Sum.inl a : Key) = Sum.inl b) = (a == b) := by
  by_cases e : a = b
  · subst e; simp
  · have h : ¬ (Sum.inl a : Key) = Sum.inl b := fun q => e (Sum.inl.inj q)
    rw [decide_eq_false h]
    exact (beq_eq_false_iff_ne.mpr e).symm
theorem key_rr (a b : Str) : decide ((Sum.inr a : Key) = Sum.inr b) = decide (a = b) := by
  by_cases e : a = b
  · subst e; simp
  · have h : ¬ (Sum.inr a : Key) = Sum.inr b := fun q => e (Sum.inr.inj q)
    rw [decide_eq_false h, decide_eq_false e]
theorem key_lr (a : Int) (b : Str) : decide ((Sum.inl a : Key) = Sum.inr b) = false := decide_eq_false (fun q => nomatch q)
theorem key_rl (a : Str) (b : Int) : decide ((Sum.inr a : Key) = Sum.inl b) = false := decide_eq_false (fun q => nomatch q)

def mixKind (prog : Program) (w : World) : PySem.KeyKind prog w Key where
  is := keyIs
  hash := keyH w
  inj := fun v a b ha hb => by
    rcases keyIs_shape ha with ⟨i, t, rfl, rfl⟩ | ⟨x, t, rfl, rfl⟩
    · rcases keyIs_shape hb with ⟨j, u, rfl, e⟩ | ⟨y, u, rfl, e⟩
      · injection e with e1 _; rw [e1]
      · exact nomatch e
    · rcases keyIs_shape hb with ⟨j, u, rfl, e⟩ | ⟨y, u, rfl, e⟩
      · exact nomatch e
      · injection e with e1 _; rw [e1]
  byValue := fun k v h => by
    rcases keyIs_shape h with ⟨i, t, rfl, rfl⟩ | ⟨x, t, rfl, rfl⟩ <;> rfl
  pyHash := fun hv h => by
    rcases keyIs_shape hv with ⟨i, t, rfl, rfl⟩ | ⟨x, t, rfl, rfl⟩
    · exact wpAny_pyHash_int h
    · exact wpAny_pyHash_str h
  eqBool := fun hu hv h => by
    rcases keyIs_shape hu with ⟨i, t, rfl, rfl⟩ | ⟨x, t, rfl, rfl⟩
    · rcases keyIs_shape hv with ⟨j, u, rfl, rfl⟩ | ⟨y, u, rfl, rfl⟩
      · rw [key_ll] at h; exact wpAny_eqBool_int h
      · rw [key_lr] at h; exact SeqAt.EqAt.int_str i t y u _ _ _ _ h
    · rcases keyIs_shape hv with ⟨j, u, rfl, rfl⟩ | ⟨y, u, rfl, rfl⟩
      · rw [key_rl] at h; exact SeqAt.EqAt.str_int x t j u _ _ _ _ h
      · rw [key_rr] at h; exact wpAny_eqBool_str h
  «strs» := fun k x t v h => by
    rcases keyIs_shape h with ⟨i, u, rfl, e⟩ | ⟨y, u, rfl, e⟩
    · exact nomatch e
    · injection e with e1 _
      subst e1
      cases v <;> rfl

theorem mixKind_int (prog : Program) (w : World) (i : Int) (t : Tok) : (mixKind prog w).is (.inl i) (.int i t) = true := keyIs_int i t
theorem mixKind_str (prog : Program) (w : World) (x : Str) (t : Tok) : (mixKind prog w).is (.inr x) (.str x t) = true := keyIs_str x t
end L2

namespace L2
open PySem PySem.Spec PyProof.Rows

inductive V where
  | non | bl (b : Bool) | int (i : Int) | str (x : Str) | byt (b : Array UInt8) | flt (b : UInt64) | ref (a : Addr) | ty (n : String)
  deriving DecidableEq

def RelV : V → Value → Prop
  | .non, u => u = Value.none
  | .bl b, u => u = Value.bool b
  | .int i, u => ∃ t, u = Value.int i t
  | .str x, u => ∃ t, u = Value.str x t
  | .byt b, u => ∃ t, u = Value.bytes b t
  | .flt b, u => ∃ t, u = Value.float b t
  | .ref a, u => u = Value.ref a
  | .ty n, u => u = Value.type n

abbrev Vals : List V → List Value → Prop := Paired RelV
theorem Vals.length {xs : List V} {us : List Value} (r : Vals xs us) : xs.length = us.length := Paired.length r
theorem Vals.get : ∀ {xs : List V} {us : List Value} {i : Nat} {x : V}, Vals xs us → xs[i]? = some x → ∃ u, us[i]? = some u ∧ RelV x u
  | _, _, _, _, .nil, e => by simp at e
  | _, _, 0, _, .cons r _, e => by simp at e; subst e; exact ⟨_, rfl, r⟩
  | _, _, i + 1, x, .cons _ t, e => by
    obtain ⟨u, h1, h2⟩ := Vals.get (i := i) (x := x) t (by simpa using e)
    exact ⟨u, by simpa using h1, h2⟩
theorem Vals.set {x : V} {u : Value} (r : RelV x u) : ∀ {xs : List V} {us : List Value} (i : Nat), Vals xs us → Vals (xs.set i x) (us.set i u)
  | _, _, _, .nil => .nil
  | _, _, 0, .cons _ t => .cons r t
  | _, _, i + 1, .cons q t => .cons q (Vals.set r i t)
theorem Vals.append : ∀ {xs ys : List V} {us ws : List Value}, Vals xs us → Vals ys ws → Vals (xs ++ ys) (us ++ ws)
  | _, _, _, _, .nil, s => s
  | _, _, _, _, .cons r t, s => .cons r (Vals.append t s)
theorem Vals.take : ∀ {xs : List V} {us : List Value} (n : Nat), Vals xs us → Vals (xs.take n) (us.take n)
  | _, _, 0, _ => .nil
  | _, _, _ + 1, .nil => .nil
  | _, _, n + 1, .cons r t => .cons r (Vals.take n t)
theorem Vals.drop : ∀ {xs : List V} {us : List Value} (n : Nat), Vals xs us → Vals (xs.drop n) (us.drop n)
  | _, _, 0, r => r
  | _, _, _ + 1, .nil => .nil
  | _, _, n + 1, .cons _ t => Vals.drop n t
def RelO : Option V → Option Value → Prop
  | some v, some u => RelV v u
  | none, none => True
  | _, _ => False
def KV {κ : Type} : List (κ × V) → List (κ × Value) → Prop := Paired fun (p : κ × V) (q : κ × Value) => p.1 = q.1 ∧ RelV p.2 q.2

def kV : Key → V
  | .inl i => .int i
  | .inr x => .str x

inductive HO where
  /-- a list -/
  | lst (xs : List V)
  /-- a tuple (never changes) -/
  | tup (xs : List V)
  /-- a dict whose keys are ints and texts; one whose keys are tuples of ints and texts (the empty one is both) -/
  | dK (kvs : List (Key × V)) | dT (kvs : List (List Key × V))
  /-- a set of ints: its members, its size -/
  | set (S : Int → Bool) (n : Nat)
  /-- an instance of the class at C, its dict at dx, its attributes -/
  | ins (C dx : Addr) (fs : List (Str × V))
  /-- the dict of the instance at x -/
  | own (x : Addr)
  /-- the dict of an exception -/
  | xd (fs : List (Str × V))
  /-- a bound method, f of x -/
  | met (f x : Addr)
  /-- a range object lo, lo + 1, .. below hi -/
  | rng (lo hi : Int)
  /-- a thing that is known to the object (the script; a dict while a loop walks it): read, never written while it is so -/
  | frz (o : Obj) (u : HO)
  /-- a code object's table -/
  | tbl (ps : Array Value)
  /-- any other thing, by what is true of its one object (a def of one's own: SetO a S n := HO.ext fun h => ..) -/
  | ext (φ : Heap → Prop)

abbrev Hp := Addr → Option HO
def upd (H : Hp) (a : Addr) (o : HO) : Hp := fun b => if b = a then some o else H b
theorem upd_same {H : Hp} {a : Addr} {o : HO} : upd H a o a = some o := by unfold upd; rw [if_pos rfl]
theorem upd_ne {H : Hp} {a b : Addr} {o : HO} (h : b ≠ a) : upd H a o b = H b := by unfold upd; rw [if_neg h]
theorem ne_of {H : Hp} {a b : Addr} {o u : HO} (h : H a = some o) (h' : H b = some u) (d : o ≠ u) : a ≠ b := by
  intro e; subst e; rw [h] at h'; exact d (Option.some.inj h')
theorem ne_of_none {H : Hp} {a b : Addr} {o : HO} (h : H a = some o) (h' : H b = none) : a ≠ b := by
  intro e; subst e; rw [h] at h'; cases h'

section
variable (P : Program) (w : World)
def ObjOk (H : Hp) (h : Heap) (a : Addr) : HO → Prop
  | .lst xs => xs.length ≤ sizeLine ∧ ∃ (its : List Value) (n : Nat), Vals xs its ∧ h.get? a = some { cls := .type "list", data := .seq its.toArray n }
  | .tup xs => xs.length ≤ sizeLine ∧ ∃ its : List Value, Vals xs its ∧ IsTup h a its.toArray
  | .dK kvs => kvs.length ≤ sizeLine ∧ (a == sysModules) = false ∧ ∃ vs, KV kvs vs ∧ h.DictOf (mixKind P w) a vs
  | .dT kvs => kvs.length ≤ sizeLine ∧ (a == sysModules) = false ∧ ∃ xs : List (List Key × Addr × Value),
      Paired (fun (p : List Key × V) (q : List Key × Addr × Value) => p.1 = q.1 ∧ H q.2.1 = some (.tup (p.1.map kV)) ∧ RelV p.2 q.2.2) kvs xs ∧
      ∃ o es ep, h.get? a = some o ∧ o.ExactDict ∧ o.data = .dict es ep ∧ es.toList = xs.map (entryOfKey (tupleKind (mixKind P w))) ∧ (xs.map (·.1)).Nodup
  | .set S n => h.SetOf (intKind P w) a S n
  | .ins C dx fs => H dx = some (.own a) ∧ fs.length ≤ 1000 ∧ dx ≠ a ∧ h.get? a = some (PySem.W.instObj C dx) ∧
      ∃ mA, h.Ns1 dx mA ∧ (∀ f, RelO (fs.lookup f) (mA f)) ∧ PySem.Within mA (fs.map (·.1))
  | .own _ => ∃ o, h.get? a = some o
  | .xd fs => ∃ mA, h.Ns1 a mA ∧ ∀ f, RelO (fs.lookup f) (mA f)
  | .rng lo hi => ∃ t u v, h.get? a = some { cls := .type "range", data := .fields #[.int lo t, .int hi u, .int 1 v] }
  | .frz o u => h.get? a = some o ∧ ObjOk H h a u
  | .tbl ps => h.get? a = some { cls := .none, data := .fields ps }
  | .met f x => h.get? a = some (PySem.W.methodObj (.ref f) (.ref x))
  | .ext φ => φ h ∧ (∃ o, h.get? a = some o) ∧ ∀ h1 h2 : Heap, φ h1 → (∀ o, h1.get? a = some o → h2.get? a = some o) → φ h2
def HOk (H : Hp) (h : Heap) : Prop := ∀ a o, H a = some o → ObjOk P w H h a o
end

section
variable {P : Program} {w : World} {H H' : Hp} {h h' : Heap} {a : Addr} {o : HO}
theorem ObjOk.lt (x : ObjOk P w H h a o) : a < h.objs.size := by
  cases o with
  | lst xs => obtain ⟨_, _, _, _, e⟩ := x; exact Heap.lt_size e
  | tup xs => obtain ⟨_, _, _, p⟩ := x; exact p.lt
  | dK kvs => obtain ⟨_, _, _, _, o, _, _, e, _⟩ := x; exact Heap.lt_size e
  | dT kvs => obtain ⟨_, _, _, _, o, _, _, e, _⟩ := x; exact Heap.lt_size e
  | set S n => obtain ⟨o, _, _, _, e, _⟩ := x; exact Heap.lt_size e
  | ins C dx fs => obtain ⟨_, _, _, e, _⟩ := x; exact Heap.lt_size e
  | own y => obtain ⟨_, e⟩ := x; exact Heap.lt_size e
  | xd fs => obtain ⟨_, ⟨_, _, _, e, _⟩, _⟩ := x; exact Heap.lt_size e
  | rng lo hi => obtain ⟨_, _, _, e⟩ := x; exact Heap.lt_size e
  | frz ob u => obtain ⟨e, _⟩ := x; exact Heap.lt_size e
  | tbl ps => exact Heap.lt_size (show h.get? a = some _ from x)
  | met f y => exact Heap.lt_size (show h.get? a = some _ from x)
  | ext φ => obtain ⟨_, ⟨_, e⟩, _⟩ := x; exact Heap.lt_size e
theorem Paired.mapP {α β : Type} {F G : α → β → Prop} : ∀ {l₁ : List α} {l₂ : List β}, Paired F l₁ l₂ → (∀ a b, F a b → G a b) → Paired G l₁ l₂
  | _, _, .nil, _ => .nil
  | _, _, .cons r t, f => .cons (f _ _ r) (Paired.mapP t f)
theorem ObjOk.stay (x : ObjOk P w H h a o) (k : ∀ b u, (b = a ∨ H b = some (.own a)) → h.get? b = some u → h'.get? b = some u)
    (ho : ∀ b, H b = some (.own a) → H' b = some (.own a)) (ht : ∀ b xs, H b = some (.tup xs) → H' b = some (.tup xs)) : ObjOk P w H' h' a o := by
  induction o with
  | lst xs => obtain ⟨z, its, n, r, e⟩ := x; exact ⟨z, its, n, r, k _ _ (.inl rfl) e⟩
  | tup xs => obtain ⟨z, its, r, ob, e, c⟩ := x; exact ⟨z, its, r, ob, k _ _ (.inl rfl) e, c⟩
  | dK kvs => obtain ⟨z, y, vs, r, ob, es, ep, e, c⟩ := x; exact ⟨z, y, vs, r, ob, es, ep, k _ _ (.inl rfl) e, c⟩
  | dT kvs =>
    obtain ⟨z, y, xs, r, ob, es, ep, e, c⟩ := x
    exact ⟨z, y, xs, Paired.mapP r fun p q z => ⟨z.1, ht _ _ z.2.1, z.2.2⟩, ob, es, ep, k _ _ (.inl rfl) e, c⟩
  | set S n => obtain ⟨ob, es, ep, t, e, c⟩ := x; exact ⟨ob, es, ep, t, k _ _ (.inl rfl) e, c⟩
  | ins C dx fs =>
    obtain ⟨d, z, ne, e, mA, ⟨od, es, ep, e2, c⟩, r⟩ := x
    exact ⟨ho _ d, z, ne, k _ _ (.inl rfl) e, mA, ⟨od, es, ep, k _ _ (.inr d) e2, c⟩, r⟩
  | own y => obtain ⟨ob, e⟩ := x; exact ⟨ob, k _ _ (.inl rfl) e⟩
  | xd fs => obtain ⟨mA, ⟨od, es, ep, e, c⟩, r⟩ := x; exact ⟨mA, ⟨od, es, ep, k _ _ (.inl rfl) e, c⟩, r⟩
  | rng lo hi => obtain ⟨t, u, v, e⟩ := x; exact ⟨t, u, v, k _ _ (.inl rfl) e⟩
  | frz ob u ih => obtain ⟨e, q⟩ := x; exact ⟨k _ _ (.inl rfl) e, ih q⟩
  | tbl ps =>
    have e : h.get? a = some { cls := .none, data := .fields ps } := x
    show h'.get? a = some { cls := .none, data := .fields ps }
    exact k a _ (.inl rfl) e
  | met f y =>
    have e : h.get? a = some (PySem.W.methodObj (.ref f) (.ref y)) := x
    show h'.get? a = some (PySem.W.methodObj (.ref f) (.ref y))
    exact k a _ (.inl rfl) e
  | ext φ => obtain ⟨p, ⟨o, e⟩, st⟩ := x; exact ⟨st _ _ p fun o q => k _ _ (.inl rfl) q, ⟨o, k _ _ (.inl rfl) e⟩, st⟩
theorem HOk.lt (x : HOk P w H h) (e : H a = some o) : a < h.objs.size := (x a o e).lt
theorem HOk.fresh (x : HOk P w H h) (e : h.objs.size ≤ a) : H a = none := by
  cases q : H a with
  | none => rfl
  | some u => exact absurd (Nat.lt_of_lt_of_le (x.lt q) e) (Nat.lt_irrefl _)
theorem HOk.kept (x : HOk P w H h) (k : ∀ b u, h.get? b = some u → h'.get? b = some u) : HOk P w H h' := fun a o e =>
  (x a o e).stay (fun b u _ q => k b u q) (fun _ q => q) fun _ _ q => q
theorem HOk.laid (x : HOk P w H h) (k : ∀ b u, h.get? b = some u → h'.get? b = some u) (hp : h.objs.size ≤ a) (new : ObjOk P w (upd H a o) h' a o) : HOk P w (upd H a o) h' := fun b u e => by
  have hn := x.fresh hp
  by_cases hb : b = a
  · subst hb; rw [upd_same] at e; cases e; exact new
  · rw [upd_ne hb] at e
    exact (x b u e).stay (fun c v _ q => k c v q) (fun c q => by rw [upd_ne (ne_of_none q hn)]; exact q) fun c xs q => by rw [upd_ne (ne_of_none q hn)]; exact q
end

def Rd (H : Hp) (a : Addr) (u : HO) : Prop := H a = some u ∨ ∃ o, H a = some (.frz o u)
theorem Rd.ok {P : Program} {w : World} {H : Hp} {h : Heap} {a : Addr} {u : HO} (r : Rd H a u) (x : HOk P w H h) : ObjOk P w H h a u := by
  rcases r with r | ⟨o, r⟩
  · exact x a u r
  · obtain ⟨_, q⟩ := x a _ r
    exact q
def Mut : Option HO → Prop
  | some (.lst _) => True
  | some (.dK _) => True
  | some (.dT _) => True
  | some (.set _ _) => True
  | some (.ins _ _ _) => True
  | some (.ext _) => True
  | _ => False
section
variable {P : Program} {w : World} {H : Hp} {h h' : Heap} {x e : Addr} {o' : HO}
theorem HOk.write (ok : HOk P w H h) (mu : Mut (H x)) (he : e = x ∨ H e = some (.own x)) (k : ∀ b u, b ≠ e → h.get? b = some u → h'.get? b = some u) (heo : ∃ u, h'.get? e = some u)
    (new : ObjOk P w (upd H x o') h' x o') : HOk P w (upd H x o') h' := fun b u q => by
  have nown : ∀ c y, H c = some (.own y) → c ≠ x := fun c y r z => by subst z; rw [r] at mu; exact mu
  have ntup : ∀ c xs, H c = some (.tup xs) → c ≠ x := fun c xs r z => by subst z; rw [r] at mu; exact mu
  by_cases hb : b = x
  · subst hb; rw [upd_same] at q; cases q; exact new
  · rw [upd_ne hb] at q
    by_cases hbe : b = e
    · have q' : H b = some (.own x) := by
        rcases he with z | z
        · exact absurd (hbe.trans z) hb
        · rw [hbe]; exact z
      rw [q] at q'; cases q'
      obtain ⟨v, hv⟩ := heo
      exact ⟨v, by rw [hbe]; exact hv⟩
    · refine (ok b u q).stay (fun c v hc r => k c v ?_ r) (fun c r => by rw [upd_ne (nown c b r)]; exact r) fun c xs r => by rw [upd_ne (ntup c xs r)]; exact r
      rcases hc with rfl | hc
      · exact hbe
      · rintro rfl
        rcases he with z | z
        · exact nown c b hc z
        · rw [hc] at z; cases z; exact hb rfl
end

structure Un (fs ex : List Addr) (H H' : Hp) (h h' : Heap) : Prop where
  keep : ∀ b o, h.get? b = some o → H b = none → b ∉ fs → b ∉ ex → h'.get? b = some o
  slot : ∀ b o, h.get? b = some o → H b = none → b ∈ fs → b ∉ ex → ∃ sl, h'.get? b = some { o with slots := sl }
  free : ∀ b o, h.get? b = some o → H b = none → b ∉ ex → H' b = none
  there : ∀ b o, h.get? b = some o → b ∉ ex → ∃ o', h'.get? b = some o'
  tups : ∀ b xs, H b = some (.tup xs) → H' b = some (.tup xs)
  frzs : ∀ b o u, H b = some (.frz o u) → H' b = some (.frz o u)
  tbls : ∀ b ps, H b = some (.tbl ps) → ∃ more, H' b = some (.tbl (ps ++ more))
section
variable {fs fs' ex ex' : List Addr} {H H1 H2 : Hp} {h h1 h2 h' : Heap} {a x e : Addr} {o : HO}
theorem Un.any (u : Un fs ex H H1 h h1) {b : Addr} {ob : Obj} (q : h.get? b = some ob) (n : H b = none) (hx : b ∉ ex) : ∃ sl, h1.get? b = some { ob with slots := sl } := by
  by_cases hb : b ∈ fs
  · exact u.slot b ob q n hb hx
  · exact ⟨ob.slots, u.keep b ob q n hb hx⟩
theorem Un.kept (k : ∀ b u, h.get? b = some u → h'.get? b = some u) : Un fs ex H H h h' :=
  ⟨fun b ob q _ _ _ => k b ob q, fun b ob q _ _ _ => ⟨ob.slots, k b ob q⟩, fun _ _ _ n _ => n, fun b ob q _ => ⟨ob, k b ob q⟩, fun _ _ q => q, fun _ _ _ q => q, fun _ ps q => ⟨#[], by rw [q]; simp⟩⟩
theorem Un.refl : Un fs ex H H h h := Un.kept fun _ _ q => q
theorem Un.laid (k : ∀ b u, h.get? b = some u → h'.get? b = some u) (hp : h.objs.size ≤ a) (hn : H a = none) : Un fs ex H (upd H a o) h h' where
  keep := fun b u q _ _ _ => k b u q
  slot := fun b u q _ _ _ => ⟨u.slots, k b u q⟩
  free := fun b u q n _ => by rw [upd_ne (Nat.ne_of_lt (Nat.lt_of_lt_of_le (Heap.lt_size q) hp))]; exact n
  there := fun b u q _ => ⟨u, k b u q⟩
  tups := fun b xs q => by rw [upd_ne (ne_of_none q hn)]; exact q
  frzs := fun b u xs q => by rw [upd_ne (ne_of_none q hn)]; exact q
  tbls := fun b ps q => ⟨#[], by rw [upd_ne (ne_of_none q hn), q]; simp⟩
theorem Un.write (mu : Mut (H x)) (he : e = x ∨ H e = some (.own x)) (k : ∀ b u, b ≠ e → h.get? b = some u → h'.get? b = some u) (heo : ∃ u, h'.get? e = some u) : Un fs ex H (upd H x o) h h' := by
  have hx : ∀ b, H b = none → b ≠ x := fun b n z => by subst z; rw [n] at mu; exact mu
  have hb : ∀ b, H b = none → b ≠ e := fun b n z => by
    subst z
    rcases he with r | r
    · exact hx b n r
    · rw [n] at r; cases r
  have hm : ∀ b u, H b = some u → ¬ Mut (some u) → b ≠ x := fun b u q nm z => by subst z; rw [q] at mu; exact nm mu
  refine ⟨fun b u q n _ _ => k b u (hb b n) q, fun b u q n _ _ => ⟨u.slots, k b u (hb b n) q⟩, fun b u q n _ => by rw [upd_ne (hx b n)]; exact n, fun b u q _ => ?_,
    fun b xs q => by rw [upd_ne (hm b _ q fun z => z)]; exact q, fun b u xs q => by rw [upd_ne (hm b _ q fun z => z)]; exact q, fun b ps q => ⟨#[], by rw [upd_ne (hm b _ q fun z => z), q]; simp⟩⟩
  by_cases hbe : b = e
  · subst hbe; exact heo
  · exact ⟨u, k b u hbe q⟩
end

def trk (h : Heap) (H : Hp) : List Addr := (List.range h.objs.size).filter fun a => (H a).isSome
def hidT (h : Heap) (H : Hp) : Heap := PySem.W.hideAll h (trk h H)
theorem hidT_size (h : Heap) (H : Hp) : (hidT h H).objs.size = h.objs.size := PySem.W.hideAll_size _ _
theorem hidT_get {h : Heap} {H : Hp} {b : Addr} {o : Obj} (e : h.get? b = some o) (n : H b = none) : (hidT h H).get? b = some o :=
  PySem.W.hideAll_get _ e fun hm => by
    have q : (H b).isSome = true := (List.mem_filter.mp hm).2
    rw [n] at q; simp at q
theorem of_hidT {h : Heap} {H : Hp} {b : Addr} {o : Obj} (e : (hidT h H).get? b = some o) : h.get? b = some o ∧ H b = none := by
  have e' : h.get? b = some o := PySem.W.of_hideAll (trk h H) e
  refine ⟨e', ?_⟩
  cases q : H b with
  | none => rfl
  | some x =>
    have hm : b ∈ trk h H := List.mem_filter.mpr ⟨List.mem_range.mpr (Heap.lt_size e'), by simp [q]⟩
    have z : (hidT h H).get? b = none := PySem.W.hideAll_none (trk h H) hm
    rw [z] at e; cases e

end L2

namespace L2
open PySem PySem.Spec PyProof.Rows

structure Mod (K : PySem.W.Frag) (mg : Str → Option Value) (base : Heap) : Prop where
  kin : K.In base
  glob : base.Ns mainGlobals mg
  blt : ∃ mb, base.Ns builtinsNs mb ∧ ∀ x : Str, x ≠ "__name__" → mb x = bootBuiltins x
  nolimit : base.NoLimit

structure Cx where
  prog : Program
  w : World
  K : PySem.W.Frag
  mg : Str → Option Value
  base : Heap
  A : Around
  N : List Str
  s₀ : Shared
  H₀ : Hp
  env : Env
  outer : List Env
  stack : List Env
  ex : List Addr
  fn : Str → Bool
  calm : Bool
  pn : List (Addr × Obj)
  xe : Value → Shared → Prop
def frs (l : List Env) : List Addr := l.filterMap (·.frame)
abbrev Cx.fs (X : Cx) : List Addr := frs X.outer

def Vis (sc : Scope) (x : Str) : Prop := sc.names.lookup x = some .local ∨ sc.names.lookup x = some .cell ∨ sc.names.lookup x = some .free
def Loc (sc : Scope) (x : Str) : Prop := sc.names.lookup x = some .local ∨ sc.names.lookup x = some .cell
def Look (env : Env) (h : Heap) (m : Str → Option Value) (x : Str) (u : Value) : Prop :=
  (env.kindOf x = some .local ∧ m x = some u) ∨ ((env.kindOf x = some .cell ∨ env.kindOf x = some .free) ∧ ∃ c, env.cells.lookup x = some c ∧ h.IsCell c (some u))

structure Cx.Ok (X : Cx) : Prop where
  mod : Mod X.K X.mg X.base
  kind : X.env.scope.kind = .function
  glob : X.env.globals = mainGlobals
  blt : X.env.builtins = builtinsNs
  above : X.s₀.heap.objs.size ≤ X.env.locals
  inj : ∀ x y c, X.env.cells.lookup x = some c → X.env.cells.lookup y = some c → x = y
  has : ∀ x, (X.env.kindOf x = some .cell ∨ X.env.kindOf x = some .free) → ∃ c, X.env.cells.lookup x = some c
  cab : ∀ x c, X.fn x = true → X.env.cells.lookup x = some c → X.s₀.heap.objs.size ≤ c
  hd : X.calm = true → X.A.handled = none
  frames : X.A.frames = some X.stack
  stk : X.stack = X.outer ∨ (X.stack = X.env :: X.outer ∧ X.env.frame = some X.env.locals)
  exf : ∀ b ∈ X.ex, b ≠ X.env.locals ∧ ∀ x c, X.env.cells.lookup x = some c → c ≠ b
  bs : ∀ b o, X.base.get? b = some o → X.s₀.heap.get? b = some o ∧ X.H₀ b = none
  bsz : X.base.objs.size ≤ X.s₀.heap.objs.size
  noex : ∀ b o, X.base.get? b = some o → b ∉ X.ex
  exfs : ∀ b ∈ X.ex, b ∉ X.fs
  funs : X.s₀.heap.FunFrames X.base X.outer
  frf : ∀ b ∈ X.fs, X.H₀ b = none

structure Inv (X : Cx) (pins : List (Addr × Obj)) (σ : List (Option V)) (H : Hp) (s : Shared) : Prop where
  ok : X.Ok
  os : s.os = X.s₀.os
  bare : AllBare s.gens
  base : Un X.fs X.ex X.H₀ H X.s₀.heap s.heap
  loc : ∃ m, s.heap.Ns X.env.locals m ∧ ∀ (i : Nat) (x : Str) (v : V), X.N[i]? = some x → σ[i]? = some (some v) → Vis X.env.scope x → ∃ u, RelV v u ∧ Look X.env s.heap m x u
  cell : ∀ x c, X.env.cells.lookup x = some c → ∃ v, s.heap.IsCell c v
  free : H X.env.locals = none
  freeC : ∀ x c, X.env.cells.lookup x = some c → H c = none
  pin : ∀ p ∈ X.pn ++ pins, s.heap.get? p.1 = some p.2 ∧ H p.1 = none ∧ p.1 ≠ X.env.locals ∧ p.1 ∉ X.fs ∧ ∀ v, p.2.data ≠ .cell v
  hok : HOk X.prog X.w H s.heap
  len : σ.length = X.N.length

section
variable {X : Cx} {pins : List (Addr × Obj)} {σ : List (Option V)} {H H' : Hp} {s : Shared} {h' : Heap}

theorem Cx.Ok.nofr (ok : X.Ok) {b : Addr} {o : Obj} (e : X.base.get? b = some o) : b ∉ X.fs := fun hb => by
  have := (ok.funs.mem hb).1
  rw [e] at this; cases this
theorem Inv.bs (I : Inv X pins σ H s) : ∀ b o, X.base.get? b = some o → s.heap.get? b = some o ∧ H b = none := fun b o e =>
  ⟨I.base.keep b o (I.ok.bs b o e).1 (I.ok.bs b o e).2 (I.ok.nofr e) (I.ok.noex b o e), I.base.free b o (I.ok.bs b o e).1 (I.ok.bs b o e).2 (I.ok.noex b o e)⟩
theorem Inv.bk (I : Inv X pins σ H s) : ∀ b o, X.base.get? b = some o → s.heap.get? b = some o := fun b o e => (I.bs b o e).1
theorem Inv.mod (I : Inv X pins σ H s) : Mod X.K X.mg X.base := I.ok.mod
theorem Inv.kIn (I : Inv X pins σ H s) : X.K.In s.heap := I.ok.mod.kin.keeps I.bk
theorem Inv.lt (I : Inv X pins σ H s) : X.env.locals < s.heap.objs.size := let ⟨_, hn, _⟩ := I.loc; hn.lt
theorem Inv.sz (I : Inv X pins σ H s) : X.s₀.heap.objs.size ≤ s.heap.objs.size := Nat.le_trans I.ok.above (Nat.le_of_lt I.lt)
theorem Inv.nofs (I : Inv X pins σ H s) {a : Addr} (h : s.heap.objs.size ≤ a) : a ∉ X.fs := fun hb => by
  obtain ⟨_, o, ho, _⟩ := I.ok.funs.mem hb
  exact absurd (Nat.lt_of_lt_of_le (Heap.lt_size ho) (Nat.le_trans I.sz h)) (Nat.lt_irrefl _)
theorem Inv.cne (I : Inv X pins σ H s) : ∀ x c, X.env.cells.lookup x = some c → c ≠ X.env.locals := fun x c e z => by
  obtain ⟨v, o, ho, hd⟩ := I.cell x c e
  obtain ⟨m, ⟨o', es, ep, ho', hd', _⟩, _⟩ := I.loc
  rw [z, ho'] at ho; cases ho; rw [hd'] at hd; cases hd
theorem Inv.funs (I : Inv X pins σ H s) : s.heap.FunFrames X.base X.outer := by
  have all : ∀ (l : List Env), (∀ b ∈ frs l, b ∈ X.fs) → X.s₀.heap.FunFrames X.base l → s.heap.FunFrames X.base l := by
    intro l
    induction l with
    | nil => intro _ _; trivial
    | cons env r ih =>
      intro hs hl
      obtain ⟨hk, ⟨L, o, hf, hn, ho, hd⟩, hr⟩ := hl
      have hL : L ∈ X.fs := hs L (by unfold frs; rw [List.filterMap_cons, hf]; exact List.mem_cons_self)
      obtain ⟨sl, e⟩ := I.base.slot L o ho (I.ok.frf L hL) hL fun z => I.ok.exfs L z hL
      exact ⟨hk, ⟨L, _, hf, hn, e, hd⟩, ih (fun b hb => hs b (by unfold frs; rw [List.filterMap_cons, hf]; exact List.mem_cons_of_mem _ hb)) hr⟩
  exact all X.outer (fun _ hb => hb) I.ok.funs

theorem Inv.stack (I : Inv X pins σ H s) : s.heap.FunFrames X.base X.stack := by
  rcases I.ok.stk with e | ⟨e, hf⟩
  · rw [e]; exact I.funs
  · rw [e]
    obtain ⟨m, hn, _⟩ := I.loc
    refine .cons (by rw [I.ok.kind]; decide) hf hn ?_ I.funs
    exact Heap.get?_none_of_le (Nat.le_trans I.ok.bsz I.ok.above)
theorem Inv.stkSub (I : Inv X pins σ H s) : ∀ b ∈ frs X.stack, b ∈ X.env.locals :: X.fs := fun b hb => by
  rcases I.ok.stk with e | ⟨e, hf⟩
  · rw [e] at hb; exact List.mem_cons_of_mem _ hb
  · rw [e] at hb
    unfold frs at hb
    rw [List.filterMap_cons, hf] at hb
    exact hb
theorem Inv.stkFree (I : Inv X pins σ H s) : ∀ b ∈ frs X.stack, H b = none := fun b hb => by
  rcases List.mem_cons.mp (I.stkSub b hb) with e | hb
  · rw [e]; exact I.free
  · obtain ⟨_, o, ho, _⟩ := I.ok.funs.mem hb
    exact I.base.free b o ho (I.ok.frf b hb) fun z => I.ok.exfs b z hb

theorem Inv.step {g' : Array GenState} {t' : Nat} {d' : Drawn} {ch : List Addr} (I : Inv X pins σ H s)
    (hch : ∀ b ∈ ch, (b ∈ X.ex ∨ X.s₀.heap.objs.size ≤ b) ∧ b ≠ X.env.locals ∧ (∀ x c, X.env.cells.lookup x = some c → c ≠ b) ∧ ∀ p ∈ X.pn ++ pins, p.1 ≠ b)
    (keep : ∀ b o, b ≠ X.env.locals → b ∉ X.fs → b ∉ ch → s.heap.get? b = some o → H b = none → h'.get? b = some o)
    (slot : ∀ b o, b ≠ X.env.locals → b ∈ X.fs → b ∉ ch → s.heap.get? b = some o → H b = none → ∃ sl, h'.get? b = some { o with slots := sl }) (free : ∀ b o, b ∉ ch → s.heap.get? b = some o → H b = none → H' b = none)
    (there : ∀ b o, b ∉ ch → s.heap.get? b = some o → ∃ o', h'.get? b = some o')
    (tups : ∀ b xs, H b = some (.tup xs) → H' b = some (.tup xs)) (frzs : ∀ b o u, H b = some (.frz o u) → H' b = some (.frz o u)) (tbls : ∀ b ps, H b = some (.tbl ps) → ∃ more, H' b = some (.tbl (ps ++ more)))
    (ns : ∀ m, s.heap.Ns X.env.locals m → h'.Ns X.env.locals m) (hok : HOk X.prog X.w H' h') (hg : AllBare g') :
    Inv X pins σ H' { s with heap := h', gens := g', drawn := d', toks := t' } := by
  have neL : ∀ b o, X.s₀.heap.get? b = some o → b ≠ X.env.locals := fun b o e => Nat.ne_of_lt (Nat.lt_of_lt_of_le (Heap.lt_size e) I.ok.above)
  have neC : ∀ b o, X.s₀.heap.get? b = some o → b ∉ X.ex → b ∉ ch := fun b o e hx hb => by
    rcases (hch b hb).1 with z | z
    · exact hx z
    · exact absurd (Nat.lt_of_lt_of_le (Heap.lt_size e) z) (Nat.lt_irrefl _)
  have cellK : ∀ x c, X.env.cells.lookup x = some c → ∀ v, s.heap.IsCell c v → h'.IsCell c v := fun x c e v ⟨o, ho, hd⟩ => by
    have nch : c ∉ ch := fun z => (hch c z).2.2.1 x c e rfl
    by_cases hc : c ∈ X.fs
    · obtain ⟨sl, q⟩ := slot c o (I.cne x c e) hc nch ho (I.freeC x c e)
      exact ⟨_, q, hd⟩
    · exact ⟨o, keep c o (I.cne x c e) hc nch ho (I.freeC x c e), hd⟩
  refine ⟨I.ok, I.os, hg, ⟨fun b o e n hb hx => ?_, fun b o e n hb hx => ?_, fun b o e n hx => ?_, fun b o e hx => ?_, fun b xs e => tups b xs (I.base.tups b xs e), fun b o xs e => frzs b o xs (I.base.frzs b o xs e), fun b ps e => ?_⟩, ?_, fun x c e => ?_, ?_, fun x c e => ?_, fun p hp => ?_, hok, I.len⟩
  · exact keep b o (neL b o e) hb (neC b o e hx) (I.base.keep b o e n hb hx) (I.base.free b o e n hx)
  · obtain ⟨sl, e1⟩ := I.base.slot b o e n hb hx
    obtain ⟨sl', e2⟩ := slot b _ (neL b o e) hb (neC b o e hx) e1 (I.base.free b o e n hx)
    exact ⟨sl', e2⟩
  · obtain ⟨o', e1⟩ := I.base.there b o e hx
    exact free b o' (neC b o e hx) e1 (I.base.free b o e n hx)
  · obtain ⟨o', e1⟩ := I.base.there b o e hx
    exact there b o' (neC b o e hx) e1
  · obtain ⟨m1, e1⟩ := I.base.tbls b ps e
    obtain ⟨m2, e2⟩ := tbls b _ e1
    exact ⟨m1 ++ m2, by rw [e2, Array.append_assoc]⟩
  · obtain ⟨m, hn, hl⟩ := I.loc
    refine ⟨m, ns m hn, fun i x v e1 e2 e3 => ?_⟩
    obtain ⟨u, r, l⟩ := hl i x v e1 e2 e3
    refine ⟨u, r, ?_⟩
    rcases l with l | ⟨k, c, e, z⟩
    · exact .inl l
    · exact .inr ⟨k, c, e, cellK x c e _ z⟩
  · obtain ⟨v, z⟩ := I.cell x c e
    exact ⟨v, cellK x c e v z⟩
  · obtain ⟨m, ⟨o, _, _, ho, _⟩, _⟩ := I.loc
    exact free _ o (fun z => (hch _ z).2.1 rfl) ho I.free
  · obtain ⟨v, o, ho, hd⟩ := I.cell x c e
    exact free c o (fun z => (hch c z).2.2.1 x c e rfl) ho (I.freeC x c e)
  · obtain ⟨e, n, ne, nf, d⟩ := I.pin p hp
    have nch : p.1 ∉ ch := fun z => (hch p.1 z).2.2.2 p hp rfl
    exact ⟨keep p.1 p.2 ne nf nch e n, free p.1 p.2 nch e n, ne, nf, d⟩
theorem Inv.un {t' : Nat} (I : Inv X pins σ H s) (u : Un X.fs [] H H' s.heap h') (hok : HOk X.prog X.w H' h') : Inv X pins σ H' { s with heap := h', toks := t' } := by
  obtain ⟨m, ⟨o, es, ep, ho, r⟩, _⟩ := id I.loc
  obtain ⟨sl, hL⟩ := u.any ho I.free (by simp)
  exact I.step (g' := s.gens) (d' := s.drawn) (ch := []) (fun _ z => nomatch z) (fun b o _ hb _ e n => u.keep b o e n hb (by simp)) (fun b o _ hb _ e n => u.slot b o e n hb (by simp)) (fun b o _ e n => u.free b o e n (by simp)) (fun b o _ e => u.there b o e (by simp)) u.tups u.frzs u.tbls (fun m' hm => by
    obtain ⟨o', es', ep', ho', r'⟩ := hm
    rw [ho] at ho'; cases ho'
    exact ⟨_, es', ep', hL, r'⟩) hok I.bare
theorem Inv.call {g' : Array GenState} {t' : Nat} {d' : Drawn} {ch : List Addr} (I : Inv X pins σ H s) (u : Un (frs X.stack) ch H H' s.heap h') (hok : HOk X.prog X.w H' h') (hg : AllBare g')
    (hch : ∀ b ∈ ch, (b ∈ X.ex ∨ X.s₀.heap.objs.size ≤ b) ∧ b ≠ X.env.locals ∧ (∀ x c, X.env.cells.lookup x = some c → c ≠ b) ∧ ∀ p ∈ X.pn ++ pins, p.1 ≠ b) :
    Inv X pins σ H' { s with heap := h', gens := g', drawn := d', toks := t' } := by
  obtain ⟨m, ⟨o, es, ep, ho, r⟩, _⟩ := id I.loc
  obtain ⟨sl, hL⟩ := u.any ho I.free fun z => (hch _ z).2.1 rfl
  exact I.step (ch := ch) hch (fun b o hL hb hc e n => u.keep b o e n (fun z => (List.mem_cons.mp (I.stkSub b z)).elim hL hb) hc) (fun b o _ _ hc e n => u.any e n hc) (fun b o hc e n => u.free b o e n hc) (fun b o hc e => u.there b o e hc) u.tups u.frzs u.tbls (fun m' hm => by
    obtain ⟨o', es', ep', ho', r'⟩ := hm
    rw [ho] at ho'; cases ho'
    exact ⟨_, es', ep', hL, r'⟩) hok hg
theorem Inv.turned {t' : Nat} {it : Addr} (I : Inv X pins σ H s) (k : ∀ b o, b ≠ it → s.heap.get? b = some o → h'.get? b = some o) (hn : H it = none) (hL : it ≠ X.env.locals)
    (h1 : it ∈ X.ex ∨ X.s₀.heap.objs.size ≤ it) (h2 : ∀ x c, X.env.cells.lookup x = some c → c ≠ it) (h3 : ∀ p ∈ X.pn ++ pins, p.1 ≠ it) : Inv X pins σ H { s with heap := h', toks := t' } := by
  have nit : ∀ b u, H b = some u → b ≠ it := fun b u e z => by rw [z, hn] at e; cases e
  refine I.step (g' := s.gens) (d' := s.drawn) (ch := [it]) (fun b hb => ?_) (fun b o _ _ hc e _ => k b o (fun z => hc (by simp [z])) e) (fun b o _ _ hc e _ => ⟨o.slots, k b o (fun z => hc (by simp [z])) e⟩) (fun _ _ _ _ n => n)
    (fun b o hc e => ⟨o, k b o (fun z => hc (by simp [z])) e⟩) (fun _ _ e => e) (fun _ _ _ e => e) (fun b ps e => ⟨#[], by rw [e]; simp⟩) (fun m hm => ?_) (fun b u e => ?_) I.bare
  · have e : b = it := by simpa using hb
    subst e
    exact ⟨h1, hL, h2, h3⟩
  · obtain ⟨o, es, ep, ho, r⟩ := hm
    exact ⟨o, es, ep, k _ o (Ne.symm hL) ho, r⟩
  · refine (I.hok b u e).stay (fun c v hc q => k c v ?_ q) (fun _ q => q) fun _ _ q => q
    rcases hc with z | z
    · rw [z]; exact nit b u e
    · exact nit c _ z
theorem Inv.tok (I : Inv X pins σ H s) (t : Nat) : Inv X pins σ H { s with toks := t } := I.un (h' := s.heap) (t' := t) Un.refl I.hok
theorem Inv.kept {t' : Nat} (I : Inv X pins σ H s) (k : ∀ b u, s.heap.get? b = some u → h'.get? b = some u) : Inv X pins σ H { s with heap := h', toks := t' } := I.un (Un.kept k) (I.hok.kept k)
theorem Inv.laid {a : Addr} {o : HO} {t' : Nat} (I : Inv X pins σ H s) (k : ∀ b u, s.heap.get? b = some u → h'.get? b = some u) (hp : s.heap.objs.size ≤ a) (new : ObjOk X.prog X.w (upd H a o) h' a o) :
    Inv X pins σ (upd H a o) { s with heap := h', toks := t' } := I.un (Un.laid k hp (I.hok.fresh hp)) (I.hok.laid k hp new)
theorem Inv.write {x e : Addr} {o : HO} {t' : Nat} (I : Inv X pins σ H s) (mu : Mut (H x)) (he : e = x ∨ H e = some (.own x)) (k : ∀ b u, b ≠ e → s.heap.get? b = some u → h'.get? b = some u) (heo : ∃ u, h'.get? e = some u)
    (new : ObjOk X.prog X.w (upd H x o) h' x o) : Inv X pins σ (upd H x o) { s with heap := h', toks := t' } := I.un (Un.write mu he k heo) (I.hok.write mu he k heo new)
theorem Inv.pins_of {pins' : List (Addr × Obj)} (I : Inv X pins σ H s) (h : ∀ p ∈ pins', s.heap.get? p.1 = some p.2 ∧ H p.1 = none ∧ p.1 ≠ X.env.locals ∧ p.1 ∉ X.fs ∧ ∀ v, p.2.data ≠ .cell v) : Inv X pins' σ H s :=
  ⟨I.ok, I.os, I.bare, I.base, I.loc, I.cell, I.free, I.freeC, fun p hp => (List.mem_append.mp hp).elim (fun z => I.pin p (List.mem_append_left _ z)) (h p), I.hok, I.len⟩

theorem nodup_ix {N : List Str} (hN : N.Nodup) {i j : Nat} {x : Str} (a : N[i]? = some x) (b : N[j]? = some x) : i = j := by
  obtain ⟨h1, e1⟩ := List.getElem?_eq_some_iff.mp a
  obtain ⟨h2, e2⟩ := List.getElem?_eq_some_iff.mp b
  exact (List.getElem_inj hN).mp (e1.trans e2.symm)

theorem store_ok2 {M : Model} {A : Around} {E : Value → Shared → Prop} {i : Nat} {x : Str} {v : V} {u : Value} {Q : Unit → Shared → Prop} (I : Inv X pins σ H s) (hN : X.N.Nodup) (hi : X.N[i]? = some x) (hx : Loc X.env.scope x) (r : RelV v u)
    (h : ∀ s', Inv X pins (σ.set i (some v)) H s' → (∃ a, Heap.SameBut a s.heap s'.heap ∧ (a = X.env.locals ∨ X.env.cells.lookup x = some a)) → Q () s') (hf : X.fn x = true ∨ X.env.scope.names.lookup x = some .local := by first | exact .inl rfl | exact .inr rfl | assumption) : wpAny M A (storeName X.env x u) Q E s := by
  obtain ⟨m, hn, hl⟩ := id I.loc
  have hcls : (X.env.scope.kind == .class || (X.env.scope.kind == .module && X.env.locals != X.env.globals)) = false := by rw [I.ok.kind]; rfl
  have hiσ : i < σ.length := by rw [I.len]; exact (List.getElem?_eq_some_iff.mp hi).1
  have cne := I.cne
  have tracked : ∀ {a : Addr} {h' : Heap}, (∃ o, s.heap.get? a = some o ∧ H a = none) → Heap.SameBut a s.heap h' → HOk X.prog X.w H h' := fun {a h'} ha hs b ob e => by
    obtain ⟨_, _, hfree⟩ := ha
    refine (I.hok b ob e).stay (fun c w' hc q => (hs.2 c ?_).trans q) (fun _ q => q) fun _ _ q => q
    rintro rfl
    rcases hc with rfl | hc
    · rw [hfree] at e; cases e
    · rw [hfree] at hc; cases hc
  rcases hx with hk | hk
  · refine wpAny_storeName_local hk hn (fun h' hn' hs => ?_) hcls
    obtain ⟨oL, _, _, hoL, _⟩ := id hn
    refine h _ ⟨I.ok, I.os, I.bare, ⟨fun b o e n hb hx => ?_, fun b o e n hb hx => ?_, I.base.free, fun b o e hx => ?_, I.base.tups, I.base.frzs, I.base.tbls⟩, ⟨_, hn', fun j y v' e1 e2 e3 => ?_⟩, fun y c e => ?_, I.free, I.freeC, fun p hp => ?_, tracked ⟨oL, hoL, I.free⟩ hs, by simpa using I.len⟩ ⟨_, hs, .inl rfl⟩
    · exact (hs.2 b (Nat.ne_of_lt (Nat.lt_of_lt_of_le (Heap.lt_size e) I.ok.above))).trans (I.base.keep b o e n hb hx)
    · obtain ⟨sl, e1⟩ := I.base.slot b o e n hb hx
      exact ⟨sl, (hs.2 b (Nat.ne_of_lt (Nat.lt_of_lt_of_le (Heap.lt_size e) I.ok.above))).trans e1⟩
    · obtain ⟨o', e1⟩ := I.base.there b o e hx
      exact ⟨o', (hs.2 b (Nat.ne_of_lt (Nat.lt_of_lt_of_le (Heap.lt_size e) I.ok.above))).trans e1⟩
    · by_cases hj : j = i
      · subst hj
        rw [hi] at e1; cases e1
        rw [List.getElem?_set_self hiσ] at e2
        cases e2
        exact ⟨u, r, .inl ⟨hk, by simp⟩⟩
      · rw [List.getElem?_set_ne (Ne.symm hj)] at e2
        obtain ⟨u', r', q⟩ := hl j y v' e1 e2 e3
        refine ⟨u', r', ?_⟩
        rcases q with ⟨k, e⟩ | ⟨k, c, e, z⟩
        · refine .inl ⟨k, ?_⟩
          have : y ≠ x := fun e => hj (nodup_ix hN e1 (e ▸ hi))
          simp [this, e]
        · exact .inr ⟨k, c, e, z.sameBut hs (cne y c e)⟩
    · obtain ⟨w', z⟩ := I.cell y c e
      exact ⟨w', z.sameBut hs (cne y c e)⟩
    · obtain ⟨e, n, ne, nf, d⟩ := I.pin p hp
      exact ⟨(hs.2 p.1 ne).trans e, n, ne, nf, d⟩
  · have hfn : X.fn x = true := by
      rcases hf with z | z
      · exact z
      · rw [z] at hk; cases hk
    obtain ⟨c, hc⟩ := I.ok.has x (.inl hk)
    obtain ⟨w', z⟩ := I.cell x c hc
    refine wpAny_storeName_cell I.ok.kind hk hc z (fun h' hc' hs => ?_)
    obtain ⟨oc, hoc, hocd⟩ := id z
    refine h { s with heap := h' } ⟨I.ok, I.os, I.bare, ⟨fun b o e n hb hx => ?_, fun b o e n hb hx => ?_, I.base.free, fun b o e hx => ?_, I.base.tups, I.base.frzs, I.base.tbls⟩, ⟨m, hn.sameBut hs (Ne.symm (cne x c hc)), fun j y v' e1 e2 e3 => ?_⟩, fun y c' e => ?_, I.free, I.freeC, fun p hp => ?_, tracked ⟨oc, hoc, I.freeC x c hc⟩ hs, by simpa using I.len⟩ ⟨c, hs, .inr hc⟩
    · exact (hs.2 b (Nat.ne_of_lt (Nat.lt_of_lt_of_le (Heap.lt_size e) (I.ok.cab x c hfn hc)))).trans (I.base.keep b o e n hb hx)
    · obtain ⟨sl, e1⟩ := I.base.slot b o e n hb hx
      exact ⟨sl, (hs.2 b (Nat.ne_of_lt (Nat.lt_of_lt_of_le (Heap.lt_size e) (I.ok.cab x c hfn hc)))).trans e1⟩
    · obtain ⟨o', e1⟩ := I.base.there b o e hx
      exact ⟨o', (hs.2 b (Nat.ne_of_lt (Nat.lt_of_lt_of_le (Heap.lt_size e) (I.ok.cab x c hfn hc)))).trans e1⟩
    · by_cases hj : j = i
      · subst hj
        rw [hi] at e1; cases e1
        rw [List.getElem?_set_self hiσ] at e2
        cases e2
        exact ⟨u, r, .inr ⟨.inl hk, c, hc, hc'⟩⟩
      · rw [List.getElem?_set_ne (Ne.symm hj)] at e2
        obtain ⟨u', r', q⟩ := hl j y v' e1 e2 e3
        refine ⟨u', r', ?_⟩
        rcases q with q | ⟨k, c', e, z'⟩
        · exact .inl q
        · refine .inr ⟨k, c', e, z'.sameBut hs ?_⟩
          rintro rfl
          exact hj (nodup_ix hN e1 (I.ok.inj _ _ _ e hc ▸ hi))
    · by_cases hcc : c' = c
      · subst hcc; exact ⟨_, hc'⟩
      · obtain ⟨w2, z2⟩ := I.cell y c' e
        exact ⟨w2, z2.sameBut hs hcc⟩
    · obtain ⟨e, n, ne, nf, d⟩ := I.pin p hp
      refine ⟨(hs.2 p.1 ?_).trans e, n, ne, nf, d⟩
      intro q
      rw [q, hoc] at e
      have q' : oc = p.2 := Option.some.inj e
      exact d w' (by rw [← q']; exact hocd)
theorem store_ok {M : Model} {A : Around} {E : Value → Shared → Prop} {i : Nat} {x : Str} {v : V} {u : Value} {Q : Unit → Shared → Prop} (I : Inv X pins σ H s) (hN : X.N.Nodup) (hi : X.N[i]? = some x) (hx : Loc X.env.scope x) (r : RelV v u)
    (h : ∀ s', Inv X pins (σ.set i (some v)) H s' → Q () s') (hf : X.fn x = true ∨ X.env.scope.names.lookup x = some .local := by first | exact .inl rfl | exact .inr rfl | assumption) : wpAny M A (storeName X.env x u) Q E s :=
  store_ok2 I hN hi hx r (fun s' I' _ => h s' I') hf
theorem Inv.call' {s' : Shared} {ch : List Addr} (I : Inv X pins σ H s) (ho : s'.os = s.os) (u : Un (frs X.stack) ch H H' s.heap s'.heap) (hok : HOk X.prog X.w H' s'.heap) (hg : AllBare s'.gens)
    (hch : ∀ b ∈ ch, (b ∈ X.ex ∨ X.s₀.heap.objs.size ≤ b) ∧ b ≠ X.env.locals ∧ (∀ x c, X.env.cells.lookup x = some c → c ≠ b) ∧ ∀ p ∈ X.pn ++ pins, p.1 ≠ b) : Inv X pins σ H' s' := by
  obtain ⟨h', g', d', t', o'⟩ := s'
  have e : o' = s.os := ho
  subst e
  exact I.call (g' := g') (t' := t') (d' := d') u hok hg hch
end

abbrev XK := Value → Option Addr → Hp → Prop
abbrev St := List (Option V)
abbrev VK := V → Hp → Prop
abbrev TE := St → Hp → VK → Prop
abbrev TT := St → Hp → (Bool → Hp → Prop) → Prop
abbrev TA := St → Hp → (List V → Hp → Prop) → Prop
structure Ends where
  nx : St → Hp → Prop
  rt : VK
  bk : St → Hp → Prop := fun _ _ => False
  ct : St → Hp → Prop := fun _ _ => False
abbrev TS := Ends → St → Hp → Prop

def EP (X : Cx) (pins : List (Addr × Obj)) (σ : St) (Q : VK) (u : Value) (s' : Shared) : Prop := ∃ v H', Inv X pins σ H' s' ∧ RelV v u ∧ Q v H'
def TP (X : Cx) (pins : List (Addr × Obj)) (σ : St) (Q : Bool → Hp → Prop) (b : Bool) (s' : Shared) : Prop := ∃ H', Inv X pins σ H' s' ∧ Q b H'
def AP (X : Cx) (pins : List (Addr × Obj)) (σ : St) (Q : List V → Hp → Prop) (us : List Value) (s' : Shared) : Prop := ∃ vs H', Inv X pins σ H' s' ∧ Vals vs us ∧ Q vs H'
def SP (X : Cx) (pins : List (Addr × Obj)) (D : Ends) (f : Flow) (s' : Shared) : Prop :=
  match f with
  | .next => ∃ σ' H', Inv X pins σ' H' s' ∧ D.nx σ' H'
  | .brk => ∃ σ' H', Inv X pins σ' H' s' ∧ D.bk σ' H'
  | .cont => ∃ σ' H', Inv X pins σ' H' s' ∧ D.ct σ' H'
  | .ret u => ∃ v σ' H', Inv X pins σ' H' s' ∧ RelV v u ∧ D.rt v H'

def PE (X : Cx) (e : Expr) (t : TE) : Prop :=
  ∀ (pins : List (Addr × Obj)) (s : Shared) (σ : St) (H : Hp) (Q : VK), Inv X pins σ H s → t σ H Q → wpAny (model X.prog X.w) X.A (eval e X.env) (EP X pins σ Q) X.xe s
def PT (X : Cx) (e : Expr) (t : TT) : Prop :=
  ∀ (pins : List (Addr × Obj)) (s : Shared) (σ : St) (H : Hp) (Q : Bool → Hp → Prop), Inv X pins σ H s → t σ H Q → wpAny (model X.prog X.w) X.A (isTrue e X.env (eval e X.env)) (TP X pins σ Q) X.xe s
def PW (X : Cx) (e : Expr) (t : TT) : Prop :=
  ∀ (whole : Sem Value) (pins : List (Addr × Obj)) (s : Shared) (σ : St) (H : Hp) (Q : Bool → Hp → Prop), Inv X pins σ H s → t σ H Q → wpAny (model X.prog X.w) X.A (isTrue e X.env whole) (TP X pins σ Q) X.xe s
theorem PW.pt {X : Cx} {e : Expr} {t : TT} (h : PW X e t) : PT X e t := h _
def PA (X : Cx) (es : List Expr) (t : TA) : Prop :=
  ∀ (pos : Pos) (pins : List (Addr × Obj)) (s : Shared) (σ : St) (H : Hp) (Q : List V → Hp → Prop), Inv X pins σ H s → t σ H Q → wpAny (model X.prog X.w) X.A (spliced (backTo pos (starEach es X.env))) (AP X pins σ Q) X.xe s
def PS (X : Cx) (st : Stmt) (t : TS) : Prop :=
  ∀ (pins : List (Addr × Obj)) (s : Shared) (σ : St) (H : Hp) (D : Ends), Inv X pins σ H s → t D σ H → wpAny (model X.prog X.w) X.A (exec st X.env) (SP X pins D) X.xe s
def PSs (X : Cx) (st : List Stmt) (t : TS) : Prop :=
  ∀ (pins : List (Addr × Obj)) (s : Shared) (σ : St) (H : Hp) (D : Ends), Inv X pins σ H s → t D σ H → wpAny (model X.prog X.w) X.A (execs st X.env) (SP X pins D) X.xe s
theorem thn {α : Type} {t : Sem α} {Q Q' : α → Shared → Prop} {M : Model} {A : Around} {E : Value → Shared → Prop} {s : Shared} (h : wpAny M A t Q E s) (hQ : ∀ a s, Q a s → Q' a s) : wpAny M A t Q' E s := wpAny_mono h hQ fun _ _ x => x
end L2

namespace L2
open PySem PySem.Spec PyProof.Rows
section
variable {X : Cx}

def tVar (i : Nat) : TE := fun σ H Q => ∃ v, σ[i]? = some (some v) ∧ Q v H
def tC (v : V) : TE := fun _ H Q => Q v H
theorem pe_var {i : Nat} {x : Str} {pos : Pos} (hN : X.N[i]? = some x) (hv : Vis X.env.scope x) (hd : (x == ("__debug__" : Str)) = false := by decide) (hcd : (x == ("__classdict__" : Str)) = false := by decide) : PE X (.Name x pos) (tVar i) := by
  intro pins s σ H Q I h
  obtain ⟨v, e, h⟩ := h
  obtain ⟨m, hn, hl⟩ := I.loc
  obtain ⟨u, r, l⟩ := hl i x v hN e hv
  have fin : EP X pins σ Q u s := ⟨v, H, I, r, h⟩
  rcases l with ⟨hk, hm⟩ | ⟨hk, c, hc, hcell⟩
  · exact wpAny_Name (wpAny_loadName_local I.ok.kind hk hn hm fin) hd
  · rcases hk with hk | hk
    · exact wpAny_Name (wpAny_loadName_cell I.ok.kind hk hc hcell fin) hd
    · exact wpAny_Name (wpAny_loadName_free I.ok.kind hk hc hcell fin hcd) hd
theorem pe_int {i j pos} : PE X (.Constant (.int i) j pos) (tC (.int i)) := fun _ _ _ H _ I h => wpAny_Constant_int ⟨.int i, H, I.tok _, ⟨_, rfl⟩, h⟩
theorem pe_bl {b j pos} : PE X (.Constant (.bool b) j pos) (tC (.bl b)) := fun _ _ _ H _ I h => Constant_bool ⟨.bl b, H, I, rfl, h⟩
theorem pe_non {j pos} : PE X (.Constant .none j pos) (tC .non) := fun _ _ _ H _ I h => Constant_none ⟨.non, H, I, rfl, h⟩
theorem pe_str {x j pos} : PE X (.Constant (.str x) j pos) (tC (.str x)) := fun _ _ _ H _ I h => Calls.Constant_str ⟨.str x, H, I.tok _, ⟨_, rfl⟩, h⟩

def Gl (X : Cx) (x : Str) : Prop := X.env.kindOf x = some .globalImplicit
theorem ld_glob {E : Value → Shared → Prop} {pins : List (Addr × Obj)} {s : Shared} {σ : St} {H : Hp} {x : Str} {u : Value} {pos : Pos} {Q : Value → Shared → Prop} (I : Inv X pins σ H s) (hg : Gl X x) (hm : X.mg x = some u) (h : Q u s)
    (hd : (x == ("__debug__" : Str)) = false := by decide) : wpAny (model X.prog X.w) X.A (eval (.Name x pos) X.env) Q E s :=
  Calls.Name_function_global I.ok.kind hg (Calls.loadGlobal_global (by rw [I.ok.glob]; exact I.mod.glob.keeps I.bk) hm h) hd
theorem ld_blt {E : Value → Shared → Prop} {pins : List (Addr × Obj)} {s : Shared} {σ : St} {H : Hp} {x : Str} {u : Value} {pos : Pos} {Q : Value → Shared → Prop} (I : Inv X pins σ H s) (hg : Gl X x) (hm : X.mg x = none) (hv : bootBuiltins x = some u) (h : Q u s)
    (hn : x ≠ "__name__" := by decide) (hd : (x == ("__debug__" : Str)) = false := by decide) : wpAny (model X.prog X.w) X.A (eval (.Name x pos) X.env) Q E s := by
  obtain ⟨mb, h1, h2⟩ := I.mod.blt
  exact Calls.Name_function_global I.ok.kind hg (Calls.loadGlobal_builtin (by rw [I.ok.glob]; exact I.mod.glob.keeps I.bk) hm (by rw [I.ok.blt]; exact h1.keeps I.bk) ((h2 x hn).trans hv) h) hd
theorem pe_bltn {x : Str} {v : V} {u : Value} {pos : Pos} (hg : Gl X x) (hm : X.mg x = none) (hv : bootBuiltins x = some u) (r : RelV v u) (hn : x ≠ "__name__" := by decide) (hd : (x == ("__debug__" : Str)) = false := by decide) : PE X (.Name x pos) (tC v) :=
  fun _ _ _ H _ I h => ld_blt I hg hm hv ⟨v, H, I, r, h⟩ hn hd

variable {a b : Expr} {ta tb : TE} {pos : Pos}
def PC (X : Cx) (op : CmpOp) (a b : Expr) (t : TE) : Prop :=
  ∀ (pins : List (Addr × Obj)) (s : Shared) (σ : St) (H : Hp) (Q : VK), Inv X pins σ H s → t σ H Q →
    wpAny (model X.prog X.w) X.A (eval a X.env) (fun v s₁ => wpAny (model X.prog X.w) X.A (eval b X.env) (fun u s₂ => wpAny (model X.prog X.w) X.A (compareOp op v u) (EP X pins σ Q) X.xe s₂) X.xe s₁) X.xe s
def tB (t : TE) : TT := fun σ H Q => t σ H fun x H1 => ∃ c, x = .bl c ∧ Q c H1
theorem pt_cmp {op : CmpOp} {t : TE} (h : PC X op a b t) (h1 : behindInMarks op b = false := by first | exact nobehind _ (by decide) (by decide) | rfl) : PT X (.Compare a [op] [b] pos) (tB t) := by
  intro pins s σ H Q I hw
  refine wpAny_isTrue_Compare1 (thn (h pins s σ H _ I hw) fun v s1 h1 => thn h1 fun u s2 h2 => thn h2 fun c s3 ⟨x, H1, I1, r1, q1⟩ => ?_) h1
  obtain ⟨d, rfl, q⟩ := q1
  cases r1
  exact wpAny_truthy_bool ⟨H1, I1, q⟩
theorem pt_val {e : Expr} {t : TE} (h : PE X e t) (he : ∀ whole, isTrue e X.env whole = (do let v ← whole; standAt e.pos; holding [v] (truthy v)) := by intro _; rfl) : PT X e (tB t) := by
  intro pins s σ H Q I hw
  refine isTrue_plain (thn (h pins s σ H _ I hw) fun v s1 ⟨x, H1, I1, r1, q1⟩ => ?_) (he _)
  obtain ⟨d, rfl, q⟩ := q1
  cases r1
  exact wpAny_truthy_bool ⟨H1, I1, q⟩

variable {tA tB' : TT} {rest : List Expr}
def tOr (t u : TT) : TT := fun σ H Q => t σ H fun c H1 => if c = true then Q true H1 else u σ H1 Q
def tNot (t : TT) : TT := fun σ H Q => t σ H fun c H1 => Q (!c) H1
theorem pw_or1 (ha : PT X a tA) : PW X (.BoolOp .Or [a] pos) tA := by
  intro wh pins s σ H Q I h
  refine isTrue_or (thn (ha pins s σ H Q I h) fun c s1 e => ?_)
  cases c with
  | false => exact isTrue_or_nil e
  | true => exact e
theorem pw_or (ha : PT X a tA) (hb : PW X (.BoolOp .Or (b :: rest) pos) tB') : PW X (.BoolOp .Or (a :: b :: rest) pos) (tOr tA tB') := by
  intro wh pins s σ H Q I h
  refine isTrue_or (thn (ha pins s σ H _ I h) fun c s1 ⟨H1, I1, q1⟩ => ?_)
  cases c with
  | true => exact ⟨H1, I1, q1⟩
  | false => exact hb wh pins s1 σ H1 Q I1 q1
theorem pt_not (ha : PT X a tA) : PT X (.UnaryOp .Not a pos) (tNot tA) := by
  intro pins s σ H Q I h
  exact isTrue_not (ha pins s σ H (fun c H1 => Q (!c) H1) I h)
def tAndV (ta tb : TE) : TE := fun σ H Q => ta σ H fun x H1 => ∃ c, x = .bl c ∧ if c = true then tb σ H1 Q else Q (.bl false) H1
def tNotV (ta : TE) : TE := fun σ H Q => ta σ H fun x H1 => ∃ c, x = .bl c ∧ Q (.bl (!c)) H1
theorem pe_one {op} {t : TE} (h : PE X a t) : PE X (.BoolOp op [a] pos) t := fun pins s σ H Q I hw => BoolOp_one (h pins s σ H Q I hw)
theorem pe_and (ha : PE X a ta) (hb : PE X (.BoolOp .And (b :: rest) pos) tb) : PE X (.BoolOp .And (a :: b :: rest) pos) (tAndV ta tb) := by
  intro pins s σ H Q I h
  refine BoolOp_and (thn (ha pins s σ H _ I h) fun v s1 ⟨x, H1, I1, r1, q1⟩ => ?_)
  obtain ⟨c, rfl, q1⟩ := q1
  cases r1
  refine wpAny_truthy_bool ?_
  cases c with
  | true => exact hb pins s1 σ H1 Q I1 q1
  | false => exact ⟨.bl false, H1, I1, rfl, q1⟩
theorem pe_not (ha : PE X a ta) : PE X (.UnaryOp .Not a pos) (tNotV ta) := by
  intro pins s σ H Q I h
  refine UnaryOp_ (thn (ha pins s σ H _ I h) fun v s1 ⟨x, H1, I1, r1, q1⟩ => ?_)
  obtain ⟨c, rfl, q1⟩ := q1
  cases r1
  exact not_of (wpAny_truthy_bool ⟨.bl (!c), H1, I1, rfl, q1⟩)
def tIf (t : TT) (ta tb : TE) : TE := fun σ H Q => t σ H fun c H1 => if c = true then ta σ H1 Q else tb σ H1 Q
theorem pe_ifExp {c : Expr} (hc : PT X c tA) (ha : PE X a ta) (hb : PE X b tb) : PE X (.IfExp c a b pos) (tIf tA ta tb) := by
  intro pins s σ H Q I h
  refine wpAny_IfExp (thn (hc pins s σ H _ I h) fun d s1 ⟨H1, I1, q1⟩ => ?_)
  cases d with
  | true => exact ha pins s1 σ H1 Q I1 q1
  | false => exact hb pins s1 σ H1 Q I1 q1
end
end L2

namespace L2
open PySem PySem.Spec PyProof.Rows

def SqL (K : PySem.W.Frag) (H : Hp) (a : Addr) (xs : List V) : Prop :=
  Rd H a (.lst xs) ∨
    ∃ (o : Obj) (its : Array Value) (n : Nat), K.lookup a = some o ∧ o.cls = .type "list" ∧ o.dict = none ∧ o.data = .seq its n ∧ its.size ≤ sizeLine ∧ Vals xs its.toList
def SqT (K : PySem.W.Frag) (H : Hp) (a : Addr) (xs : List V) : Prop :=
  Rd H a (.tup xs) ∨
    ∃ (o : Obj) (its : Array Value) (n : Nat), K.lookup a = some o ∧ o.cls = .type "tuple" ∧ o.data = .seq its n ∧ its.size ≤ sizeLine ∧ Vals xs its.toList
def absV : Value → Option V
  | .none => some .non
  | .bool b => some (.bl b)
  | .int i _ => some (.int i)
  | .str x _ => some (.str x)
  | .bytes b _ => some (.byt b)
  | .float b _ => some (.flt b)
  | .ref a => some (.ref a)
  | .type n => some (.ty n)
  | _ => none
theorem RelV.abs {x : V} {u : Value} (r : RelV x u) : absV u = some x := by
  cases x with
  | non => cases r; rfl
  | bl _ => cases r; rfl
  | int _ => obtain ⟨t, rfl⟩ := r; rfl
  | str _ => obtain ⟨t, rfl⟩ := r; rfl
  | byt _ => obtain ⟨t, rfl⟩ := r; rfl
  | flt _ => obtain ⟨t, rfl⟩ := r; rfl
  | ref _ => cases r; rfl
  | ty _ => cases r; rfl
theorem RelV.inj {x y : V} {u : Value} (r : RelV x u) (q : RelV y u) : x = y := Option.some.inj (r.abs.symm.trans q.abs)
theorem Vals.inj : ∀ {xs ys : List V} {us : List Value}, Vals xs us → Vals ys us → xs = ys
  | _, _, _, .nil, .nil => rfl
  | _, _, _, .cons r t, .cons r' t' => by rw [r.inj r', Vals.inj t t']
section
variable {X : Cx} {pins : List (Addr × Obj)} {σ : St} {H : Hp} {s : Shared} {a : Addr} {xs ys : List V}
theorem SqL.of {K : PySem.W.Frag} (h : H a = some (.lst xs)) : SqL K H a xs := .inl (.inl h)
theorem SqT.of {K : PySem.W.Frag} (h : H a = some (.tup xs)) : SqT K H a xs := .inl (.inl h)
theorem Inv.list (I : Inv X pins σ H s) (h : SqL X.K H a xs) : ∃ its : List Value, Vals xs its ∧ PlainL s.heap a its.toArray ∧ xs.length ≤ sizeLine := by
  rcases h with h | ⟨o, its, n, hk, hc, hd, hs, hz, r⟩
  · obtain ⟨z, its, n, r, e⟩ := h.ok I.hok
    exact ⟨its, r, ⟨_, n, e, rfl, rfl, rfl⟩, z⟩
  · refine ⟨its.toList, r, ⟨o, n, I.kIn a o hk, hc, hd, by simpa using hs⟩, ?_⟩
    have e := r.length
    simp only [Array.length_toList] at e
    omega
theorem Inv.tuple (I : Inv X pins σ H s) (h : SqT X.K H a xs) : ∃ its : List Value, Vals xs its ∧ IsTup s.heap a its.toArray ∧ xs.length ≤ sizeLine := by
  rcases h with h | ⟨o, its, n, hk, hc, hs, hz, r⟩
  · obtain ⟨z, its, r, p⟩ := h.ok I.hok
    exact ⟨its, r, p, z⟩
  · refine ⟨its.toList, r, ⟨o, I.kIn a o hk, hc, n, by simpa using hs⟩, ?_⟩
    have e := r.length
    simp only [Array.length_toList] at e
    omega
theorem Inv.list_inj (I : Inv X pins σ H s) (h : SqL X.K H a xs) (h' : SqL X.K H a ys) : xs = ys := by
  obtain ⟨its, r, ⟨o, n, e, _, _, d⟩, _⟩ := I.list h
  obtain ⟨its', r', ⟨o', n', e', _, _, d'⟩, _⟩ := I.list h'
  rw [e] at e'; cases e'
  rw [d] at d'
  injection d' with d1 _
  have : its = its' := by simpa using congrArg Array.toList d1
  subst this
  exact r.inj r'
theorem Inv.tuple_inj (I : Inv X pins σ H s) (h : SqT X.K H a xs) (h' : SqT X.K H a ys) : xs = ys := by
  obtain ⟨its, r, ⟨o, e, _, n, d⟩, _⟩ := I.tuple h
  obtain ⟨its', r', ⟨o', e', _, n', d'⟩, _⟩ := I.tuple h'
  rw [e] at e'; cases e'
  rw [d] at d'
  injection d' with d1 _
  have : its = its' := by simpa using congrArg Array.toList d1
  subst this
  exact r.inj r'
end

abbrev Cx.wish (X : Cx) (E : Value → Shared → Prop) : Cx := { X with xe := E }
abbrev Cx.nox (X : Cx) : Cx := X.wish fun _ _ => False
theorem Cx.Ok.wish {X : Cx} (ok : X.Ok) (E : Value → Shared → Prop) : (X.wish E).Ok :=
  ⟨ok.mod, ok.kind, ok.glob, ok.blt, ok.above, ok.inj, ok.has, ok.cab, ok.hd, ok.frames, ok.stk, ok.exf, ok.bs, ok.bsz, ok.noex, ok.exfs, ok.funs, ok.frf⟩
theorem Cx.Ok.unwish {X : Cx} {E : Value → Shared → Prop} (ok : (X.wish E).Ok) : X.Ok :=
  ⟨ok.mod, ok.kind, ok.glob, ok.blt, ok.above, ok.inj, ok.has, ok.cab, ok.hd, ok.frames, ok.stk, ok.exf, ok.bs, ok.bsz, ok.noex, ok.exfs, ok.funs, ok.frf⟩
section
variable {X : Cx} {pins : List (Addr × Obj)} {σ : St} {H : Hp} {s : Shared} {E : Value → Shared → Prop}
theorem Inv.wish (I : Inv X pins σ H s) (E : Value → Shared → Prop) : Inv (X.wish E) pins σ H s := ⟨I.ok.wish E, I.os, I.bare, I.base, I.loc, I.cell, I.free, I.freeC, I.pin, I.hok, I.len⟩
theorem Inv.unwish (I : Inv (X.wish E) pins σ H s) : Inv X pins σ H s := ⟨I.ok.unwish, I.os, I.bare, I.base, I.loc, I.cell, I.free, I.freeC, I.pin, I.hok, I.len⟩
theorem SP.unwish {D : Ends} {f : Flow} {s' : Shared} (h : SP (X.wish E) pins D f s') : SP X pins D f s' := by
  cases f with
  | next => obtain ⟨σ', H', I, q⟩ := h; exact ⟨σ', H', I.unwish, q⟩
  | brk => obtain ⟨σ', H', I, q⟩ := h; exact ⟨σ', H', I.unwish, q⟩
  | cont => obtain ⟨σ', H', I, q⟩ := h; exact ⟨σ', H', I.unwish, q⟩
  | ret u => obtain ⟨v, σ', H', I, r, q⟩ := h; exact ⟨v, σ', H', I.unwish, r, q⟩
theorem PSs.nox {st : List Stmt} {t : TS} (h : PSs X.nox st t) : PSs X st t := fun pins s σ H D I hw =>
  wpAny_mono (h pins s σ H D (I.wish _) hw) (fun _ _ q => q.unwish) fun _ _ z => False.elim z
end

section
variable {X : Cx} {st : Stmt} {rest : List Stmt} {t u : TS} {e : Expr} {te : TE} {pos : Pos}
def tNext : TS := fun D σ H => D.nx σ H
def tSeq (t u : TS) : TS := fun D σ H => t { D with nx := u D } σ H
theorem pss_nil : PSs X [] tNext := fun _ _ σ H _ I h => wpAny_execs_nil ⟨σ, H, I, h⟩
theorem pss_cons (h1 : PS X st t) (h2 : PSs X rest u) : PSs X (st :: rest) (tSeq t u) := by
  intro pins s σ H D I h
  refine wpAny_execs_cons (thn (h1 pins s σ H { D with nx := u D } I h) fun f s1 q => ?_)
  cases f with
  | next =>
    obtain ⟨σ', H', I', q⟩ := q
    exact h2 pins s1 σ' H' D I' q
  | ret v => exact q
  | brk => exact q
  | cont => exact q
theorem pss_one (h1 : PS X st t) : PSs X [st] t := by
  intro pins s σ H D I h
  refine wpAny_execs_cons (thn (h1 pins s σ H D I h) fun f s1 q => ?_)
  cases f with
  | next => exact wpAny_execs_nil q
  | ret v => exact q
  | brk => exact q
  | cont => exact q
theorem Inv.quiet {pins : List (Addr × Obj)} {σ : St} {H : Hp} {s : Shared} (I : Inv X pins σ H s) : interactive X.env = false := by simp [interactive, I.ok.kind]
def tDrop (te : TE) : TS := fun D σ H => te σ H fun _ H1 => D.nx σ H1
theorem ps_expr (he : PE X e te) (hs : swapsWith e none pos.line X.env = pure false := by rfl) : PS X (.Expr e pos) (tDrop te) := by
  intro pins s σ H D I h
  exact wpAny_Expr_any (thn (he pins s σ H _ I h) fun v s1 ⟨x, H1, I1, r1, q1⟩ => ⟨σ, H1, I1, q1⟩) I.quiet hs
def tRet (te : TE) : TS := fun D σ H => te σ H D.rt
theorem ps_ret (he : PE X e te) : PS X (.Return (some e) pos) (tRet te) := by
  intro pins s σ H D I h
  exact wpAny_Return_some (thn (he pins s σ H _ I h) fun v s1 ⟨x, H1, I1, r1, q1⟩ => ⟨x, σ, H1, I1, r1, q1⟩)
def tIfS (c : TT) (t u : TS) : TS := fun D σ H => c σ H fun b H1 => if b = true then t D σ H1 else u D σ H1
theorem ps_if {c : Expr} {a b : List Stmt} {tc : TT} (hc : PT X c tc) (ha : PSs X a t) (hb : PSs X b u) : PS X (.If c a b pos) (tIfS tc t u) := by
  intro pins s σ H D I h
  refine wpAny_If (thn (hc pins s σ H _ I h) fun d s1 ⟨H1, I1, q1⟩ => ?_)
  cases d with
  | true => exact ha pins s1 σ H1 D I1 q1
  | false => exact hb pins s1 σ H1 D I1 q1
end

abbrev TG := V → St → Hp → (St → Hp → Prop) → Prop
abbrev TGs := List V → St → Hp → (St → Hp → Prop) → Prop
def PG (X : Cx) (target : Expr) (t : TG) : Prop :=
  ∀ (pins : List (Addr × Obj)) (s : Shared) (σ : St) (H : Hp) (v : V) (u : Value) (Q : St → Hp → Prop), Inv X pins σ H s → RelV v u → t v σ H Q →
    wpAny (model X.prog X.w) X.A (assign target X.env u) (fun _ s' => ∃ σ' H', Inv X pins σ' H' s' ∧ Q σ' H') X.xe s
def PGs (X : Cx) (ts : List Expr) (t : TGs) : Prop :=
  ∀ (pins : List (Addr × Obj)) (s : Shared) (σ : St) (H : Hp) (vs : List V) (us : List Value) (Q : St → Hp → Prop), Inv X pins σ H s → Vals vs us → t vs σ H Q →
    wpAny (model X.prog X.w) X.A (assignInOrder ((assignEach ts X.env).map (·.2)) us) (fun _ s' => ∃ σ' H', Inv X pins σ' H' s' ∧ Q σ' H') X.xe s
abbrev TSet := V → V → V → Hp → (Hp → Prop) → Prop
def PSet (X : Cx) (t : TSet) : Prop :=
  ∀ (pins : List (Addr × Obj)) (s : Shared) (σ : St) (H : Hp) (o i v : V) (ov iv u : Value) (Q : Hp → Prop), Inv X pins σ H s → RelV o ov → RelV i iv → RelV v u → t o i v H Q →
    wpAny (model X.prog X.w) X.A (setItem ov iv u) (fun _ s' => ∃ H', Inv X pins σ H' s' ∧ Q H') X.xe s
abbrev TIp := V → V → Hp → VK → Prop
def PIp (X : Cx) (op : Operator) (t : TIp) : Prop :=
  ∀ (pins : List (Addr × Obj)) (s : Shared) (σ : St) (H : Hp) (x y : V) (v u : Value) (Q : VK), Inv X pins σ H s → RelV x v → RelV y u → t x y H Q →
    wpAny (model X.prog X.w) X.A (inplaceOp op v u) (EP X pins σ Q) X.xe s
section
variable {X : Cx} {pos : Pos}
def gName (i : Nat) : TG := fun v σ H Q => Q (σ.set i (some v)) H
theorem pg_name {i : Nat} {x : Str} (hN : X.N.Nodup) (hi : X.N[i]? = some x) (hx : Loc X.env.scope x) (hf : X.fn x = true ∨ X.env.scope.names.lookup x = some .local := by first | exact .inl rfl | exact .inr rfl | assumption) : PG X (.Name x pos) (gName i) := by
  intro pins s σ H v u Q I r h
  exact wpAny_assign_Name (store_ok I hN hi hx r (fun s' I' => ⟨_, H, I', h⟩) hf)
def gNil : TGs := fun vs σ H Q => vs = [] ∧ Q σ H
def gCons (t : TG) (u : TGs) : TGs := fun vs σ H Q => ∃ v r, vs = v :: r ∧ t v σ H fun σ' H' => u r σ' H' Q
theorem pgs_nil : PGs X [] gNil := by
  intro pins s σ H vs us Q I r h
  obtain ⟨e, h⟩ := h
  subst e
  cases r
  exact assignInOrder_nil ⟨σ, H, I, h⟩
theorem pgs_cons {e : Expr} {es : List Expr} {t : TG} {u : TGs} (h1 : PG X e t) (h2 : PGs X es u)
    (hs : (assignEach (e :: es) X.env).map (·.2) = assign e X.env :: (assignEach es X.env).map (·.2) := by rfl) : PGs X (e :: es) (gCons t u) := by
  intro pins s σ H vs us Q I r h
  obtain ⟨v, vr, e1, h⟩ := h
  subst e1
  cases r with
  | cons r rr =>
    rw [hs]
    refine assignInOrder_cons (thn (h1 pins s σ H _ _ _ I r h) fun _ s1 ⟨σ1, H1, I1, q1⟩ => ?_)
    exact h2 pins s1 σ1 H1 _ _ Q I1 rr q1
def gTup (K : PySem.W.Frag) (n : Nat) (t : TGs) : TG := fun v σ H Q => ∃ a xs, v = .ref a ∧ SqT K H a xs ∧ xs.length = n ∧ t xs σ H Q
theorem pg_tup {es : List Expr} {k : Nat} {t : TGs} {n : Nat} (hc : X.calm = true) (h : PGs X es t)
    (hn : (assignEach es X.env).length = n := by rfl) (hst : (assignEach es X.env).findIdx? (·.1) = none := by rfl) : PG X (.Tuple es k pos) (gTup X.K n t) := by
  intro pins s σ H v u Q I r hw
  obtain ⟨a, xs, e1, hq, hl, hw⟩ := hw
  subst e1
  cases r
  obtain ⟨its, rv, ht, hz⟩ := I.tuple hq
  refine assign_Tuple_tuple (I.ok.hd hc) ht (by simp [hn, ← hl, rv.length]) hst fun h' hx => ?_
  have I1 : Inv X pins σ H { s with heap := h' } := I.kept (t' := s.toks) fun b o e => hx b o (Nat.ne_of_lt (Heap.lt_size e)) e
  exact h pins _ σ H xs _ Q I1 (by simpa using rv) hw
def gSub (to ti : TE) (t : TSet) : TG := fun v σ H Q => to σ H fun o H1 => ti σ H1 fun i H2 => t o i v H2 fun H3 => Q σ H3
theorem pg_sub {o i : Expr} {to ti : TE} {t : TSet} (ho : PE X o to) (hi : PE X i ti) (hs : PSet X t)
    (ha : ∀ v, assign (.Subscript o i pos) X.env v = (do
      let ov ← holding [v] (eval o X.env)
      let iv ← holding [v, ov] (eval i X.env)
      standAt pos
      holding [v, ov, iv] (setItem ov iv v)
      release [v, ov, iv] []) := by intro _; rfl) : PG X (.Subscript o i pos) (gSub to ti t) := by
  intro pins s σ H v u Q I r h
  rw [ha]
  refine wpAny_bind (wpAny_holding (thn (ho pins s σ H _ I h) fun ov s1 ⟨x, H1, I1, r1, q1⟩ => ?_))
  refine wpAny_bind (wpAny_holding (thn (hi pins s1 σ H1 _ I1 q1) fun iv s2 ⟨y, H2, I2, r2, q2⟩ => ?_))
  refine wpAny_bind (wpAny_standAt (wpAny_bind (wpAny_holding (thn (hs pins s2 σ H2 x y v ov iv u _ I2 r1 r2 r q2) fun _ s3 ⟨H3, I3, q3⟩ => ?_))))
  exact wpAny_release ⟨σ, H3, I3, q3⟩
def tAsg (te : TE) (g : TG) : TS := fun D σ H => te σ H fun x H1 => g x σ H1 D.nx
theorem ps_asg {tg e : Expr} {te : TE} {g : TG} (he : PE X e te) (hg : PG X tg g) (hs : swapsWithSole [tg] e pos.line X.env = pure false := by rfl) (hw : swappedStores [tg] e X.env = pure none := by rfl)
    (h1 : (assignEach [tg] X.env).map (·.2) = [assign tg X.env] := by rfl) : PS X (.Assign [tg] e pos) (tAsg te g) := by
  intro pins s σ H D I h
  refine wpAny_Assign_stores (thn (he pins s σ H _ I h) fun v s1 ⟨x, H1, I1, r1, q1⟩ => ?_) hs hw
  rw [h1]
  exact thn (hg pins s1 σ H1 x v _ I1 r1 q1) fun _ s2 q => q
theorem ps_set {i : Nat} {x : Str} {e : Expr} {te : TE} {pos' : Pos} (hN : X.N.Nodup) (hi : X.N[i]? = some x) (hx : Loc X.env.scope x) (he : PE X e te) (hs : swapsWith e (some (.Name x pos')) pos.line X.env = pure false := by rfl) (hf : X.fn x = true ∨ X.env.scope.names.lookup x = some .local := by first | exact .inl rfl | exact .inr rfl | assumption) :
    PS X (.Assign [.Name x pos'] e pos) (tAsg te (gName i)) := by
  intro pins s σ H D I h
  refine wpAny_Assign_Name (thn (he pins s σ H _ I h) fun v s1 ⟨y, H1, I1, r1, q1⟩ => ?_) hs
  exact store_ok I1 hN hi hx r1 (fun s2 I2 => ⟨_, H1, I2, q1⟩) hf
def tAugS (to ti te : TE) (tget : V → V → Hp → VK → Prop) (tip : TIp) (tset : TSet) : TS := fun D σ H => to σ H fun o H1 => ti σ H1 fun i H2 => tget o i H2 fun x H3 => te σ H3 fun y H4 => tip x y H4 fun z H5 => tset o i z H5 fun H6 => D.nx σ H6
def PGet (X : Cx) (t : V → V → Hp → VK → Prop) : Prop :=
  ∀ (pins : List (Addr × Obj)) (s : Shared) (σ : St) (H : Hp) (o i : V) (ov iv : Value) (Q : VK), Inv X pins σ H s → RelV o ov → RelV i iv → t o i H Q →
    wpAny (model X.prog X.w) X.A (getItem ov iv) (EP X pins σ Q) X.xe s
theorem ps_augS {o i e : Expr} {to ti te : TE} {tget : V → V → Hp → VK → Prop} {tip : TIp} {tset : TSet} {op : Operator} {tpos : Pos} (ho : PE X o to) (hi : PE X i ti) (hg : PGet X tget) (he : PE X e te) (hp : PIp X op tip) (hs : PSet X tset)
    (ha : ∀ ov iv new, augStore i ov iv new = (do holding [new, ov, iv] (setItem ov iv new); release [new, ov, iv] []; pure .next) := by intros; rfl) : PS X (.AugAssign (.Subscript o i tpos) op e pos) (tAugS to ti te tget tip tset) := by
  intro pins s σ H D I h
  refine wpAny_AugAssign_SubscriptAny (thn (ho pins s σ H _ I h) fun ov s1 ⟨x1, H1, I1, r1, q1⟩ => ?_) ha
  refine thn (hi pins s1 σ H1 _ I1 q1) fun iv s2 ⟨x2, H2, I2, r2, q2⟩ => ?_
  refine thn (hg pins s2 σ H2 x1 x2 ov iv _ I2 r1 r2 q2) fun old s3 ⟨x3, H3, I3, r3, q3⟩ => ?_
  refine thn (he pins s3 σ H3 _ I3 q3) fun v s4 ⟨x4, H4, I4, r4, q4⟩ => ?_
  refine thn (hp pins s4 σ H4 x3 x4 old v _ I4 r3 r4 q4) fun new s5 ⟨x5, H5, I5, r5, q5⟩ => ?_
  exact thn (hs pins s5 σ H5 x1 x2 x5 ov iv new _ I5 r1 r2 r5 q5) fun _ s6 ⟨H6, I6, q6⟩ => ⟨σ, H6, I6, q6⟩
def ipI (f : Int → Int → Int) : TIp := fun x y H Q => ∃ i j, x = .int i ∧ y = .int j ∧ Q (.int (f i j)) H
theorem ip_add : PIp X .Add (ipI fun i j => i + j) := by
  intro pins s σ H x y v u Q I r1 r2 h
  obtain ⟨i, j, e1, e2, q⟩ := h
  subst e1; subst e2
  obtain ⟨t, rfl⟩ := r1
  obtain ⟨t', rfl⟩ := r2
  exact iadd_int ⟨.int _, H, I.tok _, ⟨_, rfl⟩, q⟩
theorem ip_sub : PIp X .Sub (ipI fun i j => i - j) := by
  intro pins s σ H x y v u Q I r1 r2 h
  obtain ⟨i, j, e1, e2, q⟩ := h
  subst e1; subst e2
  obtain ⟨t, rfl⟩ := r1
  obtain ⟨t', rfl⟩ := r2
  exact isub_int ⟨.int _, H, I.tok _, ⟨_, rfl⟩, q⟩
end

section
variable {X : Cx} {pos : Pos}
def tWhile (c : TT) (tb : TS) : TS := fun D σ H => ∃ W : Nat → St → Hp → Prop, (∃ m, W m σ H) ∧ ∀ m σ H, W m σ H →
  c σ H fun b H1 => if b = true then ∃ N : St → Hp → Prop, (∀ σ' H', N σ' H' → ∃ m', m' < m ∧ W m' σ' H') ∧ tb { D with nx := N, ct := N, bk := D.nx } σ H1 else D.nx σ H1
theorem ps_while {c : Expr} {body : List Stmt} {tc : TT} {tb : TS} (hp : PassesOwn (model X.prog X.w) X.A X.env X.xe) (hc : PT X c tc) (hb : PSs X body tb) : PS X (.While c body [] pos) (tWhile tc tb) := by
  intro pins s σ H D I h
  obtain ⟨W, ⟨m0, w0⟩, turn⟩ := h
  refine wpAny_While (codeAny_whileLoop (fun n s' => ∃ σ' H', Inv X pins σ' H' s' ∧ W n σ' H') ?_ m0 ⟨σ, H, I, w0⟩)
  rintro n s1 ⟨σ1, H1, I1, w1⟩
  refine wpAny_passesOwn hp (thn (hc pins s1 σ1 H1 _ I1 (turn n σ1 H1 w1)) fun b s2 ⟨H2, I2, q2⟩ => ?_)
  cases b with
  | true =>
    obtain ⟨N, hN, q2⟩ := q2
    rw [if_pos rfl]
    refine wpAny_passesOwn hp (thn (hb pins s2 σ1 H2 _ I2 q2) fun f s3 q3 => ?_)
    cases f with
    | next =>
      obtain ⟨σ3, H3, I3, n3⟩ := q3
      obtain ⟨m', hm, w3⟩ := hN σ3 H3 n3
      exact ⟨m', hm, σ3, H3, I3, w3⟩
    | cont =>
      obtain ⟨σ3, H3, I3, n3⟩ := q3
      obtain ⟨m', hm, w3⟩ := hN σ3 H3 n3
      exact ⟨m', hm, σ3, H3, I3, w3⟩
    | brk => exact q3
    | ret v => exact q3
  | false =>
    rw [if_neg Bool.false_ne_true]
    exact wpAny_execs_nil ⟨σ1, H2, I2, q2⟩
end

structure It where
  go : Nat → Hp → Prop
  yld : Nat → Hp → V → Hp → Prop
  stop : Nat → Hp → Prop
def FpOk (X : Cx) (pins : List (Addr × Obj)) (H : Hp) (b : Addr) : Prop :=
  H b = none ∧ b ≠ X.env.locals ∧ b ∉ X.fs ∧ (b ∈ X.ex ∨ X.s₀.heap.objs.size ≤ b) ∧ (∀ x c, X.env.cells.lookup x = some c → c ≠ b) ∧ ∀ p ∈ X.pn ++ pins, p.1 ≠ b
theorem Inv.fpOk {X : Cx} {pins : List (Addr × Obj)} {σ : St} {H H' : Hp} {s : Shared} {b : Addr} (I : Inv X pins σ H s) (hb : s.heap.objs.size ≤ b) (hn : H' b = none) : FpOk X pins H' b := by
  refine ⟨hn, Nat.ne_of_gt (Nat.lt_of_lt_of_le I.lt hb), I.nofs hb, .inr (Nat.le_trans I.sz hb), fun x c e z => ?_, fun p hp z => ?_⟩
  · obtain ⟨v, q⟩ := I.cell x c e
    exact absurd (Nat.lt_of_lt_of_le q.lt (by rw [z]; exact hb)) (Nat.lt_irrefl _)
  · exact absurd (Nat.lt_of_lt_of_le (Heap.lt_size (I.pin p hp).1) (by rw [z]; exact hb)) (Nat.lt_irrefl _)
structure Turn (P : Program) (w : World) (K : PySem.W.Frag) (tg : Expr) (J : It) (fp : List Addr) (it : Addr) (tn : Nat → Heap → Prop) : Prop where
  mem : it ∈ fp
  obj : ∀ i h, tn i h → ∀ b ∈ fp, ∃ o, h.get? b = some o ∧ ∀ v, o.data ≠ .cell v
  keep : ∀ i h h', tn i h → (∀ b ∈ fp, ∀ o, h.get? b = some o → h'.get? b = some o) → tn i h'
  item : ∀ (X : Cx), X.prog = P → X.w = w → X.K = K → X.calm = true → ∀ (i : Nat) (pins : List (Addr × Obj)) (s : Shared) (σ : St) (H : Hp) (E : Value → Shared → Prop), Inv X pins σ H s → (∀ b ∈ fp, FpOk X pins H b) → tn i s.heap → J.go i H →
    wpAny (model P w) X.A (pyNext (.ref it)) (fun r s1 => ∃ u, r = some u ∧
      wpAny (model P w) X.A (letOwnedTupleGo tg (.ref it) u) (fun _ s2 => ∃ x H', Inv X pins σ H' s2 ∧ RelV x u ∧ J.yld i H x H' ∧ tn (i + 1) s2.heap ∧ ∀ b ∈ fp, H' b = none) E s1) E s
  done : ∀ (X : Cx), X.prog = P → X.w = w → X.K = K → X.calm = true → ∀ (i : Nat) (pins : List (Addr × Obj)) (s : Shared) (σ : St) (H : Hp) (E : Value → Shared → Prop), Inv X pins σ H s → (∀ b ∈ fp, FpOk X pins H b) → tn i s.heap → J.stop i H →
    wpAny (model P w) X.A (pyNext (.ref it)) (fun r s1 => r = none ∧ Inv X pins σ H s1) E s
  self : ∀ (A : Around) (i : Nat) (s : Shared) (Q : Value → Shared → Prop) (E : Value → Shared → Prop), tn i s.heap → Q (.ref it) s → wpAny (model P w) A (pyIter (.ref it)) Q E s
abbrev TI := St → Hp → (It → Hp → Prop) → Prop
def PIE (X : Cx) (pins : List (Addr × Obj)) (σ : St) (tg : Expr) (R : It → Hp → Prop) (itv : Value) (s2 : Shared) : Prop :=
  ∃ (it : Addr) (fp : List Addr) (tn : Nat → Heap → Prop) (J : It) (H' : Hp), itv = .ref it ∧ Inv X pins σ H' s2 ∧ Turn X.prog X.w X.K tg J fp it tn ∧ tn 0 s2.heap ∧ (∀ b ∈ fp, FpOk X pins H' b) ∧ R J H'
def PI (X : Cx) (tg iter : Expr) (wi : TI) : Prop :=
  ∀ (pins : List (Addr × Obj)) (s : Shared) (σ : St) (H : Hp) (R : It → Hp → Prop), Inv X pins σ H s → wi σ H R →
    wpAny (model X.prog X.w) X.A (eval iter X.env) (fun v s1 => wpAny (model X.prog X.w) X.A (pyIter v) (PIE X pins σ tg R) X.xe s1) X.xe s

theorem go_of {M : Model} {A : Around} {E : Value → Shared → Prop} {s : Shared} {tg : Expr} {it : Addr} {u : Value} {o : Obj} {n : String} {vs : Array Value} {Q : Unit → Shared → Prop} (ho : s.heap.get? it = some o) (hc : o.cls = .type n) (hd : o.data = .fields vs)
    (hn : ["enumerate", "zip", "dict_itemiterator", "dict_reverseitemiterator", "odict_iterator", "itertools.zip_longest", "itertools.pairwise"].contains n = false) (hQ : Q () s) : wpAny M A (letOwnedTupleGo tg (.ref it) u) Q E s := by
  unfold letOwnedTupleGo
  cases tg <;> first
    | exact wpAny_pure hQ
    | (cases u <;> first
        | exact wpAny_pure hQ
        | (refine wpAny_bind (wpAny_load ho ?_)
           rw [hc, hd]
           show wpAny M A (if (["enumerate", "zip", "dict_itemiterator", "dict_reverseitemiterator", "odict_iterator", "itertools.zip_longest", "itertools.pairwise"].contains n && vs[0]? == some (rawInt _)) = true then _ else _) Q E s
           rw [if_neg (by intro h; rw [hn, Bool.false_and] at h; cases h)]
           exact wpAny_pure hQ))

def Itl (K : PySem.W.Frag) (a : Addr) : It :=
  ⟨fun i H => ∃ xs x, SqL K H a xs ∧ xs[i]? = some x, fun i H x H' => H' = H ∧ ∀ xs, SqL K H a xs → xs[i]? = some x, fun i H => ∃ xs, SqL K H a xs ∧ xs.length ≤ i⟩
def Itt (K : PySem.W.Frag) (a : Addr) : It :=
  ⟨fun i H => ∃ xs x, SqT K H a xs ∧ xs[i]? = some x, fun i H x H' => H' = H ∧ ∀ xs, SqT K H a xs → xs[i]? = some x, fun i H => ∃ xs, SqT K H a xs ∧ xs.length ≤ i⟩
def Itr (lo : Int) (n : Nat) : It := ⟨fun i _ => i < n, fun i H x H' => H' = H ∧ x = .int (lo + i), fun i _ => n ≤ i⟩
theorem turn_list {P : Program} {w : World} {K : PySem.W.Frag} {tg : Expr} (a it : Addr) : Turn P w K tg (Itl K a) [it] it (fun i h => h.IsListIter it a i) where
  mem := by simp
  obj := fun i h st b hb => by
    have e : b = it := by simpa using hb
    subst e
    obtain ⟨o, e, c, d⟩ := st
    exact ⟨o, e, fun v z => by rw [d] at z; cases z⟩
  keep := fun i h h' st k => st.at fun o e => k it (by simp) o e
  item := by
    intro X hP hw hK hc i pins s σ H E I hf st hg
    subst hP hw hK
    obtain ⟨xs, x, hq, hx⟩ := hg
    obtain ⟨its, rv, p, hz⟩ := I.list hq
    obtain ⟨u, hu, ru⟩ := rv.get hx
    obtain ⟨f0, f1, f2, f3, f4, f5⟩ := hf it (by simp)
    refine wpAny_pyNext_list_item st p.isList (x := u) (by simpa using hu) fun h' st' sb => ?_
    have I1 : Inv X pins σ H { s with heap := h' } := I.turned (t' := s.toks) (fun b o hb e => (sb.2 b hb).trans e) f0 f1 f3 f4 f5
    obtain ⟨o, e, c, d⟩ := id st'
    exact ⟨u, rfl, go_of (s := { s with heap := h' }) e c d (by decide) ⟨x, H, I1, ru, ⟨rfl, fun ys hy => by rw [I.list_inj hy hq]; exact hx⟩, st', fun b hb => (hf b hb).1⟩⟩
  done := by
    intro X hP hw hK hc i pins s σ H E I hf st hg
    subst hP hw hK
    obtain ⟨xs, hq, hx⟩ := hg
    obtain ⟨its, rv, p, hz⟩ := I.list hq
    obtain ⟨f0, f1, f2, f3, f4, f5⟩ := hf it (by simp)
    have hl := rv.length
    exact wpAny_pyNext_list_end (I.ok.hd hc) st p.isList (by simp; omega) fun h' eb => ⟨rfl, I.turned (t' := s.toks) (fun b o hb e => eb b o hb e) f0 f1 f3 f4 f5⟩
  self := fun _ _ _ _ _ st h => wpAny_pyIter_listiter st h
theorem turn_tuple {P : Program} {w : World} {K : PySem.W.Frag} {tg : Expr} (a it : Addr) : Turn P w K tg (Itt K a) [it] it (fun i h => h.IsTupleIter it a i) where
  mem := by simp
  obj := fun i h st b hb => by
    have e : b = it := by simpa using hb
    subst e
    obtain ⟨o, e, c, d⟩ := st
    exact ⟨o, e, fun v z => by rw [d] at z; cases z⟩
  keep := fun i h h' st k => st.at fun o e => k it (by simp) o e
  item := by
    intro X hP hw hK hc i pins s σ H E I hf st hg
    subst hP hw hK
    obtain ⟨xs, x, hq, hx⟩ := hg
    obtain ⟨its, rv, p, hz⟩ := I.tuple hq
    obtain ⟨u, hu, ru⟩ := rv.get hx
    obtain ⟨f0, f1, f2, f3, f4, f5⟩ := hf it (by simp)
    refine wpAny_pyNext_tuple_item st (show s.heap.IsTuple a its.toArray from p) (x := u) (by simpa using hu) fun h' st' sb => ?_
    have I1 : Inv X pins σ H { s with heap := h' } := I.turned (t' := s.toks) (fun b o hb e => (sb.2 b hb).trans e) f0 f1 f3 f4 f5
    obtain ⟨o, e, c, d⟩ := id st'
    exact ⟨u, rfl, go_of (s := { s with heap := h' }) e c d (by decide) ⟨x, H, I1, ru, ⟨rfl, fun ys hy => by rw [I.tuple_inj hy hq]; exact hx⟩, st', fun b hb => (hf b hb).1⟩⟩
  done := by
    intro X hP hw hK hc i pins s σ H E I hf st hg
    subst hP hw hK
    obtain ⟨xs, hq, hx⟩ := hg
    obtain ⟨its, rv, p, hz⟩ := I.tuple hq
    obtain ⟨f0, f1, f2, f3, f4, f5⟩ := hf it (by simp)
    have hl := rv.length
    exact wpAny_pyNext_tuple_end (I.ok.hd hc) st (show s.heap.IsTuple a its.toArray from p) (by simp; omega) fun h' eb => ⟨rfl, I.turned (t' := s.toks) (fun b o hb e => eb b o hb e) f0 f1 f3 f4 f5⟩
  self := fun _ _ _ _ _ st h => wpAny_pyIter_tupleiter st h
theorem turn_range {P : Program} {w : World} {K : PySem.W.Frag} {tg : Expr} (it : Addr) (lo : Int) (n : Nat) : Turn P w K tg (Itr lo n) [it] it (fun i h => IsRangeIter h it (lo + (i : Nat) * 1) ((n : Int) - (i : Nat)) 1) where
  mem := by simp
  obj := fun i h st b hb => by
    have e : b = it := by simpa using hb
    subst e
    exact ⟨_, st, fun v z => by
      have z' : Data.fields _ = Data.cell v := z
      cases z'⟩
  keep := fun i h h' st k => k it (by simp) _ st
  item := by
    intro X hP hw hK hc i pins s σ H E I hf st hg
    subst hP hw hK
    obtain ⟨f0, f1, f2, f3, f4, f5⟩ := hf it (by simp)
    have W := Walks.range (prog := X.prog) (w := X.w) (I.ok.hd hc) it lo 1 n
    refine W.item i s _ _ hg st fun v h' tk hv st' kk => ?_
    obtain ⟨t, rfl⟩ := hv
    have I1 : Inv X pins σ H { s with heap := h', toks := tk } := I.turned (fun b o hb e => kk b o (by simpa using hb) e) f0 f1 f3 f4 f5
    refine ⟨_, rfl, go_of (s := { s with heap := h', toks := tk }) (n := "range_iterator") st' rfl rfl (by decide) ⟨.int (lo + i), H, I1, ⟨t, ?_⟩, ⟨rfl, rfl⟩, st', fun b hb => (hf b hb).1⟩⟩
    rw [Int.mul_one]
  done := by
    intro X hP hw hK hc i pins s σ H E I hf st hg
    subst hP hw hK
    obtain ⟨f0, f1, f2, f3, f4, f5⟩ := hf it (by simp)
    exact wpAny_pyNext_range_end (I.ok.hd hc) st (by have : n ≤ i := hg; omega) fun h' eb => ⟨rfl, I.turned (t' := s.toks) (fun b o hb e => eb b o hb e) f0 f1 f3 f4 f5⟩
  self := fun _ _ _ _ _ st h => wpAny_pyIter_rangeiter st h
end L2

namespace L2
open PySem PySem.Spec PyProof.Rows
section
variable {X : Cx} {tg : Expr}
def iList (K : PySem.W.Frag) (tl : TE) : TI := fun σ H R => tl σ H fun x H1 => ∃ a, x = .ref a ∧ (∃ xs, SqL K H1 a xs) ∧ R (Itl K a) H1
def iTup (K : PySem.W.Frag) (tl : TE) : TI := fun σ H R => tl σ H fun x H1 => ∃ a, x = .ref a ∧ (∃ xs, SqT K H1 a xs) ∧ R (Itt K a) H1
theorem pi_list {l : Expr} {tl : TE} (hl : PE X l tl) : PI X tg l (iList X.K tl) := by
  intro pins s σ H R I h
  refine thn (hl pins s σ H _ I h) fun v s1 ⟨x, H1, I1, r1, q1⟩ => ?_
  obtain ⟨a, e, ⟨xs, hq⟩, q⟩ := q1
  subst e
  cases r1
  obtain ⟨its, rv, p, hz⟩ := I1.list hq
  refine wpAny_pyIter_list p.isList ?_
  refine ⟨s1.heap.objs.size, [s1.heap.objs.size], _, _, H1, rfl, I1.kept (t' := s1.toks) fun b o e => Heap.get?_push_of_some _ e, turn_list a _, ⟨_, Heap.get?_push_size _ rfl, rfl, rfl⟩, fun b hb => ?_, q⟩
  have e : b = s1.heap.objs.size := by simpa using hb
  subst e
  exact I1.fpOk (Nat.le_refl _) (I1.hok.fresh (Nat.le_refl _))
theorem pi_tup {l : Expr} {tl : TE} (hl : PE X l tl) : PI X tg l (iTup X.K tl) := by
  intro pins s σ H R I h
  refine thn (hl pins s σ H _ I h) fun v s1 ⟨x, H1, I1, r1, q1⟩ => ?_
  obtain ⟨a, e, ⟨xs, hq⟩, q⟩ := q1
  subst e
  cases r1
  obtain ⟨its, rv, p, hz⟩ := I1.tuple hq
  refine wpAny_pyIter_tuple (show s1.heap.IsTuple a its.toArray from p) ?_
  refine ⟨s1.heap.objs.size, [s1.heap.objs.size], _, _, H1, rfl, I1.kept (t' := s1.toks) fun b o e => Heap.get?_push_of_some _ e, turn_tuple a _, ⟨_, Heap.get?_push_size _ rfl, rfl, rfl⟩, fun b hb => ?_, q⟩
  have e : b = s1.heap.objs.size := by simpa using hb
  subst e
  exact I1.fpOk (Nat.le_refl _) (I1.hok.fresh (Nat.le_refl _))
theorem range_it {pins : List (Addr × Obj)} {σ : St} {H : Hp} {s : Shared} {R : It → Hp → Prop} {E : Value → Shared → Prop} {lo hi : Int} {t u v : Tok} {tk : Nat} (I : Inv X pins σ H s) (h1 : -(2 ^ 62) ≤ lo) (h2 : lo < 2 ^ 62) (h3 : -(2 ^ 62) ≤ hi) (h4 : hi < 2 ^ 62)
    (q : R (Itr lo (hi - lo).toNat) H) : wpAny (model X.prog X.w) X.A (pyIter (.ref s.heap.objs.size)) (PIE X pins σ tg R) E { s with heap := s.heap.push { cls := .type "range", data := .fields #[.int lo t, .int hi u, .int 1 v] }, toks := tk } := by
  refine wpAny_pyIter_range (IsRange.new ..) (small_one h1 h2 h3 h4) ?_
  have I1 : Inv X pins σ H { s with heap := s.heap.push { cls := .type "range", data := .fields #[.int lo t, .int hi u, .int 1 v] }, toks := tk } := I.kept fun b o e => Heap.get?_push_of_some _ e
  refine ⟨(s.heap.push { cls := .type "range", data := .fields #[.int lo t, .int hi u, .int 1 v] }).objs.size, [(s.heap.push { cls := .type "range", data := .fields #[.int lo t, .int hi u, .int 1 v] }).objs.size], _, _, H, rfl,
    I1.kept (t' := tk) fun b o e => Heap.get?_push_of_some _ e, turn_range _ lo (hi - lo).toNat, ?_, fun b hb => ?_, q⟩
  · have e1 : lo + ((0 : Nat) : Int) * 1 = lo := by simp
    have e2 : (((hi - lo).toNat : Nat) : Int) - ((0 : Nat) : Int) = Builtin.Range.rangeSize lo hi 1 := by rw [rangeSize_one]; split <;> omega
    show IsRangeIter _ _ (lo + ((0 : Nat) : Int) * 1) ((((hi - lo).toNat : Nat) : Int) - ((0 : Nat) : Int)) 1
    rw [e1, e2]
    exact Heap.get?_push_size _ rfl
  · have e : b = (s.heap.push { cls := .type "range", data := .fields #[.int lo t, .int hi u, .int 1 v] }).objs.size := by simpa using hb
    subst e
    exact I1.fpOk (Nat.le_refl _) (I1.hok.fresh (Nat.le_refl _))
def iRng1 (ta : TA) : TI := fun σ H R => ta σ H fun vs H1 => ∃ j : Int, vs = [.int j] ∧ -(2 ^ 62) ≤ j ∧ j < 2 ^ 62 ∧ R (Itr 0 j.toNat) H1
theorem pi_range1 {a : Expr} {ta : TA} {p pos : Pos} (hg : Gl X "range") (hm : X.mg "range" = none) (ha : PA X [a] ta) (hs : starEach [a] X.env = [(false, eval a X.env)] := by rfl) : PI X tg (.Call (.Name "range" p) [a] [] pos) (iRng1 ta) := by
  intro pins s σ H R I h
  refine Call_ (ld_blt I hg hm boot_range (PyProof.Rows.callWith_type1 (thn (ha pos pins s σ H _ I h) fun us s1 ⟨vs, H1, I1, r1, q1⟩ => ?_) hs rfl))
  obtain ⟨j, e, q1, q2, q⟩ := q1
  subst e
  cases r1 with
  | cons r rr =>
    cases rr
    obtain ⟨t, rfl⟩ := r
    exact call_range_1 (range_it I1 (by omega) (by omega) q1 q2 (by simpa using q))
def tFor (wi : TI) (g : TG) (tb : TS) : TS := fun D σ H => wi σ H fun J H1 => ∃ W : Nat → Nat → St → Hp → Prop, (∃ m, W 0 m σ H1) ∧ ∀ i m σ H, W i m σ H →
  (J.stop i H ∧ D.nx σ H) ∨ (J.go i H ∧ ∃ N : St → Hp → Prop, (∀ σ' H', N σ' H' → ∃ m', m' < m ∧ W (i + 1) m' σ' H') ∧ ∀ x H', J.yld i H x H' → g x σ H' fun σ2 H2 => tb { D with nx := N, ct := N, bk := D.nx } σ2 H2)
def pinsAt (fp : List Addr) (h : Heap) : List (Addr × Obj) := fp.filterMap fun b => (h.get? b).map fun o => (b, o)
theorem mem_pinsAt {fp : List Addr} {h : Heap} {b : Addr} {o : Obj} (hb : b ∈ fp) (e : h.get? b = some o) : (b, o) ∈ pinsAt fp h := List.mem_filterMap.mpr ⟨b, hb, by rw [e]; rfl⟩
theorem of_pinsAt {fp : List Addr} {h : Heap} {p : Addr × Obj} (hp : p ∈ pinsAt fp h) : p.1 ∈ fp ∧ h.get? p.1 = some p.2 := by
  obtain ⟨b, hb, e⟩ := List.mem_filterMap.mp hp
  cases q : h.get? b with
  | none => rw [q] at e; cases e
  | some o =>
    rw [q] at e
    have e' : (b, o) = p := Option.some.inj e
    subst e'
    exact ⟨hb, q⟩
theorem Inv.pinned {pins : List (Addr × Obj)} {σ : St} {H : Hp} {s : Shared} {fp : List Addr} (I : Inv X pins σ H s) (hf : ∀ b ∈ fp, FpOk X pins H b) (ho : ∀ b ∈ fp, ∃ o, s.heap.get? b = some o ∧ ∀ v, o.data ≠ .cell v) : Inv X (pins ++ pinsAt fp s.heap) σ H s :=
  I.pins_of fun p hp => (List.mem_append.mp hp).elim (fun z => I.pin p (List.mem_append_right _ z)) fun z => by
    obtain ⟨hb, e⟩ := of_pinsAt z
    obtain ⟨f0, f1, f2, _⟩ := hf p.1 hb
    obtain ⟨o, e', d⟩ := ho p.1 hb
    rw [e] at e'; cases e'
    exact ⟨e, f0, f1, f2, d⟩
theorem Inv.unpinned {pins pl : List (Addr × Obj)} {σ : St} {H : Hp} {s : Shared} (I : Inv X (pins ++ pl) σ H s) : Inv X pins σ H s := I.pins_of fun p hp => I.pin p (List.mem_append_right _ (List.mem_append_left _ hp))
theorem ps_for {iter : Expr} {body : List Stmt} {wi : TI} {g : TG} {tb : TS} {pos : Pos} (hp : PassesOwn (model X.prog X.w) X.A X.env X.xe) (hc : X.calm = true) (hi : PI X tg iter wi) (hg : PG X tg g) (hb : PSs X body tb)
    (hs : ∀ x, foldedSetIterable iter X.env x = pure x := by intro _; rfl) : PS X (.For tg iter body [] pos) (tFor wi g tb) := by
  intro pins s σ H D I h
  refine wpAny_For (thn (hi pins s σ H _ I h) fun v s1 h1 => thn h1 fun itv s2 h2 => ?_) hs
  obtain ⟨it, fp, tn, J, H2, e, I2, T, st2, f2, W, ⟨m0, w0⟩, turn⟩ := h2
  subst e
  -- what stays true of the iterator's objects through the loop
  have stat : ∀ {H' : Hp}, (∀ b ∈ fp, H' b = none) → ∀ b ∈ fp, FpOk X pins H' b := fun hn b hb => ⟨hn b hb, (f2 b hb).2⟩
  refine codeAny_forLoop_any (fun n s' => ∃ i σ' H', Inv X pins σ' H' s' ∧ tn i s'.heap ∧ (∀ b ∈ fp, H' b = none) ∧ W i n σ' H') ?_ m0 ⟨0, σ, H2, I2, st2, fun b hb => (f2 b hb).1, w0⟩
  rintro n s3 ⟨i, σ3, H3, I3, st3, fr3, w3⟩
  rcases turn i n σ3 H3 w3 with ⟨stop, qn⟩ | ⟨go, N, hN, step⟩
  · refine wpAny_passesOwn hp (thn (T.done X rfl rfl rfl hc i pins s3 σ3 H3 X.xe I3 (stat fr3) st3 stop) fun r s4 ⟨hr, I4⟩ => ?_)
    subst hr
    exact wpAny_execs_nil ⟨σ3, H3, I4, qn⟩
  · refine wpAny_passesOwn hp (thn (T.item X rfl rfl rfl hc i pins s3 σ3 H3 X.xe I3 (stat fr3) st3 go) fun r s4 ⟨u, hr, h4⟩ => ?_)
    subst hr
    refine wpAny_passesOwn hp (thn h4 fun _ s5 ⟨x, H5, I5, r5, y5, st5, fr5⟩ => ?_)
    have I5' := I5.pinned (stat fr5) (T.obj _ _ st5)
    refine wpAny_passesOwn hp (thn (hg _ s5 σ3 H5 x u _ I5' r5 (step x H5 y5)) fun _ s6 ⟨σ6, H6, I6, q6⟩ => ?_)
    refine wpAny_passesOwn hp (thn (hb _ s6 σ6 H6 _ I6 q6) fun f s7 q7 => ?_)
    have again : ∀ {σ7 : St} {H7 : Hp}, Inv X (pins ++ pinsAt fp s5.heap) σ7 H7 s7 → N σ7 H7 → ∃ m, m < n ∧ ∃ i σ' H', Inv X pins σ' H' s7 ∧ tn i s7.heap ∧ (∀ b ∈ fp, H' b = none) ∧ W i m σ' H' := fun {σ7 H7} I7 n7 => by
      obtain ⟨m', hm, w7⟩ := hN σ7 H7 n7
      refine ⟨m', hm, i + 1, σ7, H7, I7.unpinned, T.keep _ _ _ st5 fun b hb o e => (I7.pin (b, o) (List.mem_append_right _ (List.mem_append_right _ (mem_pinsAt hb e)))).1, fun b hb => ?_, w7⟩
      obtain ⟨o, e, d⟩ := T.obj _ _ st5 b hb
      exact (I7.pin (b, o) (List.mem_append_right _ (List.mem_append_right _ (mem_pinsAt hb e)))).2.1
    cases f with
    | next => obtain ⟨σ7, H7, I7, n7⟩ := q7; exact again I7 n7
    | cont => obtain ⟨σ7, H7, I7, n7⟩ := q7; exact again I7 n7
    | brk => obtain ⟨σ7, H7, I7, q7⟩ := q7; exact ⟨σ7, H7, I7.unpinned, q7⟩
    | ret v => obtain ⟨x7, σ7, H7, I7, r7, q7⟩ := q7; exact ⟨x7, σ7, H7, I7.unpinned, r7, q7⟩
end

theorem for_list {K : PySem.W.Frag} {a : Addr} {xs : List V} {g : TG} {tb : TS} {D : Ends} {σ : St} {H : Hp} (Pv : Nat → St → Hp → Prop) (h0 : Pv 0 σ H) (hl : ∀ i σ H, i ≤ xs.length → Pv i σ H → SqL K H a xs)
    (hs : ∀ i x σ H, xs[i]? = some x → Pv i σ H → g x σ H fun σ2 H2 => tb { D with nx := Pv (i + 1), ct := Pv (i + 1), bk := D.nx } σ2 H2) (hd : ∀ σ H, Pv xs.length σ H → D.nx σ H) :
    ∃ W : Nat → Nat → St → Hp → Prop, (∃ m, W 0 m σ H) ∧ ∀ i m σ H, W i m σ H →
      ((Itl K a).stop i H ∧ D.nx σ H) ∨ ((Itl K a).go i H ∧ ∃ N : St → Hp → Prop, (∀ σ' H', N σ' H' → ∃ m', m' < m ∧ W (i + 1) m' σ' H') ∧ ∀ x H', (Itl K a).yld i H x H' → g x σ H' fun σ2 H2 => tb { D with nx := N, ct := N, bk := D.nx } σ2 H2) := by
  refine ⟨fun i m σ H => m = xs.length - i ∧ i ≤ xs.length ∧ Pv i σ H, ⟨xs.length, by simp, Nat.zero_le _, h0⟩, ?_⟩
  rintro i m σ H ⟨rfl, hi, p⟩
  have q := hl i σ H hi p
  by_cases hlt : i < xs.length
  · refine .inr ⟨⟨xs, xs[i], q, by simp [hlt]⟩, Pv (i + 1), fun σ' H' p' => ⟨xs.length - (i + 1), by omega, rfl, hlt, p'⟩, fun x H' y => ?_⟩
    obtain ⟨e, y⟩ := y
    subst e
    exact hs i x σ _ (y xs q) p
  · have e : i = xs.length := by omega
    subst e
    exact .inl ⟨⟨xs, q, Nat.le_refl _⟩, hd σ H p⟩
theorem for_range {lo : Int} {n : Nat} {g : TG} {tb : TS} {D : Ends} {σ : St} {H : Hp} (Pv : Nat → St → Hp → Prop) (h0 : Pv 0 σ H)
    (hs : ∀ i σ H, i < n → Pv i σ H → g (.int (lo + i)) σ H fun σ2 H2 => tb { D with nx := Pv (i + 1), ct := Pv (i + 1), bk := D.nx } σ2 H2) (hd : ∀ σ H, Pv n σ H → D.nx σ H) :
    ∃ W : Nat → Nat → St → Hp → Prop, (∃ m, W 0 m σ H) ∧ ∀ i m σ H, W i m σ H →
      ((Itr lo n).stop i H ∧ D.nx σ H) ∨ ((Itr lo n).go i H ∧ ∃ N : St → Hp → Prop, (∀ σ' H', N σ' H' → ∃ m', m' < m ∧ W (i + 1) m' σ' H') ∧ ∀ x H', (Itr lo n).yld i H x H' → g x σ H' fun σ2 H2 => tb { D with nx := N, ct := N, bk := D.nx } σ2 H2) := by
  refine ⟨fun i m σ H => m = n - i ∧ i ≤ n ∧ Pv i σ H, ⟨n, by simp, Nat.zero_le _, h0⟩, ?_⟩
  rintro i m σ H ⟨rfl, hi, p⟩
  by_cases hlt : i < n
  · refine .inr ⟨hlt, Pv (i + 1), fun σ' H' p' => ⟨n - (i + 1), by omega, rfl, hlt, p'⟩, fun x H' y => ?_⟩
    obtain ⟨e, y⟩ := y
    subst e y
    exact hs i σ _ hlt p
  · have e : i = n := by omega
    subst e
    exact .inl ⟨Nat.le_refl _, hd σ H p⟩
end L2

namespace L2
open PySem PySem.Spec PyProof.Rows

abbrev R2 := V → V → Hp → VK → Prop
def OpR (X : Cx) (f : Value → Value → Sem Value) (r : R2) : Prop :=
  ∀ (pins : List (Addr × Obj)) (s : Shared) (σ : St) (H : Hp) (x y : V) (v u : Value) (Q : VK), Inv X pins σ H s → RelV x v → RelV y u → r x y H Q →
    wpAny (model X.prog X.w) X.A (f v u) (EP X pins σ Q) X.xe s
def UnR (X : Cx) (f : Value → Sem Value) (r : V → Hp → VK → Prop) : Prop :=
  ∀ (pins : List (Addr × Obj)) (s : Shared) (σ : St) (H : Hp) (x : V) (v : Value) (Q : VK), Inv X pins σ H s → RelV x v → r x H Q →
    wpAny (model X.prog X.w) X.A (f v) (EP X pins σ Q) X.xe s
def CallR (X : Cx) (f : Value) (r : List V → Hp → VK → Prop) : Prop :=
  ∀ (pins : List (Addr × Obj)) (s : Shared) (σ : St) (H : Hp) (xs : List V) (us : List Value) (Q : VK), Inv X pins σ H s → Vals xs us → r xs H Q →
    wpAny (model X.prog X.w) X.A (call f us) (EP X pins σ Q) X.xe s
def tOp (r : R2) (ta tb : TE) : TE := fun σ H Q => ta σ H fun x H1 => tb σ H1 fun y H2 => r x y H2 Q
def tUn (r : V → Hp → VK → Prop) (ta : TE) : TE := fun σ H Q => ta σ H fun x H1 => r x H1 Q
def rI (C : Int → Int → Prop) (g : Int → Int → V) : R2 := fun x y H Q => ∃ i j, x = .int i ∧ y = .int j ∧ C i j ∧ Q (g i j) H
def rI0 (g : Int → Int → V) : R2 := fun x y H Q => ∃ i j, x = .int i ∧ y = .int j ∧ Q (g i j) H
def rU (g : Int → V) : V → Hp → VK → Prop := fun x H Q => ∃ i, x = .int i ∧ Q (g i) H

section
variable {X : Cx} {a b c : Expr} {ta tb tc : TE} {pos : Pos}

theorem binT (ha : PE X a ta) (hb : PE X b tb) {pins : List (Addr × Obj)} {s : Shared} {σ : St} {H : Hp} {R : V → V → Hp → Prop} (I : Inv X pins σ H s)
    (h : ta σ H fun x H1 => tb σ H1 fun y H2 => R x y H2) {Q : Value → Shared → Prop} {f : Value → Value → Sem Value}
    (hf : ∀ v u s2 x y H2, Inv X pins σ H2 s2 → RelV x v → RelV y u → R x y H2 → wpAny (model X.prog X.w) X.A (f v u) Q X.xe s2) :
    wpAny (model X.prog X.w) X.A (eval a X.env) (fun v s₁ => wpAny (model X.prog X.w) X.A (eval b X.env) (fun u s₂ => wpAny (model X.prog X.w) X.A (f v u) Q X.xe s₂) X.xe s₁) X.xe s := by
  refine thn (ha pins s σ H _ I h) fun v s1 ⟨x, H1, I1, r1, q1⟩ => ?_
  refine thn (hb pins s1 σ H1 _ I1 q1) fun u s2 ⟨y, H2, I2, r2, q2⟩ => ?_
  exact hf v u s2 x y H2 I2 r1 r2 q2

theorem pe_op {op : Operator} {r : R2} (ho : OpR X (binaryOp op) r) (ha : PE X a ta) (hb : PE X b tb) : PE X (.BinOp a op b pos) (tOp r ta tb) := by
  intro pins s σ H Q I h
  exact wpAny_BinOp (binT ha hb I h fun v u s2 x y H2 I2 rx ry q => ho pins s2 σ H2 x y v u Q I2 rx ry q)
theorem pe_un {op : UnaryOp} {r : V → Hp → VK → Prop} (ho : UnR X (unaryOp op) r) (ha : PE X a ta) : PE X (.UnaryOp op a pos) (tUn r ta) := by
  intro pins s σ H Q I h
  exact UnaryOp_ (thn (ha pins s σ H _ I h) fun v s1 ⟨x, H1, I1, r1, q1⟩ => ho pins s1 σ H1 x v Q I1 r1 q1)
theorem opI {f : Value → Value → Sem Value} {C : Int → Int → Prop} {g : Int → Int → Int}
    (rule : ∀ (i j : Int) (t u : Tok) (s : Shared) (Q : Value → Shared → Prop) (E : Value → Shared → Prop), C i j → Q (.int (g i j) s.toks) { s with toks := s.toks + 1 } → wpAny (model X.prog X.w) X.A (f (.int i t) (.int j u)) Q E s) :
    OpR X f (rI C fun i j => .int (g i j)) := by
  intro pins s σ H x y v u Q I rx ry h
  obtain ⟨i, j, rfl, rfl, hc, q⟩ := h
  obtain ⟨t, rfl⟩ := rx
  obtain ⟨t', rfl⟩ := ry
  exact rule i j t t' s _ _ hc ⟨.int (g i j), H, I.tok _, ⟨_, rfl⟩, q⟩
theorem opI0 {f : Value → Value → Sem Value} {g : Int → Int → Int}
    (rule : ∀ (i j : Int) (t u : Tok) (s : Shared) (Q : Value → Shared → Prop) (E : Value → Shared → Prop), Q (.int (g i j) s.toks) { s with toks := s.toks + 1 } → wpAny (model X.prog X.w) X.A (f (.int i t) (.int j u)) Q E s) :
    OpR X f (rI0 fun i j => .int (g i j)) := by
  intro pins s σ H x y v u Q I rx ry h
  obtain ⟨i, j, rfl, rfl, q⟩ := h
  obtain ⟨t, rfl⟩ := rx
  obtain ⟨t', rfl⟩ := ry
  exact rule i j t t' s _ _ ⟨.int (g i j), H, I.tok _, ⟨_, rfl⟩, q⟩
theorem opB0 {f : Value → Value → Sem Value} {g : Int → Int → Bool}
    (rule : ∀ (i j : Int) (t u : Tok) (s : Shared) (Q : Value → Shared → Prop) (E : Value → Shared → Prop), Q (.bool (g i j)) s → wpAny (model X.prog X.w) X.A (f (.int i t) (.int j u)) Q E s) :
    OpR X f (rI0 fun i j => .bl (g i j)) := by
  intro pins s σ H x y v u Q I rx ry h
  obtain ⟨i, j, rfl, rfl, q⟩ := h
  obtain ⟨t, rfl⟩ := rx
  obtain ⟨t', rfl⟩ := ry
  exact rule i j t t' s _ _ ⟨.bl (g i j), H, I, rfl, q⟩

def CPow (i j : Int) : Prop := 0 ≤ j ∧ j ≤ 1000000 ∧ i.natAbs < 2 ^ 64
def CMul (i j : Int) : Prop := (-(2 ^ 64) < i ∧ i < 2 ^ 64) ∨ (-(2 ^ 64) < j ∧ j < 2 ^ 64)
theorem CMul.ok {i j : Int} (h : CMul i j) : IntMulOk i j := by
  rcases h with ⟨h1, h2⟩ | ⟨h1, h2⟩
  · exact .of_left (intBits_le_64 h1 h2)
  · exact .of_right (intBits_le_64 h1 h2)
theorem op_add : OpR X (binaryOp .Add) (rI0 fun i j => .int (i + j)) := opI0 fun _ _ _ _ _ _ _ q => add_int q
theorem op_sub : OpR X (binaryOp .Sub) (rI0 fun i j => .int (i - j)) := opI0 fun _ _ _ _ _ _ _ q => sub_int q
theorem op_mul : OpR X (binaryOp .Mult) (rI CMul fun i j => .int (i * j)) := opI fun _ _ _ _ _ _ _ hc q => mul_int q hc.ok
theorem op_mod : OpR X (binaryOp .Mod) (rI (fun _ j => 0 < j) fun i j => .int (i % j)) := opI fun i j _ _ _ _ _ hc q => by
  have h1 : (0 : Int) < j := hc
  exact mod_int' (by omega) (by rw [Int.fmod_eq_emod_of_nonneg i (by omega)]; exact q)
theorem op_pow : OpR X (binaryOp .Pow) (rI CPow fun i j => .int (i ^ j.toNat)) := opI fun _ _ _ _ _ _ _ hc q => pow_int_small hc.1 hc.2.1 hc.2.2 q
theorem op_xor : OpR X (binaryOp .BitXor) (rI0 fun i j => .int (Builtin.bitXor i j)) := opI0 fun _ _ _ _ _ _ _ q => xor_int q

theorem unI {f : Value → Sem Value} {g : Int → Int}
    (rule : ∀ (i : Int) (t : Tok) (s : Shared) (Q : Value → Shared → Prop) (E : Value → Shared → Prop), Q (.int (g i) s.toks) { s with toks := s.toks + 1 } → wpAny (model X.prog X.w) X.A (f (.int i t)) Q E s) :
    UnR X f (rU fun i => .int (g i)) := by
  intro pins s σ H x v Q I rx h
  obtain ⟨i, rfl, q⟩ := h
  obtain ⟨t, rfl⟩ := rx
  exact rule i t s _ _ ⟨.int (g i), H, I.tok _, ⟨_, rfl⟩, q⟩
theorem un_neg : UnR X (unaryOp .USub) (rU fun i => .int (-i)) := unI fun _ _ _ _ _ q => neg_int q
end

def scal : V → V → Bool
  | .non, .non => true | .non, .int _ => true | .int _, .non => true | .non, .bl _ => true | .bl _, .non => true | .non, .str _ => true | .str _, .non => true
  | .int _, .int _ => true | .bl _, .bl _ => true | .str _, .str _ => true | .byt _, .byt _ => true
  | .int _, .str _ => true | .str _, .int _ => true | .bl _, .str _ => true | .str _, .bl _ => true
  | _, _ => false
def rEq : R2 := fun x y H Q => scal x y = true ∧ Q (.bl (decide (x = y))) H
def rNe : R2 := fun x y H Q => scal x y = true ∧ Q (.bl (!decide (x = y))) H

theorem dec_int {i j : Int} : decide (V.int i = V.int j) = (i == j) := by
  rw [Bool.eq_iff_iff]
  simp
theorem dec_bl {i j : Bool} : decide (V.bl i = V.bl j) = (i == j) := by
  rw [Bool.eq_iff_iff]
  simp
theorem dec_str {i j : Str} : decide (V.str i = V.str j) = (i == j) := by
  rw [Bool.eq_iff_iff]
  simp
theorem dec_byt {i j : Array UInt8} : decide (V.byt i = V.byt j) = (i.toList == j.toList) := by
  rw [Bool.eq_iff_iff]
  cases i
  cases j
  simp

section
variable {X : Cx} {a b c : Expr} {ta tb tc : TE} {pos : Pos}
theorem fin_bl {pins : List (Addr × Obj)} {σ : St} {H : Hp} {s : Shared} {Q : VK} {k k' : Bool} (I : Inv X pins σ H s) (q : Q (.bl k) H) (e : k = k') : EP X pins σ Q (.bool k') s := by
  subst e
  exact ⟨.bl k, H, I, rfl, q⟩
theorem op_eq : OpR X (compareOp .Eq) rEq := by
  intro pins s σ H x y v u Q I rx ry h
  obtain ⟨hs, q⟩ := h
  cases x with
  | non =>
    cases rx
    cases y with
    | non => cases ry; exact PySem.EqNone.eq_none_none (fin_bl I q (by simp))
    | bl j => cases ry; exact PySem.EqNone.eq_none_bool (fin_bl I q (by simp))
    | int j => obtain ⟨t', rfl⟩ := ry; exact PySem.EqNone.eq_none_int (fin_bl I q (by simp))
    | str j => obtain ⟨t', rfl⟩ := ry; exact PySem.EqNone.eq_none_str (fin_bl I q (by simp))
    | _ => exact absurd (show false = true from hs) Bool.false_ne_true
  | bl i =>
    cases rx
    cases y with
    | non => cases ry; exact PySem.EqNone.eq_bool_none (fin_bl I q (by simp))
    | bl j => cases ry; exact eq_bool (fin_bl I q dec_bl)
    | str j => obtain ⟨t', rfl⟩ := ry; exact PySem.EqMixed.eq_bool_str (fin_bl I q (by simp))
    | _ => exact absurd (show false = true from hs) Bool.false_ne_true
  | int i =>
    obtain ⟨t, rfl⟩ := rx
    cases y with
    | non => cases ry; exact PySem.EqNone.eq_int_none (fin_bl I q (by simp))
    | int j => obtain ⟨t', rfl⟩ := ry; exact eq_int (fin_bl I q dec_int)
    | str j => obtain ⟨t', rfl⟩ := ry; exact PySem.EqMixed.eq_int_str (fin_bl I q (by simp))
    | _ => exact absurd (show false = true from hs) Bool.false_ne_true
  | str i =>
    obtain ⟨t, rfl⟩ := rx
    cases y with
    | non => cases ry; exact PySem.EqNone.eq_str_none (fin_bl I q (by simp))
    | bl j => cases ry; exact PySem.EqMixed.eq_str_bool (fin_bl I q (by simp))
    | int j => obtain ⟨t', rfl⟩ := ry; exact PySem.EqMixed.eq_str_int (fin_bl I q (by simp))
    | str j => obtain ⟨t', rfl⟩ := ry; exact eq_str (fin_bl I q dec_str)
    | _ => exact absurd (show false = true from hs) Bool.false_ne_true
  | byt i =>
    obtain ⟨t, rfl⟩ := rx
    cases y with
    | byt j => obtain ⟨t', rfl⟩ := ry; exact PySem.W.eq_bytes (fin_bl I q dec_byt)
    | _ => exact absurd (show false = true from hs) Bool.false_ne_true
  | _ => cases y <;> exact absurd (show false = true from hs) Bool.false_ne_true
theorem op_ne : OpR X (compareOp .NotEq) rNe := by
  intro pins s σ H x y v u Q I rx ry h
  obtain ⟨hs, q⟩ := h
  cases x with
  | non =>
    cases rx
    cases y with
    | non => cases ry; exact PySem.EqNone.ne_none_none (fin_bl I q (by simp))
    | bl j => cases ry; exact PySem.EqNone.ne_none_bool (fin_bl I q (by simp))
    | int j => obtain ⟨t', rfl⟩ := ry; exact PySem.EqNone.ne_none_int (fin_bl I q (by simp))
    | str j => obtain ⟨t', rfl⟩ := ry; exact PySem.EqNone.ne_none_str (fin_bl I q (by simp))
    | _ => exact absurd (show false = true from hs) Bool.false_ne_true
  | bl i =>
    cases rx
    cases y with
    | non => cases ry; exact PySem.EqNone.ne_bool_none (fin_bl I q (by simp))
    | bl j => cases ry; exact ne_bool (fin_bl I q (congrArg not dec_bl))
    | str j => obtain ⟨t', rfl⟩ := ry; exact PySem.EqMixed.ne_bool_str (fin_bl I q (by simp))
    | _ => exact absurd (show false = true from hs) Bool.false_ne_true
  | int i =>
    obtain ⟨t, rfl⟩ := rx
    cases y with
    | non => cases ry; exact PySem.EqNone.ne_int_none (fin_bl I q (by simp))
    | int j => obtain ⟨t', rfl⟩ := ry; exact ne_int (fin_bl I q (congrArg not dec_int))
    | str j => obtain ⟨t', rfl⟩ := ry; exact PySem.EqMixed.ne_int_str (fin_bl I q (by simp))
    | _ => exact absurd (show false = true from hs) Bool.false_ne_true
  | str i =>
    obtain ⟨t, rfl⟩ := rx
    cases y with
    | non => cases ry; exact PySem.EqNone.ne_str_none (fin_bl I q (by simp))
    | bl j => cases ry; exact PySem.EqMixed.ne_str_bool (fin_bl I q (by simp))
    | int j => obtain ⟨t', rfl⟩ := ry; exact PySem.EqMixed.ne_str_int (fin_bl I q (by simp))
    | str j => obtain ⟨t', rfl⟩ := ry; exact ne_str (fin_bl I q (congrArg not dec_str))
    | _ => exact absurd (show false = true from hs) Bool.false_ne_true
  | byt i =>
    obtain ⟨t, rfl⟩ := rx
    cases y with
    | byt j => obtain ⟨t', rfl⟩ := ry; exact PySem.W.ne_bytes (fin_bl I q (congrArg not dec_byt))
    | _ => exact absurd (show false = true from hs) Bool.false_ne_true
  | _ => cases y <;> exact absurd (show false = true from hs) Bool.false_ne_true

theorem op_lt : OpR X (compareOp .Lt) (rI0 fun i j => .bl (decide (i < j))) := opB0 fun _ _ _ _ _ _ _ q => lt_int q
theorem op_gt : OpR X (compareOp .Gt) (rI0 fun i j => .bl (decide (j < i))) := opB0 fun _ _ _ _ _ _ _ q => gt_int q
theorem op_ge : OpR X (compareOp .GtE) (rI0 fun i j => .bl (decide (j ≤ i))) := opB0 fun _ _ _ _ _ _ _ q => ge_int q
theorem op_isN : OpR X (compareOp .Is) (fun x y H Q => y = .non ∧ Q (.bl (decide (x = .non))) H) := by
  intro pins s σ H x y v u Q I rx ry h
  obtain ⟨rfl, q⟩ := h
  cases ry
  refine is_none_gen (fin_bl I q ?_)
  cases x <;> first
    | (cases rx; rfl)
    | (obtain ⟨t, rfl⟩ := rx; rfl)
theorem nomark (b : Expr) {op : CmpOp} (h : op ≠ .In := by decide) (h2 : op ≠ .NotIn := by decide) : behindInMarks op b = false := by
  have e1 : (op == CmpOp.In) = false := by cases op <;> first | rfl | exact absurd rfl h
  have e2 : (op == CmpOp.NotIn) = false := by cases op <;> first | rfl | exact absurd rfl h2
  cases b <;> simp [behindInMarks, e1, e2]
theorem pe_cmpR {op : CmpOp} {r : R2} (ho : OpR X (compareOp op) r) (ha : PE X a ta) (hb : PE X b tb) (hm : behindInMarks op b = false) : PE X (.Compare a [op] [b] pos) (tOp r ta tb) := by
  intro pins s σ H Q I h
  exact wpAny_Compare1 (binT ha hb I h fun v u s2 x y H2 I2 rx ry q => ho pins s2 σ H2 x y v u Q I2 rx ry q) hm
def tTest (t : TE) : TT := fun σ H Q => t σ H fun x H' => ∃ k, x = .bl k ∧ Q k H'
theorem pt_cmpR {op : CmpOp} {r : R2} (ho : OpR X (compareOp op) r) (ha : PE X a ta) (hb : PE X b tb) (hm : behindInMarks op b = false) : PT X (.Compare a [op] [b] pos) (tTest (tOp r ta tb)) := by
  intro pins s σ H Q I h
  refine wpAny_isTrue_Compare1 (thn (ha pins s σ H _ I h) fun v s1 ⟨x, H1, I1, r1, q1⟩ => thn (hb pins s1 σ H1 _ I1 q1) fun u s2 ⟨y, H2, I2, r2, q2⟩ =>
    thn (ho pins s2 σ H2 x y v u _ I2 r1 r2 q2) fun c s3 ⟨z, H3, I3, r3, k, e, q3⟩ => ?_) hm
  subst e
  cases r3
  exact wpAny_truthy_bool ⟨H3, I3, q3⟩
theorem line63 : (sizeLine : Nat) < 2 ^ 63 := by rw [sizeLine_eq]; decide
theorem vals1 {x : V} {us : List Value} (r : Vals [x] us) : ∃ u, us = [u] ∧ RelV x u := by
  cases r with
  | cons r1 r2 => cases r2; exact ⟨_, rfl, r1⟩
theorem vals2 {x y : V} {us : List Value} (r : Vals [x, y] us) : ∃ u w', us = [u, w'] ∧ RelV x u ∧ RelV y w' := by
  cases r with
  | cons r1 r2 =>
    cases r2 with
    | cons r3 r4 => cases r4; exact ⟨_, _, rfl, r1, r3⟩
theorem call_int1 : CallR X (.type "int") (fun xs H Q => (∃ i, xs = [.int i] ∧ Q (.int i) H) ∨ ∃ k, xs = [.bl k] ∧ Q (.int (if k then 1 else 0)) H) := by
  intro pins s σ H xs us Q I r h
  rcases h with ⟨i, rfl, q⟩ | ⟨k, rfl, q⟩
  · obtain ⟨u, rfl, t, rfl⟩ := vals1 r
    exact call_int_int ⟨.int i, H, I, ⟨_, rfl⟩, q⟩
  · obtain ⟨u, rfl, r1⟩ := vals1 r
    cases r1
    exact call_int_bool ⟨.int (if k then 1 else 0), H, I.tok _, ⟨_, rfl⟩, q⟩
end
end L2

namespace L2
open PySem PySem.Spec PyProof.Rows

structure ObjM (h : Heap) (x dx C : Addr) (mA : Str → Option Value) : Prop where
  obj : h.get? x = some (PySem.W.instObj C dx)
  ns : h.Ns1 dx mA
  ne : dx ≠ x

theorem lookIn_ns {h : Heap} {dx : Addr} {mA : Str → Option Value} (n : h.Ns1 dx mA) : ∃ od, h.get? dx = some od ∧ ∀ name, PySem.W.lookIn name od = some (mA name) := by
  obtain ⟨o, es, ep, ho, hd, hk, _, hm⟩ := n
  refine ⟨o, ho, fun name => ?_⟩
  have e := hm name
  unfold nsFind findBy at e
  rw [← Array.find?_toList] at e
  unfold PySem.W.lookIn
  rw [hd]
  dsimp only
  split
  · rename_i y q
    rw [q] at e
    exact congrArg some e
  · rename_i q
    rw [q] at e
    have a : es.toList.any (·.refKey) = false := by
      rw [List.any_eq_false]
      intro y hy
      obtain ⟨z, t, hkey⟩ := hk y (Array.mem_toList_iff.mp hy)
      simp [DictEntry.refKey, hkey]
    have a' : ¬ es.toList.any (·.refKey) = true := by rw [a]; exact Bool.false_ne_true
    rw [if_neg a']
    exact congrArg some e

theorem ObjM.look {h : Heap} {x dx C : Addr} {mA : Str → Option Value} (I : ObjM h x dx C mA) : ∃ od, PySem.W.InstAt h x (PySem.W.instObj C dx) C (some od) ∧ ∀ name, PySem.W.lookIn name od = some (mA name) :=
  let ⟨od, ho, hl⟩ := lookIn_ns I.ns
  ⟨od, ⟨I.obj, rfl, rfl, ho⟩, hl⟩

section
variable {prog : Program} {w : World} {A : Around} {E : Value → Shared → Prop} {s : Shared} {K : PySem.W.Frag} {x dx C f : Addr} {mA : Str → Option Value} {name : Str} {v : Value}

end

theorem RelO.some_of {v : V} {o : Option Value} (r : RelO (some v) o) : ∃ u, o = some u ∧ RelV v u := by
  cases o with
  | none => exact (show False from r).elim
  | some u => exact ⟨u, rfl, r⟩
section
variable {P : Program} {w : World} {H H' : Hp} {h h' : Heap} {a C dx : Addr} {fs fs' : List (Str × V)}
theorem ins_get (hok : HOk P w H h) (e : H a = some (.ins C dx fs)) : ∃ mA, ObjM h a dx C mA ∧ (∀ f, RelO (fs.lookup f) (mA f)) ∧ PySem.Within mA (fs.map (·.1)) ∧ fs.length ≤ 1000 ∧ H dx = some (.own a) := by
  obtain ⟨d, z, ne, ob, mA, n, r, q⟩ := (show ObjOk P w H h a (.ins C dx fs) from hok a _ e)
  exact ⟨mA, ⟨ob, n, ne⟩, r, q, z, d⟩
end

structure Cls (K : PySem.W.Frag) (C : Addr) : Prop where
  pg : PySem.W.plainGet K C Str.empty = true
  hd : PySem.W.hasDictIn K C = true
  po : PySem.W.plainOver K C = true
  sa : PySem.W.findIn K (.ref C) "__setattr__" = some (some (.builtin "object.__setattr__"))
theorem Cls.get {K : PySem.W.Frag} {C : Addr} (c : Cls K C) (f : Str) : PySem.W.plainGet K C f = true := c.pg
section
variable {X : Cx} {pins : List (Addr × Obj)} {σ : St} {H : Hp} {s : Shared} {a C dx : Addr} {fs : List (Str × V)} {f : Str} {v : V} {A : Around} {E : Value → Shared → Prop}

end

section
variable {X : Cx} {o e value : Expr} {f : Str} {pos pos' tpos : Pos} {ta tv : TE}
end

section
variable {X : Cx} {pins : List (Addr × Obj)} {σ : St} {H : Hp} {s : Shared} {A : Around} {E : Value → Shared → Prop} {Q : Value → Shared → Prop} {c : Value} {b : Bool}
inductive TyOf (K : PySem.W.Frag) (H : Hp) : V → Value → Prop where
  | non : TyOf K H .non (.type "NoneType")
  | bl (x : Bool) : TyOf K H (.bl x) (.type "bool")
  | int (i : Int) : TyOf K H (.int i) (.type "int")
  | str (x : Str) : TyOf K H (.str x) (.type "str")
  | flt (x : UInt64) : TyOf K H (.flt x) (.type "float")
  | lst {a : Addr} {xs : List V} (e : H a = some (.lst xs)) : TyOf K H (.ref a) (.type "list")
  | frz {a : Addr} {o : Obj} {xs : List V} (e : H a = some (.frz o (.lst xs))) : TyOf K H (.ref a) (.type "list")
  | tup {a : Addr} {xs : List V} (e : H a = some (.tup xs)) : TyOf K H (.ref a) (.type "tuple")
  | dK {a : Addr} {kvs : List (Key × V)} (e : H a = some (.dK kvs)) : TyOf K H (.ref a) (.type "dict")
  | dT {a : Addr} {kvs : List (List Key × V)} (e : H a = some (.dT kvs)) : TyOf K H (.ref a) (.type "dict")
  | ins {a C dx : Addr} {fs : List (Str × V)} (e : H a = some (.ins C dx fs)) (cl : Cls K C) (ha : PySem.W.findIn K (.ref C) "__class__" = some (some (.builtin "object.__class__")))
      (hn : PySem.W.specialIn K (.builtin "object.__class__") "__get__" = some (some (.builtin "getset_descriptor.__get__"))) (htk : PySem.W.takesIn K (.builtin "object.__class__") = some true)
      (hm : PySem.W.mroIn K C (.type "object") = some true) : TyOf K H (.ref a) (.ref C)
theorem isinst_ok {x : V} {u t : Value} (I : Inv X pins σ H s) (rx : RelV x u) (ty : TyOf X.K H x t) (e : PySem.W.kitOne X.K t c = some b) (h : ∀ tk, Q (.bool b) { s with toks := tk }) :
    wpAny (model X.prog X.w) A (call (.builtin "isinstance") [u, c]) Q E s := by
  cases ty with
  | non => cases (show u = Value.none from rx); exact PySem.W.kia_one PySem.W.kitx_none I.kIn True.intro e (fun z => nomatch z) h
  | bl y => cases (show u = Value.bool y from rx); exact PySem.W.kia_one PySem.W.kitx_bool I.kIn True.intro e (fun z => nomatch z) h
  | int i => obtain ⟨t, q⟩ := (show ∃ t, u = Value.int i t from rx); cases q; exact PySem.W.kia_one PySem.W.kitx_int I.kIn True.intro e (fun z => nomatch z) h
  | str y => obtain ⟨t, q⟩ := (show ∃ t, u = Value.str y t from rx); cases q; exact PySem.W.kia_one PySem.W.kitx_str I.kIn True.intro e (fun z => nomatch z) h
  | flt y => obtain ⟨t, q⟩ := (show ∃ t, u = Value.float y t from rx); cases q; exact PySem.W.kia_one PySem.W.kitx_float I.kIn True.intro e (fun z => nomatch z) h
  | @lst a xs ea =>
    cases (show u = Value.ref a from rx)
    obtain ⟨_, _, n, _, h1⟩ := (show ObjOk X.prog X.w H s.heap a (.lst xs) from I.hok a _ ea)
    exact PySem.W.kia_one PySem.W.kitx_list I.kIn ⟨_, h1, rfl⟩ e (fun z => nomatch z) h
  | @frz a ob xs ea =>
    cases (show u = Value.ref a from rx)
    obtain ⟨_, _, _, n, _, h1⟩ := (show ObjOk X.prog X.w H s.heap a (.frz ob (.lst xs)) from I.hok a _ ea)
    exact PySem.W.kia_one PySem.W.kitx_list I.kIn ⟨_, h1, rfl⟩ e (fun z => nomatch z) h
  | @tup a xs ea =>
    cases (show u = Value.ref a from rx)
    obtain ⟨_, _, _, p⟩ := (show ObjOk X.prog X.w H s.heap a (.tup xs) from I.hok a _ ea)
    obtain ⟨o, h1, h2, _⟩ := p
    exact PySem.W.kia_one PySem.W.kitx_tuple I.kIn ⟨o, h1, h2⟩ e (fun z => nomatch z) h
  | @dK a kvs ea =>
    cases (show u = Value.ref a from rx)
    obtain ⟨_, _, vs, _, p⟩ := (show ObjOk X.prog X.w H s.heap a (.dK kvs) from I.hok a _ ea)
    obtain ⟨o, es, ep, h1, h2, _⟩ := p
    exact PySem.W.kia_one PySem.W.kitx_dict I.kIn ⟨o, h1, h2.1⟩ e (fun z => nomatch z) h
  | @dT a kvs ea =>
    cases (show u = Value.ref a from rx)
    obtain ⟨_, _, xs, _, o, es, ep, h1, h2, _⟩ := (show ObjOk X.prog X.w H s.heap a (.dT kvs) from I.hok a _ ea)
    exact PySem.W.kia_one PySem.W.kitx_dict I.kIn ⟨o, h1, h2.1⟩ e (fun z => nomatch z) h
  | @ins a C dx fs ea cl ha hn htk hm =>
    cases (show u = Value.ref a from rx)
    obtain ⟨mA, O, _⟩ := ins_get I.hok ea
    obtain ⟨od, J, _⟩ := O.look
    exact PySem.W.kia_one (PySem.W.kitx_own (cl.get _) cl.hd ha hn htk hm) I.kIn J e (fun z => nomatch z) h
end
end L2

namespace L2
open PySem PySem.Spec PyProof.Rows

structure Room (k : Nat) (A : Around) : Prop where
  hd : A.handled = none
  dp : A.depth + 3 * k + 5 < recursionLimit
  un : A.units + 16 * k + 200 < cLine
  gd : A.guards = some []
theorem Room.mono {j k : Nat} {A : Around} (r : Room k A) (h : j ≤ k) : Room j A := ⟨r.hd, by have := r.dp; omega, by have := r.un; omega, r.gd⟩
theorem Room.deeper {k : Nat} {A : Around} (r : Room (k + 1) A) (env : Env) : Room k (A.deeper env) :=
  ⟨r.hd, by have := r.dp; show A.depth + 1 + 3 * k + 5 < _; omega, by have := r.un; show A.units + 3 + 16 * k + 200 < _; omega, r.gd⟩
theorem Room.depth {k : Nat} {A : Around} (r : Room k A) : A.depth < recursionLimit := by have := r.dp; omega
theorem Room.units {k : Nat} {A : Around} (r : Room k A) : A.units + 64 < cLine := by have := r.un; omega
def tNil : TA := fun _ H Q => Q [] H
def tCons (ta : TE) (tr : TA) : TA := fun σ H Q => ta σ H fun x H1 => tr σ H1 fun xs H2 => Q (x :: xs) H2
section
variable {X : Cx} {e : Expr} {es : List Expr} {te : TE} {t : TA} {pos : Pos}
theorem pa_nil : PA X [] tNil := fun _ _ _ _ H Q I h => Calls.spliced_nil ⟨[], H, I, .nil, h⟩
theorem pa_cons (ha : PE X e te) (hr : PA X es t) (hs : starEach (e :: es) X.env = (false, eval e X.env) :: starEach es X.env := by rfl) : PA X (e :: es) (tCons te t) := by
  intro pos pins s σ H Q I h
  rw [hs]
  show wpAny _ _ (spliced ((false, eval e X.env) :: backTo pos (starEach es X.env))) _ _ s
  refine Calls.spliced_cons (thn (ha pins s σ H _ I h) fun u s1 ⟨x, H1, I1, r1, q1⟩ => ?_)
  exact thn (hr pos pins s1 σ H1 _ I1 q1) fun us s2 ⟨xs, H2, I2, r2, q2⟩ => ⟨x :: xs, H2, I2, .cons r1 r2, q2⟩

def tTup (t : TA) : TE := fun σ H Q => t σ H fun xs H1 => xs.length ≤ sizeLine ∧ ∀ p, H1 p = none → Q (.ref p) (upd H1 p (.tup xs))
def tLst (t : TA) : TE := fun σ H Q => t σ H fun xs H1 => xs.length ≤ sizeLine ∧ ∀ p, H1 p = none → Q (.ref p) (upd H1 p (.lst xs))
theorem pe_tup {x1} (h : PA X es t) : PE X (.Tuple es x1 pos) (tTup t) := by
  intro pins s σ H Q I hq
  refine wpAny_Tuple_spliced (thn (h pos pins s σ H _ I hq) fun us s1 ⟨xs, H1, I1, r, z, q⟩ => ⟨by rw [← r.length]; exact z, ?_⟩)
  have hf : H1 s1.heap.objs.size = none := I1.hok.fresh (Nat.le_refl _)
  refine ⟨.ref s1.heap.objs.size, upd H1 s1.heap.objs.size (.tup xs), I1.laid (t' := s1.toks) (fun b u e => Heap.get?_push_of_some _ e) (Nat.le_refl _) ?_, rfl, q _ hf⟩
  exact ⟨z, us, r, ⟨_, Heap.get?_push_size _ rfl, rfl, _, rfl⟩⟩
theorem pe_lst (h : PA X es t) : PE X (.List es pos) (tLst t) := by
  intro pins s σ H Q I hq
  refine wpAny_List_spliced (thn (h pos pins s σ H _ I hq) fun us s1 ⟨xs, H1, I1, r, z, q⟩ => ⟨by rw [← r.length]; exact z, ?_⟩)
  have hf : H1 s1.heap.objs.size = none := I1.hok.fresh (Nat.le_refl _)
  refine ⟨.ref s1.heap.objs.size, upd H1 s1.heap.objs.size (.lst xs), I1.laid (t' := s1.toks) (fun b u e => Heap.get?_push_of_some _ e) (Nat.le_refl _) ?_, rfl, q _ hf⟩
  exact ⟨z, us, 0, r, Heap.get?_push_size _ rfl⟩
end

abbrev Sp := List V → Hp → VK → XK → Prop
abbrev CXT := List Env → Hp → Shared → XK → Value → Shared → Prop

structure Env0 (P : Program) (w : World) (K : PySem.W.Frag) (mg : Str → Option Value) (base : Heap) (A : Around) (outer : List Env) (s : Shared) (H : Hp) : Prop where
  frames : A.frames = some outer
  mod : Mod K mg base
  bs : ∀ b o, base.get? b = some o → s.heap.get? b = some o ∧ H b = none
  bsz : base.objs.size ≤ s.heap.objs.size
  funs : s.heap.FunFrames base outer
  frf : ∀ b ∈ frs outer, H b = none
  hok : HOk P w H s.heap
  bare : AllBare s.gens
def CE (outer : List Env) (P : Program) (w : World) (H : Hp) (s : Shared) (Q : VK) (u : Value) (s' : Shared) : Prop :=
  ∃ v H', s'.os = s.os ∧ AllBare s'.gens ∧ Un (frs outer) [] H H' s.heap s'.heap ∧ HOk P w H' s'.heap ∧ RelV v u ∧ Q v H'
def CR (CX : CXT) (outer : List Env) (P : Program) (w : World) (H : Hp) (s : Shared) (Q : VK) (E : XK) (r : Result) (s' : Shared) : Prop :=
  match r with
  | .ok (.ret u) => CE outer P w H s Q u s'
  | .ok _ => False
  | .error e => CX outer H s E e s'
structure FnOk (P : Program) (w : World) (K : PySem.W.Frag) (mg : Str → Option Value) (base : Heap) (CX : CXT) (k : Nat) (f : Addr) (fd : FuncData) (ps : List Str) (sp : Sp) : Prop where
  len : ∀ vs H Q E, sp vs H Q E → vs.length = ps.length
  run : ∀ (A : Around) (outer : List Env) (s : Shared) (H : Hp) (args : Args) (us : List Value) (vs : List V) (Q : VK) (E : XK), Room k A → Env0 P w K mg base A outer s H → BindsTo s fd args (ps.zip us) → Vals vs us → sp vs H Q E →
    codeAny (model P w) A (.call (.ref f) args) (CR CX outer P w H s Q E) s
section
variable {X : Cx} {pins : List (Addr × Obj)} {σ : St} {H : Hp} {s s' : Shared}
theorem Inv.env0 (I : Inv X pins σ H s) : Env0 X.prog X.w X.K X.mg X.base X.A X.stack s H :=
  ⟨I.ok.frames, I.ok.mod, I.bs, Nat.le_trans I.ok.bsz I.sz, I.stack, I.stkFree, I.hok, I.bare⟩
theorem Inv.after {Q : VK} {u : Value} (I : Inv X pins σ H s) (h : CE X.stack X.prog X.w H s Q u s') : EP X pins σ Q u s' := by
  obtain ⟨v, H', os, bare, un, hok, r, q⟩ := h
  obtain ⟨hh, g, d, t, os'⟩ := s'
  obtain rfl : os' = s.os := os
  exact ⟨v, H', I.call (h' := hh) (g' := g) (d' := d) (t' := t) (ch := []) un hok bare (fun b z => absurd z (by simp)), r, q⟩
end

def tCall (sp : Sp) (dvs : List V) (E : XK) (t : TA) : TE := fun σ H Q => t σ H fun vs H1 => sp (vs ++ dvs) H1 Q E
def Binds (K : PySem.W.Frag) (fd : FuncData) (ps : List Str) (ds : List Value) : Prop :=
  ∀ (s : Shared) (us : List Value), K.In s.heap → (us ++ ds).length = ps.length → BindsTo s fd ⟨us, []⟩ (ps.zip (us ++ ds))
theorem Binds.all {K : PySem.W.Frag} {fd : FuncData} {ps : List Str} (h : ∀ us : List Value, us.length = ps.length → bindArgs fd ⟨us, []⟩ = pure (ps.zip us)) : Binds K fd ps [] := fun s us _ hl => by
  rw [List.append_nil] at hl ⊢
  exact .of_eq (h us hl)

def Passes (CX : CXT) (X : Cx) (E : XK) : Prop := ∀ (pins : List (Addr × Obj)) (σ : St) (H : Hp) (s : Shared) (e : Value) (s' : Shared), Inv X pins σ H s → CX X.stack H s E e s' → X.xe e s'

section
variable {X : Cx} {CX : CXT} {k : Nat} {f C : Addr} {fd : FuncData} {ps : List Str} {sp : Sp} {dvs : List V} {ds : List Value} {E : XK} {x m : Str} {p pos apos : Pos} {e o : Expr} {es : List Expr} {ta : TE} {t : TA}

theorem run_fn {pins : List (Addr × Obj)} {σ : St} {H : Hp} {s : Shared} {Q : VK} {us : List Value} {vs : List V} (F : FnOk X.prog X.w X.K X.mg X.base CX k f fd ps sp) (hr : Room k X.A) (hb : Binds X.K fd ps ds) (hd : Vals dvs ds) (hx : Passes CX X E)
    (I : Inv X pins σ H s) (r : Vals vs us) (h : sp (vs ++ dvs) H Q E) : wpAny (model X.prog X.w) X.A (call (.ref f) us) (EP X pins σ Q) X.xe s := by
  have r2 : Vals (vs ++ dvs) (us ++ ds) := r.append hd
  have hl : (us ++ ds).length = ps.length := by rw [← r2.length]; exact F.len _ _ _ _ h
  refine wpAny_call (codeAny_mono (F.run X.A X.stack s H ⟨us, []⟩ (us ++ ds) (vs ++ dvs) Q E hr I.env0 (hb s us I.kIn hl) r2 h) fun r s' hq => ?_)
  cases r with
  | error e => exact hx pins σ H s e s' I hq
  | ok fl =>
    cases fl with
    | ret u => exact I.after hq
    | next => exact False.elim hq
    | brk => exact False.elim hq
    | cont => exact False.elim hq

theorem pe_call (F : FnOk X.prog X.w X.K X.mg X.base CX k f fd ps sp) (hr : Room k X.A) (hg : Gl X x) (hm : X.mg x = some (.ref f)) (hk : PySem.W.keepIn X.K (.ref f) = true) (hb : Binds X.K fd ps ds) (hd : Vals dvs ds) (hx : Passes CX X E)
    (ha : PA X (e :: es) t) (hdb : (x == ("__debug__" : Str)) = false := by decide) (he : starEach (e :: es) X.env = (false, eval e X.env) :: starEach es X.env := by rfl) (hpl : (backTo pos (starEach es X.env)).any (·.1) = false := by rfl) :
    PE X (.Call (.Name x p) (e :: es) [] pos) (tCall sp dvs E t) := by
  intro pins s σ H Q I h
  refine wpAny_Call_Name_kw (ld_glob I hg hm ?_ hdb)
  refine PySem.W.callWith_K (h₀ := X.base) I.ok.mod.kin hk (thn (ha pos pins s σ H _ I h) fun us s1 ⟨vs, H1, I1, r, q⟩ => ⟨I1.kIn, ?_⟩) he hpl
  exact run_fn F hr hb hd hx I1 r q
end

section
variable {X : Cx} {CX : CXT} {k : Nat} {f C : Addr} {fd : FuncData} {ps ks : List Str} {sp : Sp} {E : XK} {x m : Str} {p pos apos kpos : Pos} {e o : Expr} {es : List Expr} {kws : List Keyword} {te ta : TE} {t tk : TA} {nm : Option Str}
variable {g : List Value → List Value → List Value} {gV : List V → List V → List V}
end

structure FnScope (N P : List Str) (sc : Scope) : Prop where
  kind : sc.kind = .function
  co : sc.isCoroutine = false
  gen : sc.isGenerator = false
  nd : N.Nodup
  pre : N.take P.length = P
  par : ∀ x ∈ P, sc.names.lookup x = some .local ∨ sc.names.lookup x = some .cell
  nofree : ∀ y ∈ sc.names, y.2 ≠ .free

theorem bindL_out {kindOf : Str → Option NameKind} {x : Str} : ∀ {binds : List (Str × Value)} {m : Str → Option Value}, (∀ v, (x, v) ∉ binds) → bindL kindOf binds m x = m x
  | [], _, _ => rfl
  | (n, v) :: r, m, h => by
    unfold bindL
    rw [bindL_out fun w hw => h w (List.mem_cons_of_mem _ hw)]
    split
    · have : x ≠ n := by rintro rfl; exact h v List.mem_cons_self
      simp [this]
    · rfl
theorem bindC_out {kindOf : Str → Option NameKind} {x : Str} : ∀ {binds : List (Str × Value)} {m : Str → Option Value}, (∀ v, (x, v) ∉ binds) → bindC kindOf binds m x = m x
  | [], _, _ => rfl
  | (n, v) :: r, m, h => by
    unfold bindC
    rw [bindC_out fun w hw => h w (List.mem_cons_of_mem _ hw)]
    split
    · rfl
    · have : x ≠ n := by rintro rfl; exact h v List.mem_cons_self
      simp [this]
theorem bindL_get {kindOf : Str → Option NameKind} {x : Str} {v : Value} : ∀ {P : List Str} {vs : List Value} {i : Nat} {m : Str → Option Value}, P.Nodup → P[i]? = some x → vs[i]? = some v → kindOf x = some .local →
    bindL kindOf (P.zip vs) m x = some v
  | [], _, _, _, _, h, _, _ => by simp at h
  | _ :: _, [], _, _, _, _, h, _ => by simp at h
  | p :: P, w :: vs, 0, m, nd, h1, h2, hk => by
    simp at h1 h2; subst h1; subst h2
    show bindL kindOf ((p, w) :: P.zip vs) m p = _
    unfold bindL
    rw [bindL_out fun v hv => (List.nodup_cons.mp nd).1 (List.of_mem_zip hv).1, if_pos hk]
    simp
  | p :: P, w :: vs, i + 1, m, nd, h1, h2, hk => by
    show bindL kindOf ((p, w) :: P.zip vs) m x = _
    unfold bindL
    exact bindL_get (i := i) (List.nodup_cons.mp nd).2 (by simpa using h1) (by simpa using h2) hk
theorem bindC_get {kindOf : Str → Option NameKind} {x : Str} {v : Value} : ∀ {P : List Str} {vs : List Value} {i : Nat} {m : Str → Option Value}, P.Nodup → P[i]? = some x → vs[i]? = some v → kindOf x ≠ some .local →
    bindC kindOf (P.zip vs) m x = some v
  | [], _, _, _, _, h, _, _ => by simp at h
  | _ :: _, [], _, _, _, _, h, _ => by simp at h
  | p :: P, w :: vs, 0, m, nd, h1, h2, hk => by
    simp at h1 h2; subst h1; subst h2
    show bindC kindOf ((p, w) :: P.zip vs) m p = _
    unfold bindC
    rw [bindC_out fun v hv => (List.nodup_cons.mp nd).1 (List.of_mem_zip hv).1, if_neg hk]
    simp
  | p :: P, w :: vs, i + 1, m, nd, h1, h2, hk => by
    show bindC kindOf ((p, w) :: P.zip vs) m x = _
    unfold bindC
    exact bindC_get (i := i) (List.nodup_cons.mp nd).2 (by simpa using h1) (by simpa using h2) hk

def start (N : List Str) (vs : List V) : St := vs.map some ++ List.replicate (N.length - vs.length) none

def cxOf (CX : CXT) (P : Program) (w : World) (K : PySem.W.Frag) (mg : Str → Option Value) (base : Heap) (N : List Str) (qual : Str) (scope : Scope) (f : Addr) (cd : Value) (A : Around) (outer : List Env) (s : Shared) (H : Hp) (E : XK) : Cx where
  prog := P
  w := w
  K := K
  mg := mg
  base := base
  A := A.deeper (envOfC qual scope s.heap.objs.size f cd)
  N := N
  s₀ := s
  H₀ := H
  env := envOfC qual scope s.heap.objs.size f cd
  outer := outer
  stack := envOfC qual scope s.heap.objs.size f cd :: outer
  ex := []
  calm := true
  fn := fun _ => true
  pn := []
  xe := fun e s' => wpAny (model P w) (A.deeper (envOfC qual scope s.heap.objs.size f cd)) (leaving (envOfC qual scope s.heap.objs.size f cd) e) (fun _ s'' => CX outer H s E e s'') (fun e' s'' => CX outer H s E e' s'') s'

theorem cell_has {sc : Scope} {n : Nat} {x : Str} (h : sc.names.lookup x = some .cell) : ∃ c, (cellsFrom n sc.names []).lookup x = some c := by
  have q := PySem.W.cellsFrom_some sc.names n [] (.inl h)
  exact Option.isSome_iff_exists.mp q

theorem inv_start {CX : CXT} {P : Program} {w : World} {K : PySem.W.Frag} {mg : Str → Option Value} {base : Heap} {N ps : List Str} {qual : Str} {scope : Scope} {f : Addr} {cd : Value} {A : Around} {outer : List Env} {s s1 : Shared} {H : Hp} {E : XK} {us : List Value} {vs : List V}
    (S : FnScope N ps scope) (hd : A.handled = none) (e0 : Env0 P w K mg base A outer s H) (hl : vs.length = ps.length) (r : Vals vs us)
    (x : InCallC s s.heap.objs.size (bindL (envOfC qual scope s.heap.objs.size f cd).kindOf (ps.zip us) fun _ => none) (cellsFrom (s.heap.objs.size + 1) scope.names []) (bindC (envOfC qual scope s.heap.objs.size f cd).kindOf (ps.zip us) fun _ => none) s1) :
    Inv (cxOf CX P w K mg base N qual scope f cd A outer s H E) [] (start N vs) H s1 := by
  have hpl : ps.length ≤ N.length := by have := congrArg List.length S.pre; rw [List.length_take] at this; omega
  obtain ⟨h1, tk, rfl, hk⟩ := x.done
  have noA : ∀ b : Addr, b ∉ (cxOf CX P w K mg base N qual scope f cd A outer s H E).ex := fun b z => absurd (show b ∈ ([] : List Addr) from z) (by simp)
  refine ⟨⟨e0.mod, S.kind, rfl, rfl, Nat.le_refl _, fun y z c h1 h2 => ?_, fun y hy => ?_, fun y c _ h => ?_, fun _ => hd, Around.frames_deeper e0.frames, .inr ⟨rfl, rfl⟩, fun b z => absurd z (noA b), e0.bs, e0.bsz, fun b _ _ => noA b, fun b z => absurd z (noA b), e0.funs, e0.frf⟩,
    rfl, e0.bare, Un.kept hk, ⟨_, x.toInCall.ns, fun i y v h1 h2 h3 => ?_⟩, fun y c h => ⟨_, x.cell y c h⟩, e0.hok.fresh (Nat.le_refl _), fun y c h => ?_, fun p hp => absurd (show p ∈ ([] : List (Addr × Obj)) from hp) (by simp), e0.hok.kept hk, ?_⟩
  · exact name_of_addr x.apart (PySem.mem_of_lookup h1) (PySem.mem_of_lookup h2)
  · have hy : scope.names.lookup y = some .cell ∨ scope.names.lookup y = some .free := hy
    rcases hy with hy | hy
    · exact cell_has hy
    · exact absurd rfl (S.nofree _ (PySem.mem_of_lookup hy))
  · exact Nat.le_of_lt (x.above y c (PySem.mem_of_lookup h))
  · have hi : i < vs.length := by
      unfold start at h2
      by_cases hi : i < vs.length
      · exact hi
      · rw [List.getElem?_append_right (by simpa using hi)] at h2
        rw [List.getElem?_replicate] at h2
        split at h2 <;> cases h2
    have ha : vs[i]? = some v := by
      unfold start at h2
      rw [List.getElem?_append_left (by simpa using hi), List.getElem?_map] at h2
      cases e : vs[i]? with
      | none => rw [e] at h2; cases h2
      | some a => rw [e] at h2; cases h2; rfl
    obtain ⟨u, hu, rv⟩ := r.get ha
    have hp : ps[i]? = some y := by
      rw [← S.pre, List.getElem?_take_of_lt (by omega)]; exact h1
    have ndP : ps.Nodup := by rw [← S.pre]; exact S.nd.sublist (List.take_sublist _ _)
    refine ⟨u, rv, ?_⟩
    rcases S.par y (List.mem_of_getElem? hp) with k | k
    · exact .inl ⟨k, bindL_get ndP hp hu k⟩
    · obtain ⟨c, e⟩ := cell_has (n := s.heap.objs.size + 1) k
      refine .inr ⟨.inl k, c, e, ?_⟩
      have q := x.cell y c e
      rw [bindC_get ndP hp hu (by show scope.names.lookup y ≠ _; rw [k]; decide)] at q
      exact q
  · exact e0.hok.fresh (Nat.le_of_lt (x.above y c (PySem.mem_of_lookup h)))
  · unfold start
    show _ = N.length
    rw [List.length_append, List.length_map, List.length_replicate]
    omega

theorem fn_of {CX : CXT} {P : Program} {w : World} {K : PySem.W.Frag} {mg : Str → Option Value} {base : Heap} {k : Nat} {f : Addr} {name qual : Str} {params : Arguments} {body : List Stmt} {scope : Scope} {dV kV doc pm cdv ct oc : Value} {an od : Option Addr}
    {osl : Array (Option Value)} {N ps : List Str} {sp : Sp} (lk : K.lookup f = some ⟨oc, od, .func (PySem.W.fnOf name qual params body scope dV kV doc pm an cdv ct), osl⟩) (hcd : PySem.W.codeIn K cdv qual = true) (S : FnScope N ps scope)
    (len : ∀ vs H Q E, sp vs H Q E → vs.length = ps.length)
    (hbody : ∀ (A : Around) (outer : List Env) (s : Shared) (H : Hp) (vs : List V) (Q : VK) (E : XK), Room k (A.deeper (envOfC qual scope s.heap.objs.size f cdv)) → sp vs H Q E →
      ∃ t, PSs (cxOf CX P w K mg base N qual scope f cdv A outer s H E) body t ∧ t { nx := fun _ H' => Q .non H', rt := Q } (start N vs) H) :
    FnOk P w K mg base CX (k + 1) f (PySem.W.fnOf name qual params body scope dV kV doc pm an cdv ct) ps sp := by
  refine ⟨len, fun A outer s H args us vs Q E hr e0 hb r hsp => ?_⟩
  have hl := len _ _ _ _ hsp
  have KX : K.In s.heap := e0.mod.kin.keeps fun b o e => (e0.bs b o e).1
  have lim : s.heap.NoLimit := e0.mod.nolimit.keeps fun b o e => (e0.bs b o e).1
  have hkind : ∀ y ∈ ps.zip us, scope.names.lookup y.1 = some .local ∨ (scope.names.lookup y.1 = some .cell ∧ ((cellsFrom (s.heap.objs.size + 1) scope.names []).lookup y.1).isSome = true) := fun ⟨n, v⟩ hy => by
    rcases S.par n (List.of_mem_zip hy).1 with q | q
    · exact .inl q
    · exact .inr ⟨q, PySem.W.cellsFrom_some _ _ _ (.inl q)⟩
  refine codeAny_call_function hr.depth (KX _ _ lk) rfl S.co S.gen rfl (PySem.W.codeRec_of KX hcd) (hb _ _ _ _ ?_)
  refine wpAny_newFunctionEnv_cells S.kind hkind fun env he s1 x => ?_
  subst he
  refine ⟨lim.keeps x.toInCall.keep, codeAny_func ?_⟩
  obtain ⟨t, ht, hq⟩ := hbody A outer s H vs Q E (hr.deeper _) hsp
  have I : Inv (cxOf CX P w K mg base N qual scope f cdv A outer s H E) [] (start N vs) H s1 := inv_start S hr.hd e0 hl r x
  refine wpAny_mono (ht [] s1 (start N vs) H _ I hq) (fun fl s' hs => ?_) fun e s' hs => hs
  have fin : ∀ {σ' : St} {H' : Hp} {v : V} {u : Value}, Inv (cxOf CX P w K mg base N qual scope f cdv A outer s H E) [] σ' H' s' → RelV v u → Q v H' → CE outer P w H s Q u s' :=
    fun {σ' H' v u} J rv q => ⟨v, H', J.os, J.bare, J.base, J.hok, rv, q⟩
  cases fl with
  | ret u =>
    obtain ⟨v, σ', H', J, rv, q⟩ := hs
    exact fin J rv q
  | next =>
    obtain ⟨σ', H', J, q⟩ := hs
    exact fin (v := V.non) (u := Value.none) J rfl q
  | brk =>
    obtain ⟨_, _, _, q⟩ := hs
    exact False.elim q
  | cont =>
    obtain ⟨_, _, _, q⟩ := hs
    exact False.elim q
end L2

namespace L2
open PySem PySem.Spec PyProof.Rows
section
variable {X : Cx} {x : Str} {p pos : Pos} {e : Expr} {es : List Expr} {t : TA} {id T : String} {r : List V → Hp → VK → Prop}

def tCB (r : List V → Hp → VK → Prop) (t : TA) : TE := fun σ H Q => t σ H fun vs H1 => r vs H1 Q
theorem pe_callB (hc : CallR X (.builtin id) r) (hg : Gl X x) (hm : X.mg x = none) (hv : bootBuiltins x = some (.builtin id)) (ha : PA X (e :: es) t) (hn : x ≠ "__name__" := by decide) (hdb : (x == ("__debug__" : Str)) = false := by decide)
    (he : starEach (e :: es) X.env = (false, eval e X.env) :: starEach es X.env := by rfl) (hpl : (backTo pos (starEach es X.env)).any (·.1) = false := by rfl) : PE X (.Call (.Name x p) (e :: es) [] pos) (tCB r t) := by
  intro pins s σ H Q I h
  refine wpAny_Call_Name_kw (ld_blt I hg hm hv ?_ hn hdb)
  exact PyProof.Rows.callWith_builtin1 (thn (ha pos pins s σ H _ I h) fun us s1 ⟨vs, H1, I1, r1, q1⟩ => hc pins s1 σ H1 vs us Q I1 r1 q1) he hpl
theorem pe_callTy (hc : CallR X (.type T) r) (hg : Gl X x) (hm : X.mg x = none) (hv : bootBuiltins x = some (.type T)) (ha : PA X (e :: es) t) (hn : x ≠ "__name__" := by decide) (hdb : (x == ("__debug__" : Str)) = false := by decide)
    (he : starEach (e :: es) X.env = (false, eval e X.env) :: starEach es X.env := by rfl) (hpl : (backTo pos (starEach es X.env)).any (·.1) = false := by rfl) : PE X (.Call (.Name x p) (e :: es) [] pos) (tCB r t) := by
  intro pins s σ H Q I h
  refine wpAny_Call_Name_kw (ld_blt I hg hm hv ?_ hn hdb)
  exact PyProof.Rows.callWith_type1 (thn (ha pos pins s σ H _ I h) fun us s1 ⟨vs, H1, I1, r1, q1⟩ => hc pins s1 σ H1 vs us Q I1 r1 q1) he hpl
end
end L2

namespace HT
open PySem PyProof.Rows

section
open PySem.SeqAt
open PySem.AutoSeq1 (wpAny_loadPart')
open PySem.MeetsSeq PySem.MeetsSeq2 PySem.MeetsSeq3

end

section
variable {prog : Program} {w : World} {A : Around} {E : Value → Shared → Prop} {s : Shared}

def sIx (n d : Nat) : Option Int → Nat
  | none => d
  | some v => if v < 0 then (v + (n : Int)).toNat else min v.toNat n
end
end HT

namespace L2
open PySem PySem.Spec PyProof.Rows

abbrev TO := St → Hp → (Option Int → Hp → Prop) → Prop
def PO (X : Cx) (e : Option Expr) (t : TO) : Prop :=
  ∀ (pins : List (Addr × Obj)) (s : Shared) (σ : St) (H : Hp) (Q : Option Int → Hp → Prop), Inv X pins σ H s → t σ H Q →
    wpAny (model X.prog X.w) X.A (evalPart e X.env) (fun u s' => ∃ o H', Inv X pins σ H' s' ∧ IsPart u o ∧ Q o H') X.xe s
def tNoPart : TO := fun _ H Q => Q none H
def tPart (t : TE) : TO := fun σ H Q => t σ H fun x H1 => ∃ i, x = .int i ∧ Q (some i) H1

theorem intsAre_of {ns : List Int} : ∀ {us : List Value}, Vals (ns.map V.int) us → IntsAre us ns := by
  induction ns with
  | nil => intro us r; rw [List.map_nil] at r; cases r; exact .nil
  | cons n ns ih =>
    intro us r
    rw [List.map_cons] at r
    cases r with
    | cons r1 r2 =>
      obtain ⟨t, e⟩ := r1
      subst e
      exact .cons n t (ih r2)

section
variable {X : Cx} {e : Expr} {te : TE} {lo hi : Option Expr} {tl th : TO} {pos p2 : Pos}

theorem po_none : PO X none tNoPart := by
  intro pins s σ H Q I h
  rw [evalPart_none]
  exact wpAny_pure ⟨none, H, I, .none, h⟩
theorem po_some (h : PE X e te) : PO X (some e) (tPart te) := by
  intro pins s σ H Q I hw
  rw [evalPart_some]
  refine thn (h pins s σ H _ I hw) fun u s1 ⟨x, H1, I1, r1, q1⟩ => ?_
  obtain ⟨i, rfl, q⟩ := q1
  obtain ⟨t, rfl⟩ := r1
  exact ⟨some i, H1, I1, .int i t, q⟩

def SlR (X : Cx) (r : V → Option Int → Option Int → Hp → VK → Prop) : Prop :=
  ∀ (pins : List (Addr × Obj)) (s : Shared) (σ : St) (H : Hp) (x : V) (v vl vu : Value) (lo hi : Option Int) (sl : Addr) (Q : VK), Inv X pins σ H s → RelV x v → s.heap.IsSliceOf sl vl vu .none → IsPart vl lo → IsPart vu hi → r x lo hi H Q →
    ∃ T id, typeLookup (.type T) "__getitem__" = pure (some (.builtin id)) ∧ s.TypeIs v T ∧ wpAny (model X.prog X.w) X.A (getItem v (.ref sl)) (EP X pins σ Q) X.xe s
def tSl (r : V → Option Int → Option Int → Hp → VK → Prop) (te : TE) (tl th : TO) : TE := fun σ H Q => te σ H fun x H1 => tl σ H1 fun l H2 => th σ H2 fun u H3 => r x l u H3 Q
theorem pe_slice {r : V → Option Int → Option Int → Hp → VK → Prop} (hr : SlR X r) (he : PE X e te) (hl : PO X lo tl) (hu : PO X hi th) : PE X (.Subscript e (.Slice lo hi none p2) pos) (tSl r te tl th) := by
  intro pins s σ H Q I h
  refine Subscript_ (thn (he pins s σ H _ I h) fun v s1 ⟨x, H1, I1, r1, q1⟩ => ?_)
  refine wpAny_Slice (thn (hl pins s1 σ H1 _ I1 q1) fun vl s2 ⟨l, H2, I2, pl, q2⟩ => thn (hu pins s2 σ H2 _ I2 q2) fun vu s3 ⟨u, H3, I3, pu, q3⟩ => ?_)
  rw [evalPart_none]
  refine wpAny_pure ?_
  have I4 : Inv X pins σ H3 { s3 with heap := s3.heap.push { cls := .type "slice", data := .fields #[vl, vu, .none] } } := I3.kept (t' := s3.toks) fun b ob q => Heap.get?_push_of_some _ q
  obtain ⟨T, id, hT, ht, hg⟩ := hr pins { s3 with heap := s3.heap.push { cls := .type "slice", data := .fields #[vl, vu, .none] } } σ H3 x v vl vu l u s3.heap.objs.size Q I4 r1 (Heap.IsSliceOf.new ..) pl pu q3
  show wpAny (model X.prog X.w) X.A (subscriptTail e (.Slice lo hi none p2) v (.ref s3.heap.objs.size)) (EP X pins σ Q) X.xe { s3 with heap := s3.heap.push { cls := .type "slice", data := .fields #[vl, vu, .none] } }
  exact tail_any (ops := [.ref s3.heap.objs.size, v]) ht hT hg (by with_unfolding_all rfl)

def cutV (xs : List V) (lo hi : Option Int) : List V := (xs.drop (HT.sIx xs.length 0 lo)).take (HT.sIx xs.length xs.length hi - HT.sIx xs.length 0 lo)
theorem cutV_length (xs : List V) (lo hi : Option Int) : (cutV xs lo hi).length ≤ xs.length := by
  unfold cutV
  rw [List.length_take, List.length_drop]
  omega
end
end L2

namespace L2
open PySem PySem.Spec PyProof.Rows

def ixN (n : Nat) (i : Int) : Option Nat := if 0 ≤ i then (if i < n then some i.toNat else none) else if -(n : Int) ≤ i then some (i + n).toNat else none
def atI {α : Type} (xs : List α) (i : Int) : Option α := (ixN xs.length i).bind fun j => xs[j]?
theorem ixN_seq {n : Nat} {i : Int} {j : Nat} (h : ixN n i = some j) : seqIndex? i n = some j ∧ j < n ∧ -(n : Int) ≤ i ∧ i < n := by
  unfold ixN at h
  by_cases h0 : 0 ≤ i
  · rw [if_pos h0] at h
    by_cases h1 : i < n
    · rw [if_pos h1] at h
      have e : i.toNat = j := Option.some.inj h
      exact ⟨by rw [seqIndex_of h0 h1, e], by omega, by omega, h1⟩
    · rw [if_neg h1] at h; cases h
  · rw [if_neg h0] at h
    by_cases h1 : -(n : Int) ≤ i
    · rw [if_pos h1] at h
      have e : (i + n).toNat = j := Option.some.inj h
      exact ⟨by rw [seqIndex_neg (by omega) h1, e], by omega, h1, by omega⟩
    · rw [if_neg h1] at h; cases h
theorem atI_get {α : Type} {xs : List α} {i : Int} {v : α} (h : atI xs i = some v) : ∃ j, seqIndex? i xs.length = some j ∧ xs[j]? = some v ∧ j < xs.length ∧ -(xs.length : Int) ≤ i ∧ i < xs.length := by
  unfold atI at h
  cases e : ixN xs.length i with
  | none => rw [e] at h; cases h
  | some j =>
    rw [e] at h
    obtain ⟨h1, h2, h3, h4⟩ := ixN_seq e
    exact ⟨j, h1, h, h2, h3, h4⟩
theorem atI_nat {α : Type} {xs : List α} {j : Nat} {v : α} (h : xs[j]? = some v) : atI xs (j : Int) = some v := by
  have hj : j < xs.length := (List.getElem?_eq_some_iff.mp h).1
  have e : ixN xs.length (j : Int) = some j := by
    unfold ixN
    rw [if_pos (by omega), if_pos (by omega)]; simp
  unfold atI; rw [e]; exact h
theorem atI_last {α : Type} (xs : List α) (v : α) : atI (xs ++ [v]) (-1) = some v := by
  have hl : (xs ++ [v]).length = xs.length + 1 := by simp
  have e : ixN (xs ++ [v]).length (-1) = some xs.length := by
    unfold ixN
    rw [hl, if_neg (by decide), if_pos (by omega)]
    congr 1
    omega
  unfold atI
  rw [e]
  show (xs ++ [v])[xs.length]? = some v
  simp

def PlainIx (b : Expr) : Prop := ∀ o i, subscripted b false o i = operate [o, i] (getItem o i)
def IxR (X : Cx) (r : R2) : Prop :=
  ∀ (value slice : Expr) (pins : List (Addr × Obj)) (s : Shared) (σ : St) (H : Hp) (x y : V) (v u : Value) (Q : VK), Inv X pins σ H s → RelV x v → RelV y u → r x y H Q →
    subscripted slice false v u = operate [v, u] (getItem v u) → wpAny (model X.prog X.w) X.A (subscriptTail value slice v u) (EP X pins σ Q) X.xe s
def MtR (X : Cx) (id : String) (r : V → List V → Hp → VK → Prop) : Prop :=
  ∀ (pins : List (Addr × Obj)) (s : Shared) (σ : St) (H : Hp) (x : V) (xs : List V) (v : Value) (us : List Value) (Q : VK), Inv X pins σ H s → RelV x v → Vals xs us → r x xs H Q →
    wpAny (model X.prog X.w) X.A (call (.builtin id) (v :: us)) (EP X pins σ Q) X.xe s
section
variable {X : Cx} {a b : Expr} {ta tb : TE} {pos : Pos}
theorem pe_ix {r : R2} (hr : IxR X r) (ha : PE X a ta) (hb : PE X b tb) (hs : PlainIx b) : PE X (.Subscript a b pos) (tOp r ta tb) := by
  intro pins s σ H Q I h
  exact Subscript_ (binT ha hb I h fun v u s2 x y H2 I2 rx ry q => hr a b pins s2 σ H2 x y v u Q I2 rx ry q (hs _ _))

def rIxL (K : PySem.W.Frag) : R2 := fun x y H Q => ∃ p xs i v, x = .ref p ∧ y = .int i ∧ SqL K H p xs ∧ atI xs i = some v ∧ Q v H
def rIxT (K : PySem.W.Frag) : R2 := fun x y H Q => ∃ p xs i v, x = .ref p ∧ y = .int i ∧ SqT K H p xs ∧ atI xs i = some v ∧ Q v H
theorem ix_list : IxR X (rIxL X.K) := by
  intro value slice pins s σ H x y v u Q I rx ry h hs
  obtain ⟨p, xs, i, z, rfl, rfl, hq, he, q⟩ := h
  cases rx
  obtain ⟨t, rfl⟩ := ry
  obtain ⟨its, r, pl, hz⟩ := I.list hq
  obtain ⟨j, h1, h2, h3, h4, h5⟩ := atI_get he
  obtain ⟨w, ew, rw'⟩ := r.get h2
  have hl := r.length
  have hn := line63
  have fin : EP X pins σ Q w s := ⟨z, H, I, rw', q⟩
  by_cases h0 : 0 ≤ i
  · have hj : i.toNat = j := by
      rw [seqIndex_of h0 h5] at h1
      exact Option.some.inj h1
    exact item_listR pl.isList h0 (by omega) (by rw [hj]; simpa using ew) fin hs
  · have hj : (i + (its.toArray.size : Int)).toNat = j := by
      rw [seqIndex_neg (by omega) h4] at h1
      rw [List.size_toArray, ← hl]
      exact Option.some.inj h1
    exact subscriptTail_builtinR (x := w) pl.isList.typeIs slot_list_getitem.lookup
      (wpAny_getItem_list_neg (Q := fun r s' => r = w ∧ EP X pins σ Q r s') pl.isList (by omega) (by rw [List.size_toArray] <;> omega) (by omega) (by rw [hj]; simpa using ew) ⟨rfl, fin⟩) hs
theorem ix_tup : IxR X (rIxT X.K) := by
  intro value slice pins s σ H x y v u Q I rx ry h hs
  obtain ⟨p, xs, i, z, rfl, rfl, hq, he, q⟩ := h
  cases rx
  obtain ⟨t, rfl⟩ := ry
  obtain ⟨its, r, pl, hz⟩ := I.tuple hq
  obtain ⟨j, h1, h2, h3, h4, h5⟩ := atI_get he
  obtain ⟨w, ew, rw'⟩ := r.get h2
  have hl := r.length
  have hn := line63
  have fin : EP X pins σ Q w s := ⟨z, H, I, rw', q⟩
  exact subscriptTail_builtinR (x := w) pl.typeIs slot_tuple_getitem.lookup
    (getItem_tuple (j := j) (Q := fun r s' => r = w ∧ EP X pins σ Q r s') pl (by omega) (by omega) (by rw [List.size_toArray, ← hl]; exact h1) (by simpa using ew) ⟨rfl, fin⟩) hs
theorem mapSeq_set (its : List Value) (n j : Nat) (u : Value) : Obj.mapSeq (·.setIfInBounds j u) { cls := .type "list", data := .seq its.toArray n } = { cls := .type "list", data := .seq (its.set j u).toArray n } := by
  simp [Obj.mapSeq]
theorem Inv.lst {pins : List (Addr × Obj)} {σ : St} {H : Hp} {s : Shared} {p : Addr} {xs : List V} (I : Inv X pins σ H s) (h : H p = some (.lst xs)) :
    ∃ (its : List Value) (n : Nat), Vals xs its ∧ s.heap.get? p = some { cls := .type "list", data := .seq its.toArray n } ∧ xs.length ≤ sizeLine := by
  obtain ⟨z, its, n, r, e⟩ := I.hok p _ h
  exact ⟨its, n, r, e, z⟩
theorem Inv.lstUpd {pins : List (Addr × Obj)} {σ : St} {H : Hp} {s : Shared} {p : Addr} {xs ys : List V} {its its' : List Value} {n n' : Nat} {f : Obj → Obj} (I : Inv X pins σ H s) (h : H p = some (.lst xs))
    (ho : s.heap.get? p = some { cls := .type "list", data := .seq its.toArray n }) (hf : f { cls := .type "list", data := .seq its.toArray n } = { cls := .type "list", data := .seq its'.toArray n' }) (r : Vals ys its') (hz : ys.length ≤ sizeLine) (t : Nat) :
    Inv X pins σ (upd H p (.lst ys)) { s with heap := s.heap.update p f, toks := t } := by
  have e : (s.heap.update p f).get? p = some { cls := .type "list", data := .seq its'.toArray n' } := by
    rw [Heap.get?_update_self f ho (by rw [hf] <;> rfl), hf]
  refine I.write (x := p) (e := p) (by rw [h]; trivial) (.inl rfl) (fun b u hb q => (Heap.get?_update_other _ _ (Ne.symm hb)).trans q) ⟨_, e⟩ ?_
  exact ⟨hz, its', n', r, e⟩
def rSetL : V → V → V → Hp → (Hp → Prop) → Prop := fun o i v H Q => ∃ p xs k j, o = .ref p ∧ i = .int k ∧ H p = some (.lst xs) ∧ ixN xs.length k = some j ∧ Q (upd H p (.lst (xs.set j v)))
theorem set_list : PSet X rSetL := by
  intro pins s σ H o i v ov iv u Q I ro ri rv h
  obtain ⟨p, xs, k, j, rfl, rfl, hp, hj, q⟩ := h
  cases ro
  obtain ⟨t, rfl⟩ := ri
  obtain ⟨its, n, r, ho, hz⟩ := I.lst hp
  obtain ⟨h1, h2, h3, h4⟩ := ixN_seq hj
  have hl := r.length
  have hn := line63
  have I' : Inv X pins σ (upd H p (.lst (xs.set j v))) { s with heap := s.heap.update p (Obj.mapSeq (·.setIfInBounds j u)) } :=
    I.lstUpd hp ho (mapSeq_set its n j u) (r.set rv j) (by rw [List.length_set]; exact hz) s.toks
  by_cases h0 : 0 ≤ k
  · have hk : k.toNat = j := by
      rw [seqIndex_of h0 h4] at h1
      exact Option.some.inj h1
    exact PySem.W.ki_setAt ho h0 (by omega) (by rw [List.size_toArray, ← hl]; exact h4) (by rw [hk]; exact ⟨_, I', q⟩)
  · have hk : (k + (its.toArray.size : Int)).toNat = j := by
      rw [seqIndex_neg (by omega) h3] at h1
      rw [List.size_toArray, ← hl]
      exact Option.some.inj h1
    exact PySem.W.ki_setBack ho (by omega) (by rw [List.size_toArray, ← hl]; exact h3) (by omega) (by rw [hk]; exact ⟨_, I', q⟩)

theorem slice_bounds (lo hi : Option Int) (n : Nat) : (sliceBounds lo hi none n).1 = ((HT.sIx n 0 lo : Nat) : Int) ∧ (sliceBounds lo hi none n).2.1 = ((HT.sIx n n hi : Nat) : Int) ∧ (sliceBounds lo hi none n).2.2 = 1 := by
  refine ⟨?_, ?_, rfl⟩
  · cases lo with
    | none => simp [sliceBounds, HT.sIx]
    | some i =>
      simp only [sliceBounds, HT.sIx, Option.getD_none, show (1 : Int) > 0 by decide, if_true]
      by_cases h : i < 0
      · simp only [h, if_true] <;> omega
      · simp only [h, if_false] <;> omega
  · cases hi with
    | none => simp [sliceBounds, HT.sIx]
    | some i =>
      simp only [sliceBounds, HT.sIx, Option.getD_none, show (1 : Int) > 0 by decide, if_true]
      by_cases h : i < 0
      · simp only [h, if_true] <;> omega
      · simp only [h, if_false] <;> omega
theorem slicePick_cut (its : List Value) (lo hi : Option Int) : slicePick its.toArray lo hi none = ((its.drop (HT.sIx its.length 0 lo)).take (HT.sIx its.length its.length hi - HT.sIx its.length 0 lo)).toArray := by
  obtain ⟨h1, h2, h3⟩ := slice_bounds lo hi its.toArray.size
  unfold slicePick
  rw [h1, h2, h3]
  simp only [sliceRange_one, pick_run, List.size_toArray] <;> rfl
def rSlL (K : PySem.W.Frag) : V → Option Int → Option Int → Hp → VK → Prop := fun x lo hi H Q => ∃ a xs, x = .ref a ∧ SqL K H a xs ∧ ∀ p, H p = none → Q (.ref p) (upd H p (.lst (cutV xs lo hi)))
theorem sl_list : SlR X (rSlL X.K) := by
  intro pins s σ H x v vl vu lo hi sl Q I rx hs pl pu h
  obtain ⟨a, xs, rfl, hx, q⟩ := h
  cases rx
  obtain ⟨its, r, ht, hz⟩ := I.list hx
  have hlen := r.length
  refine ⟨"list", _, slot_list_getitem.lookup, ht.isList.typeIs, ?_⟩
  refine wpAny_getItem_list_slice ht.isList hs pl pu .none (by simp) ?_ (by rw [List.size_toArray] <;> omega)
  rw [slicePick_cut, ← hlen]
  refine ⟨.ref s.heap.objs.size, _, I.laid (t' := s.toks) (o := .lst (cutV xs lo hi)) (fun b ob q => Heap.get?_push_of_some _ q) (Nat.le_refl _) ?_, rfl, q _ (I.hok.fresh (Nat.le_refl _))⟩
  exact ⟨Nat.le_trans (cutV_length xs lo hi) hz, _, 0, (r.drop (HT.sIx xs.length 0 lo)).take (HT.sIx xs.length xs.length hi - HT.sIx xs.length 0 lo), Heap.get?_push_size _ rfl⟩

theorem call_len_seq : CallR X (.builtin "len") (fun xs H Q => ∃ p ys, xs = [.ref p] ∧ (SqL X.K H p ys ∨ SqT X.K H p ys) ∧ Q (.int ys.length) H) := by
  intro pins s σ H xs us Q I r h
  obtain ⟨p, ys, rfl, hq, q⟩ := h
  obtain ⟨u, rfl, rx⟩ := vals1 r
  cases rx
  have hn := line63
  rcases hq with hq | hq
  · obtain ⟨its, r', pl, hz⟩ := I.list hq
    have hlen := r'.length
    exact Calls.call_len_list pl.isList (by simp only [List.size_toArray] <;> omega) ⟨.int ys.length, H, I.tok _, ⟨s.toks + 1, by rw [List.size_toArray, hlen]⟩, q⟩
  · obtain ⟨its, r', pl, hz⟩ := I.tuple hq
    have hlen := r'.length
    exact len_tuple pl (by simp only [List.size_toArray] <;> omega) ⟨.int ys.length, H, I.tok _, ⟨s.toks + 1, by rw [List.size_toArray, hlen]⟩, q⟩
theorem call_list_of : CallR X (.type "list") (fun xs H Q => ∃ p ys, xs = [.ref p] ∧ (SqL X.K H p ys ∨ SqT X.K H p ys) ∧ ∀ l, H l = none → Q (.ref l) (upd H l (.lst ys))) := by
  intro pins s σ H xs us Q I r h
  obtain ⟨p, ys, rfl, hq, q⟩ := h
  obtain ⟨u, rfl, rx⟩ := vals1 r
  cases rx
  have fin : ∀ (its : List Value), Vals ys its → ys.length ≤ sizeLine → ∀ (h' : Heap) (c' : Nat), (∀ b o', s.heap.get? b = some o' → h'.get? b = some o') →
      h'.get? s.heap.objs.size = some { cls := .type "list", dict := none, data := .seq its.toArray c', slots := #[] } → EP X pins σ Q (.ref s.heap.objs.size) { s with heap := h' } := fun its r' hz h' c' kp e =>
    ⟨.ref s.heap.objs.size, _, I.laid (t' := s.toks) kp (Nat.le_refl _) (show ObjOk X.prog X.w _ h' _ (.lst ys) from ⟨hz, its, c', r', e⟩), rfl, q _ (I.hok.fresh (Nat.le_refl _))⟩
  rcases hq with hq | hq
  · obtain ⟨its, r', pl, hz⟩ := I.list hq
    have hlen := r'.length
    obtain ⟨o, ho, hc, n, hd⟩ := pl.isList
    exact call_list_seq p (.inl rfl) ho hc hd (fun h' c' kp e => fin its r' hz h' c' kp e) (by simp only [List.size_toArray] <;> omega)
  · obtain ⟨its, r', pl, hz⟩ := I.tuple hq
    have hlen := r'.length
    obtain ⟨o, ho, hc, n, hd⟩ := pl
    exact call_list_seq p (.inr rfl) ho hc hd (fun h' c' kp e => fin its r' hz h' c' kp e) (by simp only [List.size_toArray] <;> omega)
theorem call_tuple_of : CallR X (.type "tuple") (fun xs H Q => ∃ p ys, xs = [.ref p] ∧ ((SqL X.K H p ys ∧ ∀ l, H l = none → Q (.ref l) (upd H l (.tup ys))) ∨ (SqT X.K H p ys ∧ Q (.ref p) H))) := by
  intro pins s σ H xs us Q I r h
  obtain ⟨p, ys, rfl, h⟩ := h
  obtain ⟨u, rfl, rx⟩ := vals1 r
  cases rx
  rcases h with ⟨hq, q⟩ | ⟨hq, q⟩
  · obtain ⟨its, r', pl, hz⟩ := I.list hq
    have hlen := r'.length
    refine call_tuple_list pl.isList (fun h' kp => ?_) (by simp only [List.size_toArray] <;> omega)
    have I1 : Inv X pins σ H { s with heap := h' } := I.kept (t' := s.toks) kp
    have I2 : Inv X pins σ (upd H h'.objs.size (.tup ys)) { s with heap := h'.push { cls := .type "tuple", data := .seq its.toArray } } :=
      I1.laid (t' := s.toks) (fun b o e => Heap.get?_push_of_some _ e) (Nat.le_refl _) (show ObjOk X.prog X.w _ _ _ (.tup ys) from ⟨hz, its, r', IsTup.new _ _⟩)
    exact ⟨.ref h'.objs.size, _, I2, rfl, q _ (I1.hok.fresh (Nat.le_refl _))⟩
  · obtain ⟨its, r', pl, hz⟩ := I.tuple hq
    exact call_tuple_same pl ⟨.ref p, H, I, rfl, q⟩

def tyV (K : PySem.W.Frag) (T : String) (x : V) (H : Hp) : Prop := match x with
  | .str _ => T = "str"
  | .int _ => T = "int"
  | .ref p => (T = "list" ∧ ∃ xs, SqL K H p xs) ∨ (T = "tuple" ∧ ∃ o, K.lookup p = some o ∧ o.cls = .type "tuple" ∧ o.dict = none) ∨
      (T = "dict" ∧ ((∃ kvs, H p = some (.dK kvs)) ∨ ∃ kvs, H p = some (.dT kvs))) ∨ (T = "set" ∧ ∃ S n, H p = some (.set S n))
  | _ => False
theorem tyV_is {pins : List (Addr × Obj)} {σ : St} {H : Hp} {s : Shared} {T : String} {x : V} {v : Value} (I : Inv X pins σ H s) (r : RelV x v) (ty : tyV X.K T x H) :
    s.TypeIs v T ∧ ∀ a, v = .ref a → ∃ ob, s.heap.get? a = some ob ∧ ob.dict = none := by
  cases x with
  | str z =>
    obtain ⟨t, rfl⟩ := r
    cases (show T = "str" from ty)
    exact ⟨typeIs_str s z t, fun _ e => nomatch e⟩
  | int i =>
    obtain ⟨t, rfl⟩ := r
    cases (show T = "int" from ty)
    exact ⟨typeIs_int s i t, fun _ e => nomatch e⟩
  | ref p =>
    cases r
    rcases ty with ⟨rfl, xs, hq⟩ | ⟨rfl, o, hk, hc, hd⟩ | ⟨rfl, hk⟩ | ⟨rfl, S, n, hk⟩
    · obtain ⟨its, _, pl, _⟩ := I.list hq
      refine ⟨pl.isList.typeIs, fun a e => ?_⟩
      cases e
      obtain ⟨o, n, e, c, hd, _⟩ := pl
      exact ⟨o, e, hd⟩
    · refine ⟨⟨o, I.kIn p o hk, hc⟩, fun a e => ?_⟩
      cases e
      exact ⟨o, I.kIn _ o hk, hd⟩
    · have z : ∃ o, s.heap.get? p = some o ∧ o.ExactDict := by
        rcases hk with ⟨kvs, hk⟩ | ⟨kvs, hk⟩
        · obtain ⟨_, _, _, _, o, _, _, e, ex, _⟩ := I.hok p _ hk
          exact ⟨o, e, ex⟩
        · obtain ⟨_, _, _, _, o, _, _, e, ex, _⟩ := I.hok p _ hk
          exact ⟨o, e, ex⟩
      obtain ⟨o, e, ex⟩ := z
      refine ⟨⟨o, e, ex.1⟩, fun a e2 => ?_⟩
      cases e2
      exact ⟨o, e, ex.2.1⟩
    · obtain ⟨o, _, _, _, e, ex, _⟩ := I.hok p _ hk
      refine ⟨⟨o, e, ex.1⟩, fun a e2 => ?_⟩
      cases e2
      exact ⟨o, e, ex.2.1⟩
  | _ => exact False.elim ty
def tBM (K : PySem.W.Frag) (T : String) (r : V → List V → Hp → VK → Prop) (to : TE) (t : TA) : TE := fun σ H Q => to σ H fun x H1 => tyV K T x H1 ∧ t σ H1 fun xs H2 => r x xs H2 Q
variable {o e : Expr} {es : List Expr} {to : TE} {t : TA} {name : Str} {apos cpos : Pos} {T id : String} {r : V → List V → Hp → VK → Prop}
theorem pe_bm (pa : PlainAttrs T) (slot : Slot T name id) (hty : typeOf (.builtin id) = pure (.type "method_descriptor")) (hm : MtR X id r) (ho : PE X o to) (ha : PA X (e :: es) t)
    (hbase : attributeBase o name X.env (eval o X.env) = eval o X.env := by rfl)
    (hfew : ((backTo cpos (starEach (e :: es) X.env)).all (fun x => !x.1) && (backToKw cpos (keywordEach [] X.env)).all (fun x => x.1.isSome)
      && decide ((e :: es).length + ([] : List Keyword).length + (if ([] : List Keyword).isEmpty then 0 else 1) < 30)) = true := by rfl)
    (hline : (apos.endLine == cpos.line) = true := by rfl) (hs : starEach (e :: es) X.env = (false, eval e X.env) :: starEach es X.env := by rfl) (hplain : (backTo cpos (starEach es X.env)).any (·.1) = false := by rfl) :
    PE X (.Call (.Attribute o name apos) (e :: es) [] cpos) (tBM X.K T r to t) := by
  intro pins s σ H Q I h
  refine wpAny_Call_method_late hbase hfew hline rfl (thn (ho pins s σ H _ I h) fun v s1 ⟨x, H1, I1, r1, ty, q1⟩ => ?_)
  obtain ⟨h1, h2⟩ := tyV_is I1 r1 ty
  refine ⟨T, id, pa, slot, hty, h1, h2, ?_⟩
  have hA := ha cpos pins s1 σ H1 _ I1 q1
  rw [hs] at hA ⊢
  refine Calls.callWith_builtin (by show (false || (backTo cpos (starEach es X.env)).any (·.1)) = false; rw [hplain] <;> rfl) (Calls.evalArgs_plain ?_)
  exact thn hA fun us s2 ⟨vs, H2, I2, r2, q2⟩ => hm pins s2 σ H2 x vs v us Q I2 r1 r2 q2
end
end L2

namespace L2
open PySem PySem.Spec PyProof.Rows

def MtM (X : Cx) (id : String) (r : V → List V → Hp → VK → Prop) : Prop :=
  ∀ (pins : List (Addr × Obj)) (s : Shared) (σ : St) (H : Hp) (x : V) (xs : List V) (v : Value) (us : List Value) (Q : VK), Inv X pins σ H s → RelV x v → Vals xs us → r x xs H Q →
    wpAny (model X.prog X.w) X.A (call (.builtin id) (v :: us)) (EP X pins σ Q) X.xe s

theorem Vals.one : ∀ {x : V} {us : List Value}, Vals [x] us → ∃ u, us = [u] ∧ RelV x u
  | _, _, .cons r .nil => ⟨_, rfl, r⟩
theorem Vals.eraseIdx : ∀ {xs : List V} {us : List Value} (i : Nat), Vals xs us → Vals (xs.eraseIdx i) (us.eraseIdx i)
  | _, _, _, .nil => .nil
  | _, _, 0, .cons _ t => t
  | _, _, i + 1, .cons r t => .cons r (Vals.eraseIdx i t)
theorem Vals.rep {xs : List V} {us : List Value} (h : Vals xs us) : ∀ k : Nat, Vals (List.replicate k xs).flatten (List.replicate k us).flatten
  | 0 => .nil
  | k + 1 => by
    rw [List.replicate_succ, List.replicate_succ, List.flatten_cons, List.flatten_cons]
    exact Vals.append h (Vals.rep h k)
theorem len_erase {α : Type} : ∀ (l : List α) (i : Nat), (l.eraseIdx i).length ≤ l.length
  | [], _ => Nat.le_refl _
  | _ :: _, 0 => Nat.le_succ _
  | _ :: r, i + 1 => Nat.succ_le_succ (len_erase r i)
theorem foldl_rep (its : List Value) : ∀ (k : Nat) (acc : List Value),
    List.foldl (fun x1 x2 => x1 ++ x2) acc.toArray (List.replicate k its.toArray) = (acc ++ (List.replicate k its).flatten).toArray
  | 0, acc => by simp
  | k + 1, acc => by
    have e : acc.toArray ++ its.toArray = (acc ++ its).toArray := by simp
    have e2 : (acc ++ its) ++ (List.replicate k its).flatten = acc ++ (List.replicate (k + 1) its).flatten := by
      rw [List.replicate_succ, List.flatten_cons, List.append_assoc]
    rw [← e2, ← foldl_rep its k (acc ++ its), ← e, List.replicate_succ, List.foldl_cons]

section
variable {X : Cx} {pins : List (Addr × Obj)} {σ : St} {H : Hp} {s : Shared} {l b : Addr} {xs ys zs : List V}

theorem Inv.lset {its its' : List Value} {n : Nat} {f : Array Value → Array Value} {t' : Nat} (I : Inv X pins σ H s) (hH : H l = some (.lst xs))
    (e : s.heap.get? l = some { cls := .type "list", data := .seq its.toArray n }) (hf : f its.toArray = its'.toArray) (hv : Vals ys its') (hz : ys.length ≤ sizeLine) :
    Inv X pins σ (upd H l (.lst ys)) { s with heap := s.heap.update l (Obj.mapSeq f), toks := t' } := by
  have q := PySem.IsL.update e f
  rw [hf] at q
  refine I.write (x := l) (e := l) (by rw [hH]; exact trivial) (.inl rfl) (fun b' u hb hu => (Heap.get?_update_other s.heap (Obj.mapSeq f) (Ne.symm hb)).trans hu) ⟨_, q⟩ ?_
  exact ⟨hz, its', _, hv, q⟩
theorem Inv.lnew {its : List Value} {t' : Nat} (I : Inv X pins σ H s) (hv : Vals ys its) (hz : ys.length ≤ sizeLine) :
    Inv X pins σ (upd H s.heap.objs.size (.lst ys)) { s with heap := s.heap.push { cls := .type "list", data := .seq its.toArray }, toks := t' } :=
  I.laid (fun _ _ q => Heap.get?_push_of_some _ q) (Nat.le_refl _) ⟨hz, its, 0, hv, Heap.get?_push_size _ rfl⟩
theorem Inv.fresh (I : Inv X pins σ H s) : H s.heap.objs.size = none := I.hok.fresh (Nat.le_refl _)
theorem Inv.lstM (I : Inv X pins σ H s) (hH : H l = some (.lst xs)) : xs.length ≤ sizeLine ∧ ∃ (its : List Value) (n : Nat), Vals xs its ∧ xs.length = its.length ∧ s.heap.get? l = some { cls := .type "list", data := .seq its.toArray n } := by
  obtain ⟨z, its, n, r, e⟩ := I.hok l _ hH
  exact ⟨z, its, n, r, r.length, e⟩

theorem notLongL {n : Nat} (h : n ≤ sizeLine) : Builtin.List.listTooLong n = false := by
  unfold Builtin.List.listTooLong
  exact decide_eq_false (by omega)
end

section
variable {X : Cx}

def rAppend : V → List V → Hp → VK → Prop := fun x vs H Q => ∃ l xs y, x = .ref l ∧ vs = [y] ∧ H l = some (.lst xs) ∧ xs.length < sizeLine ∧ Q .non (upd H l (.lst (xs ++ [y])))
theorem mt_append : MtM X "list.append" rAppend := by
  intro pins s σ H x vs v us Q I rx rv h
  obtain ⟨l, xs, y, rfl, rfl, hH, hz, q⟩ := h
  cases rx
  obtain ⟨u, rfl, ru⟩ := rv.one
  obtain ⟨z, its, n, r, hl, e⟩ := I.lstM hH
  refine call_meets F.slot_list_append ⟨_, e, rfl⟩ F.entry_list_append (F.args_list_append_2 _ _) (PySem.list_append l its.toArray n u (by rw [List.size_toArray]; omega)) ⟨e, ?_⟩
  refine ⟨.non, _, I.lset (its' := its ++ [u]) hH e (by simp) (r.append (.cons ru .nil)) ?_, rfl, q⟩
  rw [List.length_append, List.length_singleton]
  omega

def rPopAt : V → List V → Hp → VK → Prop := fun x vs H Q => ∃ l xs i k y, x = .ref l ∧ vs = [.int i] ∧ H l = some (.lst xs) ∧ -(2 ^ 63) ≤ i ∧ i < 2 ^ 63 ∧ seqIndex? i xs.length = some k ∧ xs[k]? = some y ∧ Q y (upd H l (.lst (xs.eraseIdx k)))
theorem mt_popAt : MtM X "list.pop" rPopAt := by
  intro pins s σ H x vs v us Q I rx rv h
  obtain ⟨l, xs, i, k, y, rfl, rfl, hH, h1, h2, hk, hy, q⟩ := h
  cases rx
  obtain ⟨u, rfl, ru⟩ := rv.one
  obtain ⟨t, rfl⟩ := ru
  obtain ⟨z, its, n, r, hl, e⟩ := I.lstM hH
  obtain ⟨w, hw, rw'⟩ := r.get hy
  refine call_meets F.slot_list_pop ⟨_, e, rfl⟩ F.entry_list_pop (F.args_list_pop_2 _ _)
    (MeetsSeq.list_pop_at l its.toArray n i t k w (fitsIndex_both h1 h2) (by rw [List.size_toArray, ← hl]; exact hk) (by rw [← Array.getElem?_toList]; exact hw) (by rw [List.size_toArray]; omega)) ⟨e, ?_⟩
  refine ⟨y, _, I.lset (its' := its.eraseIdx k) hH e ?_ (r.eraseIdx k) ?_, rw', q⟩
  · show its.toArray.eraseIdxIfInBounds k = (its.eraseIdx k).toArray
    rw [List.eraseIdxIfInBounds_toArray]
  · have := len_erase xs k
    omega

def rCat : R2 := fun x y H Q => ∃ l b xs zs, x = .ref l ∧ y = .ref b ∧ H l = some (.lst xs) ∧ H b = some (.lst zs) ∧ xs.length + zs.length ≤ sizeLine ∧ ∀ p, H p = none → Q (.ref p) (upd H p (.lst (xs ++ zs)))
theorem op_cat : OpR X (binaryOp .Add) rCat := by
  intro pins s σ H x y v u Q I rx ry h
  obtain ⟨l, b, xs, zs, rfl, rfl, hH, hB, hz, q⟩ := h
  cases rx
  cases ry
  obtain ⟨z, its, n, r, hl, e⟩ := I.lstM hH
  obtain ⟨z2, its2, n2, r2, hl2, e2⟩ := I.lstM hB
  refine PySem.P.add_list e e2 ?_ (by rw [List.size_toArray, List.size_toArray]; omega)
  have ea : its.toArray ++ its2.toArray = (its ++ its2).toArray := by simp
  rw [ea]
  exact ⟨.ref _, _, I.lnew (t' := s.toks) (r.append r2) (by rw [List.length_append]; omega), rfl, q _ I.fresh⟩
def rRep : R2 := fun x y H Q => ∃ l k xs, x = .ref l ∧ y = .int k ∧ H l = some (.lst xs) ∧ -(2 ^ 63) ≤ k ∧ k < 2 ^ 63 ∧ xs.length * k.toNat ≤ sizeLine ∧
  ∀ p, H p = none → Q (.ref p) (upd H p (.lst (List.replicate k.toNat xs).flatten))
theorem len_rep {α : Type} (xs : List α) (k : Nat) : (List.replicate k xs).flatten.length = k * xs.length := by
  induction k with
  | zero => simp
  | succ k ih => rw [List.replicate_succ, List.flatten_cons, List.length_append, ih, Nat.succ_mul, Nat.add_comm]
theorem op_rep : OpR X (binaryOp .Mult) rRep := by
  intro pins s σ H x y v u Q I rx ry h
  obtain ⟨l, k, xs, rfl, rfl, hH, h1, h2, hz, q⟩ := h
  cases rx
  obtain ⟨t, rfl⟩ := ry
  obtain ⟨z, its, n, r, hl, e⟩ := I.lstM hH
  have hlen : its.toArray.size * k.toNat ≤ sizeLine := by rw [List.size_toArray, ← hl]; exact hz
  have hcap : ¬ its.toArray.size * k.toNat > (2 ^ 63 - 1) / 8 := by
    have : (sizeLine : Nat) ≤ (2 ^ 63 - 1) / 8 := by decide
    omega
  have hfit : ¬ (!Builtin.List.listFitsIndex k) = true := by
    rw [fitsIndex_both h1 h2]
    exact Bool.false_ne_true
  have hlong : ¬ Builtin.List.listTooLong (its.toArray.size * k.toNat) = true := by
    rw [notLongL hlen]
    exact Bool.false_ne_true
  have hnew : List.foldl (fun x1 x2 => x1 ++ x2) #[] (List.replicate (if its.toArray.isEmpty = true then 0 else k.toNat) its.toArray) = (List.replicate k.toNat its).flatten.toArray := by
    have f0 : ∀ m : Nat, List.foldl (fun x1 x2 => x1 ++ x2) #[] (List.replicate m its.toArray) = (List.replicate m its).flatten.toArray := fun m => by
      have := foldl_rep its m []
      rw [List.nil_append] at this
      exact this
    rw [f0]
    cases its with
    | nil => simp
    | cons a r' => rw [if_neg (by simp)]
  refine wpAny_binaryOp_repeat_ref (T := "list") (U := "int") (by decide) ⟨_, e, rfl⟩ (fun s' => typeIs_int s' k t) noFill_list_mul F.fills_int_mul F.slot_int_rmul repeat_list F.slot_int_index.lookup
    (call_meets F.slot_int_rmul (typeIs_int s k t) F.entry_int_rmul (F.args_int_rmul_2 _ _) (int___rmul___int_list k t l its.toArray n)
      ⟨e, rfl, ⟨_, e, rfl⟩, call_meets F.slot_list_mul ⟨_, e, rfl⟩ F.entry_list_mul (F.args_list_mul_2 _ _) (AutoListH.list___mul___list_int_3 l its.toArray n k t hfit hcap hlong) ⟨e, ?_⟩⟩)
  rw [hnew]
  exact ⟨.ref _, _, I.lnew (t' := s.toks) (r.rep k.toNat) (by rw [len_rep, Nat.mul_comm]; exact hz), rfl, q _ I.fresh⟩

end

section
variable {prog : Program} {w : World} {A : Around} {E : Value → Shared → Prop} {s : Shared}
end

section
variable {X : Cx}
end
end L2

namespace L2
open PySem PySem.Spec PyProof.Rows

section
variable {κ : Type} [DecidableEq κ]
def valV (kvs : List (κ × V)) (k : κ) : Option V := (kvs.find? fun kv => decide (kv.1 = k)).map (·.2)
def putK (kvs : List (κ × V)) (k : κ) (v : V) : List (κ × V) :=
  if (kvs.any fun kv => decide (kv.1 = k)) = true then kvs.map (fun kv => if kv.1 = k then (kv.1, v) else kv) else kvs ++ [(k, v)]
theorem valV_nil {k : κ} : valV ([] : List (κ × V)) k = none := rfl
theorem valV_pos {p : κ × V} {r : List (κ × V)} {k : κ} (e : p.1 = k) : valV (p :: r) k = some p.2 := by simp [valV, List.find?_cons, e]
theorem valV_neg {p : κ × V} {r : List (κ × V)} {k : κ} (e : ¬ p.1 = k) : valV (p :: r) k = valV r k := by simp [valV, List.find?_cons, e]
theorem valV_any (k : κ) : ∀ kvs : List (κ × V), (kvs.any fun kv => decide (kv.1 = k)) = (valV kvs k).isSome
  | [] => rfl
  | p :: r => by
    rw [List.any_cons]
    by_cases e : p.1 = k
    · simp only [valV_pos e, decide_eq_true e, Bool.true_or, Option.isSome_some]
    · rw [valV_neg e, decide_eq_false e, Bool.false_or]; exact valV_any k r
theorem length_putK (kvs : List (κ × V)) (k : κ) (v : V) : (putK kvs k v).length ≤ kvs.length + 1 := by
  unfold putK
  split
  · rw [List.length_map]; omega
  · rw [List.length_append, List.length_cons, List.length_nil]; omega
theorem putK_new {kvs : List (κ × V)} {k : κ} (v : V) (h : valV kvs k = none) : putK kvs k v = kvs ++ [(k, v)] := by
  unfold putK
  rw [valV_any, h]
  exact if_neg (by decide)

theorem RelO.isSome_eq {o : Option V} {u : Option Value} (r : RelO o u) : o.isSome = u.isSome := by
  cases o with
  | none => cases u with
    | none => rfl
    | some _ => exact (show False from r).elim
  | some _ => cases u with
    | none => exact (show False from r).elim
    | some _ => rfl
theorem RelO.getD {o : Option V} {u : Option Value} {d : V} {d' : Value} (r : RelO o u) (rd : RelV d d') : RelV (o.getD d) (u.getD d') := by
  cases o with
  | none => cases u with
    | none => exact rd
    | some _ => exact (show False from r).elim
  | some _ => cases u with
    | none => exact (show False from r).elim
    | some _ => exact r

theorem KV.val {kvs : List (κ × V)} {vs : List (κ × Value)} (r : KV kvs vs) (k : κ) : RelO (valV kvs k) (valueAt vs k) := by
  unfold KV at r
  induction r with
  | nil => exact True.intro
  | @cons p q ps qs h t ih =>
    obtain ⟨h1, h2⟩ := h
    by_cases e : p.1 = k
    · have e' : q.1 = k := h1.symm.trans e
      have b : valueAt (q :: qs) k = some q.2 := by simp [valueAt, List.find?_cons, e']
      rw [valV_pos e, b]; exact h2
    · have e' : ¬ q.1 = k := fun z => e (h1.trans z)
      have b : valueAt (q :: qs) k = valueAt qs k := by simp [valueAt, List.find?_cons, e']
      rw [valV_neg e, b]; exact ih
theorem KV.any {kvs : List (κ × V)} {vs : List (κ × Value)} (r : KV kvs vs) (k : κ) : (kvs.any fun kv => decide (kv.1 = k)) = vs.any fun kv => decide (kv.1 = k) := by
  unfold KV at r
  induction r with
  | nil => rfl
  | cons h t ih => rw [List.any_cons, List.any_cons, ih, h.1]
theorem KV.repl {kvs : List (κ × V)} {vs : List (κ × Value)} (r : KV kvs vs) (k : κ) {y : V} {u : Value} (ry : RelV y u) :
    KV (kvs.map fun kv => if kv.1 = k then (kv.1, y) else kv) (vs.map fun kv => if kv.1 = k then (kv.1, u) else kv) := by
  unfold KV at r ⊢
  induction r with
  | nil => exact .nil
  | @cons p q ps qs h t ih =>
    rw [List.map_cons, List.map_cons]
    refine .cons ?_ ih
    obtain ⟨h1, h2⟩ := h
    by_cases e : p.1 = k
    · rw [if_pos e, if_pos (h1.symm.trans e)]; exact ⟨h1, ry⟩
    · rw [if_neg e, if_neg (fun z => e (h1.trans z))]; exact ⟨h1, h2⟩
theorem KV.put {kvs : List (κ × V)} {vs : List (κ × Value)} (r : KV kvs vs) (k : κ) {y : V} {u : Value} (ry : RelV y u) : KV (putK kvs k y) (stored vs k u) := by
  unfold putK stored
  rw [r.any k]
  by_cases e : (vs.any fun kv => decide (kv.1 = k)) = true
  · rw [if_pos e, if_pos e]; exact r.repl k ry
  · rw [if_neg e, if_neg e]; exact Paired.snoc r ⟨rfl, ry⟩
theorem KV.length {kvs : List (κ × V)} {vs : List (κ × Value)} (r : KV kvs vs) : kvs.length = vs.length := Paired.length r
end


theorem kV_is {P : Program} {w : World} {k : Key} {u : Value} (r : RelV (kV k) u) : (mixKind P w).is k u = true := by
  cases k with
  | inl i => obtain ⟨t, e⟩ := (show ∃ t, u = Value.int i t from r); subst e; exact mixKind_int P w i t
  | inr x => obtain ⟨t, e⟩ := (show ∃ t, u = Value.str x t from r); subst e; exact mixKind_str P w x t
theorem items_are {P : Program} {w : World} : ∀ {ks : List Key} {us : List Value}, Vals (ks.map kV) us → ItemsAre (mixKind P w) ks us
  | [], _, r => by rw [List.map_nil] at r; cases r; exact .nil
  | k :: ks, _, r => by
    rw [List.map_cons] at r
    cases r with
    | cons h t => exact .cons (kV_is h) (items_are t)

abbrev KT (H : Hp) : List (List Key × V) → List (List Key × Addr × Value) → Prop := Paired fun p q => p.1 = q.1 ∧ H q.2.1 = some (.tup (p.1.map kV)) ∧ RelV p.2 q.2.2
theorem KT.val {H : Hp} {kvs : List (List Key × V)} {xs : List (List Key × Addr × Value)} (r : KT H kvs xs) (k : List Key) : RelO (valV kvs k) ((atKey xs k).map (·.2)) := by
  induction r with
  | nil => exact True.intro
  | @cons p q ps qs h t ih =>
    obtain ⟨h1, _, h2⟩ := h
    by_cases e : p.1 = k
    · have e' : q.1 = k := h1.symm.trans e
      have b : atKey (q :: qs) k = some q.2 := by simp [atKey, List.find?_cons, e']
      rw [valV_pos e, b]; exact h2
    · have e' : ¬ q.1 = k := fun z => e (h1.trans z)
      have b : atKey (q :: qs) k = atKey qs k := by simp [atKey, List.find?_cons, e']
      rw [valV_neg e, b]; exact ih
theorem KT.repl {H : Hp} {kvs : List (List Key × V)} {xs : List (List Key × Addr × Value)} (r : KT H kvs xs) (k : List Key) {y : V} {u : Value} (ry : RelV y u) :
    KT H (kvs.map fun kv => if kv.1 = k then (kv.1, y) else kv) (xs.map (putAt k u)) := by
  induction r with
  | nil => exact .nil
  | @cons p q ps qs h t ih =>
    rw [List.map_cons, List.map_cons]
    refine .cons ?_ ih
    obtain ⟨h1, h2, h3⟩ := h
    unfold putAt
    by_cases e : p.1 = k
    · rw [if_pos e, if_pos (h1.symm.trans e)]; exact ⟨h1, h2, ry⟩
    · rw [if_neg e, if_neg (fun z => e (h1.trans z))]; exact ⟨h1, h2, h3⟩
theorem KT.put {H : Hp} {kvs : List (List Key × V)} {xs : List (List Key × Addr × Value)} (r : KT H kvs xs) (k : List Key) {b : Addr} {y : V} {u : Value} (hb : H b = some (.tup (k.map kV))) (ry : RelV y u) :
    KT H (putK kvs k y) (storedH xs k b u) := by
  have e : (kvs.any fun kv => decide (kv.1 = k)) = (atKey xs k).isSome := by
    rw [valV_any, (r.val k).isSome_eq, Option.isSome_map]
  unfold putK storedH
  rw [e]
  by_cases q : (atKey xs k).isSome = true
  · rw [if_pos q, if_pos q]; exact r.repl k ry
  · rw [if_neg q, if_neg q]; exact Paired.snoc r ⟨rfl, hb, ry⟩
theorem KT.keeps {H H' : Hp} {kvs : List (List Key × V)} {xs : List (List Key × Addr × Value)} (r : KT H kvs xs) (ht : ∀ b ys, H b = some (.tup ys) → H' b = some (.tup ys)) : KT H' kvs xs :=
  Paired.mapP r fun _ _ z => ⟨z.1, ht _ _ z.2.1, z.2.2⟩

section
variable {P : Program} {w : World} {H : Hp} {h : Heap} {a : Addr}
theorem rd_of {u : HO} (ok : HOk P w H h) (e : Rd H a u) : ObjOk P w H h a u := e.ok ok
theorem dk_rd {kvs : List (Key × V)} (ok : HOk P w H h) (e : Rd H a (.dK kvs)) : kvs.length ≤ sizeLine ∧ (a == sysModules) = false ∧ ∃ vs, KV kvs vs ∧ h.DictOf (mixKind P w) a vs :=
  show ObjOk P w H h a (.dK kvs) from rd_of ok e
theorem dk_of {kvs : List (Key × V)} (ok : HOk P w H h) (e : H a = some (.dK kvs)) : kvs.length ≤ sizeLine ∧ (a == sysModules) = false ∧ ∃ vs, KV kvs vs ∧ h.DictOf (mixKind P w) a vs := dk_rd ok (.inl e)
theorem key_of {ks : List Key} (ok : HOk P w H h) (e : H a = some (.tup (ks.map kV))) : (tupleKind (mixKind P w)).is h ks a := by
  obtain ⟨_, its, r, o, h1, h2, n, h3⟩ := (show ObjOk P w H h a (.tup (ks.map kV)) from ok a _ e)
  exact ⟨o, its.toArray, n, h1, h2, h3, by simpa using items_are r⟩
theorem dt_rd {kvs : List (List Key × V)} (ok : HOk P w H h) (e : Rd H a (.dT kvs)) : kvs.length ≤ sizeLine ∧ (a == sysModules) = false ∧
    ∃ xs, KT H kvs xs ∧ h.DictOfH (tupleKind (mixKind P w)) a xs := by
  obtain ⟨z, y, xs, r, o, es, ep, h1, h2, h3, h4, h5⟩ := (show ObjOk P w H h a (.dT kvs) from rd_of ok e)
  refine ⟨z, y, xs, r, o, es, ep, h1, h2, h3, h4, fun x hx => ?_, h5⟩
  have all : ∀ {l : List (List Key × V)} {m : List (List Key × Addr × Value)}, KT H l m → ∀ x ∈ m, (tupleKind (mixKind P w)).is h x.1 x.2.1 := by
    intro l m q
    induction q with
    | nil => intro x hx; exact nomatch hx
    | @cons p q ps qs hq t ih =>
      intro x hx
      rcases List.mem_cons.mp hx with e | hx
      · subst e
        exact key_of ok (by rw [← hq.1]; exact hq.2.1)
      · exact ih x hx
  exact all r x hx
theorem dt_of {kvs : List (List Key × V)} (ok : HOk P w H h) (e : H a = some (.dT kvs)) : kvs.length ≤ sizeLine ∧ (a == sysModules) = false ∧
    ∃ xs, KT H kvs xs ∧ h.DictOfH (tupleKind (mixKind P w)) a xs := dt_rd ok (.inl e)
end

def DGet (H : Hp) (a : Addr) (y : V) (r : Option V) : Prop :=
  (∃ kvs k, Rd H a (.dK kvs) ∧ y = kV k ∧ r = valV kvs k) ∨ ∃ kvs k b, Rd H a (.dT kvs) ∧ y = .ref b ∧ H b = some (.tup (k.map kV)) ∧ r = valV kvs k
def DPut (H : Hp) (a : Addr) (y v : V) (H' : Hp) : Prop :=
  (∃ kvs k, H a = some (.dK kvs) ∧ y = kV k ∧ kvs.length < sizeLine ∧ H' = upd H a (.dK (putK kvs k v))) ∨
  ∃ kvs k b, H a = some (.dT kvs) ∧ y = .ref b ∧ H b = some (.tup (k.map kV)) ∧ kvs.length < sizeLine ∧ H' = upd H a (.dT (putK kvs k v))
theorem DGet.k {H : Hp} {a : Addr} {kvs : List (Key × V)} {k : Key} (e : H a = some (.dK kvs)) : DGet H a (kV k) (valV kvs k) := .inl ⟨kvs, k, .inl e, rfl, rfl⟩
theorem DPut.k {H : Hp} {a : Addr} {kvs : List (Key × V)} {k : Key} {v : V} (e : H a = some (.dK kvs)) (hl : kvs.length < sizeLine) : DPut H a (kV k) v (upd H a (.dK (putK kvs k v))) := .inl ⟨kvs, k, e, rfl, hl, rfl⟩
section
variable {X : Cx} {pins : List (Addr × Obj)} {σ : St} {H : Hp} {s : Shared} {a : Addr} {y v : V} {u r : Value} {o : Option V} {A : Around} {E : Value → Shared → Prop}

theorem Inv.big (I : Inv X pins σ H s) : sysModules < s.heap.objs.size := by
  have h : mainGlobals < s.heap.objs.size := (I.mod.glob.keeps I.bk).lt
  exact Nat.lt_trans (by decide) h

theorem d_getItem {Q : Value → Shared → Prop} (hu : A.units + 1 < cLine) (I : Inv X pins σ H s) (g : DGet H a y (some v)) (ry : RelV y u) (h : ∀ w' s', Inv X pins σ H s' → RelV v w' → Q w' s') :
    wpAny (model X.prog X.w) A (getItem (.ref a) u) Q E s := by
  rcases g with ⟨kvs, k, e, ey, l⟩ | ⟨kvs, k, b, e, ey, eb, l⟩
  · subst ey
    obtain ⟨z, hd, vs, rel, dd⟩ := dk_rd I.hok e
    obtain ⟨w', hw, rw'⟩ := RelO.some_of (v := v) (o := valueAt vs k) (by rw [l]; exact rel.val k)
    exact wpAny_getItem_of (kV_is ry) dd.mapOf hw (h w' _ (I.tok _) rw')
  · subst ey
    cases (show u = Value.ref b from ry)
    obtain ⟨z, hd, xs, rel, dd⟩ := dt_rd I.hok e
    obtain ⟨w', hw, rw'⟩ := RelO.some_of (v := v) (o := (atKey xs k).map (·.2)) (by rw [l]; exact rel.val k)
    obtain ⟨p, hp, hp2⟩ := Option.map_eq_some_iff.mp hw
    refine wpAny_getItem_heap (tupleKind_room_in1 hu) (key_of I.hok eb) dd hp ?_
    rw [hp2]
    exact h w' _ (I.tok _) rw'
theorem d_notIn {Q : Value → Shared → Prop} (hu : A.units + 1 < cLine) (I : Inv X pins σ H s) (g : DGet H a y o) (ry : RelV y u) (h : ∀ s', Inv X pins σ H s' → Q (.bool (!o.isSome)) s') :
    wpAny (model X.prog X.w) A (compareOp .NotIn u (.ref a)) Q E s := by
  rcases g with ⟨kvs, k, e, ey, l⟩ | ⟨kvs, k, b, e, ey, eb, l⟩
  · subst ey
    obtain ⟨z, hd, vs, rel, dd⟩ := dk_rd I.hok e
    refine wpAny_notIn_of (kV_is ry) hd dd.mapOf ?_
    rw [← (rel.val k).isSome_eq, ← l]
    exact h _ (I.tok _)
  · subst ey
    cases (show u = Value.ref b from ry)
    obtain ⟨z, hd, xs, rel, dd⟩ := dt_rd I.hok e
    refine wpAny_notIn_heap (tupleKind_room_in1 hu) (key_of I.hok eb) hd dd ?_
    have q := (rel.val k).isSome_eq
    rw [Option.isSome_map] at q
    rw [← q, ← l]
    exact h _ (I.tok _)
theorem d_write {h' : Heap} {t' : Nat} {ob : HO} (I : Inv X pins σ H s) (mu : Mut (H a)) (hs : Heap.SameBut a s.heap h') (he : ∃ q, h'.get? a = some q) (new : ObjOk X.prog X.w (upd H a ob) h' a ob) :
    Inv X pins σ (upd H a ob) { s with heap := h', toks := t' } :=
  I.write (x := a) (e := a) mu (.inl rfl) (fun b q hb z => (hs.2 b hb).trans z) he new
theorem dk_new {P : Program} {w : World} {H' : Hp} {h' : Heap} {kvs : List (Key × V)} {vs : List (Key × Value)} (z : kvs.length ≤ sizeLine) (hd : (a == sysModules) = false) (rel : KV kvs vs) (dd : h'.DictOf (mixKind P w) a vs) :
    ObjOk P w H' h' a (.dK kvs) := ⟨z, hd, vs, rel, dd⟩
theorem d_setItem {H' : Hp} {Q : Unit → Shared → Prop} (hu : A.units + 1 < cLine) (I : Inv X pins σ H s) (g : DPut H a y v H') (ry : RelV y u) (rv : RelV v r) (h : ∀ s', Inv X pins σ H' s' → Q () s') :
    wpAny (model X.prog X.w) A (setItem (.ref a) u r) Q E s := by
  rcases g with ⟨kvs, k, e, ey, l, eH⟩ | ⟨kvs, k, b, e, ey, eb, l, eH⟩
  · subst ey eH
    obtain ⟨z, hd, vs, rel, dd⟩ := dk_of I.hok e
    have hz : vs.length ≤ sizeLine := by rw [← rel.length]; exact z
    have hl : (putK kvs k v).length ≤ sizeLine := by have := length_putK kvs k v; omega
    refine wpAny_setItem_pairs (hsz := hz) (kV_is ry) dd fun h' dd' hs => h _ ?_
    have he : ∃ q, h'.get? a = some q := let ⟨q, _, _, hq, _⟩ := dd'; ⟨q, hq⟩
    exact d_write I (by rw [e]; exact True.intro) hs he (dk_new hl hd (rel.put k rv) dd')
  · subst ey eH
    cases (show u = Value.ref b from ry)
    obtain ⟨z, hd, xs, rel, dd⟩ := dt_of I.hok e
    have hz : xs.length ≤ sizeLine := by rw [← Paired.length rel]; exact z
    have hl : (putK kvs k v).length ≤ sizeLine := by have := length_putK kvs k v; omega
    refine wpAny_setItem_heap (hsz := hz) (tupleKind_room_in1 hu) (key_of I.hok eb) dd fun h' dd' hs => h _ ?_
    obtain ⟨q, es, ep, hq, h2, h3, h4, _, h5⟩ := dd'
    refine d_write I (by rw [e]; exact True.intro) hs ⟨q, hq⟩ ⟨hl, hd, _, (rel.put k eb rv).keeps fun c ys ec => ?_, q, es, ep, hq, h2, h3, h4, h5⟩
    rw [upd_ne (ne_of ec e (fun z => nomatch z))]
    exact ec
end

section
variable {X : Cx} {pins : List (Addr × Obj)} {σ : St} {H : Hp} {s : Shared} {a : Addr} {kvs : List (Key × V)} {k : Key} {u : Value} {A : Around} {E : Value → Shared → Prop}
end


def NoSl (i : Expr) : Prop := ∀ ov iv, subscripted i false ov iv = operate [ov, iv] (getItem ov iv)
theorem subD_of {prog : Program} {w : World} {A : Around} {E : Value → Shared → Prop} {s : Shared} {env : Env} {value slice : Expr} {pos : Pos} {T id : String} {Q : Value → Shared → Prop}
    (hl : typeLookup (.type T) "__getitem__" = pure (some (.builtin id))) (hs : NoSl slice)
    (h : wpAny (model prog w) A (eval value env) (fun o s₁ => wpAny (model prog w) A (eval slice env) (fun i s₂ => s₂.TypeIs o T ∧ wpAny (model prog w) A (getItem o i) Q E s₂) E s₁) E s) :
    wpAny (model prog w) A (eval (.Subscript value slice pos) env) Q E s := by
  refine Subscript_ (wpAny_mono h (fun o s₁ h₁ => wpAny_mono h₁ (fun i s₂ h₂ => ?_) fun _ _ x => x) fun _ _ x => x)
  obtain ⟨hT, h₂⟩ := h₂
  unfold subscriptTail
  refine wpAny_bind ?_
  rw [getitemInPython_of_ne hT.not_modules]
  refine wpAny_bind (wpAny_specialOf hT hl ?_)
  have fin : wpAny (model prog w) A (subscripted slice false o i) (fun r s₃ => wpAny (model prog w) A (letTemporaryGo value o r >>= fun _ => pure r) Q E s₃) E s₂ := by
    rw [hs o i]
    exact wpAny_operating (wpAny_mono h₂ (fun r s₃ h₃ => wpAny_bind (wpAny_letTemporaryGo (wpAny_pure h₃))) fun _ _ x => x)
  first
    | exact wpAny_pure (wpAny_bind fin)
    | exact wpAny_bind (wpAny_pure (wpAny_bind fin))
    | exact wpAny_bind fin

theorem dict_typeIs {X : Cx} {pins : List (Addr × Obj)} {σ : St} {H : Hp} {s : Shared} {a : Addr} {y : V} {o : Option V} (I : Inv X pins σ H s) (g : DGet H a y o) : s.TypeIs (.ref a) "dict" := by
  rcases g with ⟨kvs, k, e, _, _⟩ | ⟨kvs, k, b, e, _, _, _⟩
  · obtain ⟨_, _, vs, _, dd⟩ := dk_rd I.hok e
    exact dd.typeIs
  · obtain ⟨_, _, xs, _, dd⟩ := dt_rd I.hok e
    exact dd.typeIs
def tDGet (td ty : TE) : TE := fun σ H Q => td σ H fun x H1 => ty σ H1 fun y H2 => ∃ a v, x = .ref a ∧ DGet H2 a y (some v) ∧ Q v H2
def tDNotIn (ty td : TE) : TE := fun σ H Q => ty σ H fun y H1 => td σ H1 fun x H2 => ∃ a o, x = .ref a ∧ DGet H2 a y o ∧ Q (.bl (!o.isSome)) H2
def sDPut (td ty tv : TE) : TS := fun D σ H => tv σ H fun v H1 => td σ H1 fun x H2 => ty σ H2 fun y H3 => ∃ a H4, x = .ref a ∧ DPut H3 a y v H4 ∧ D.nx σ H4
section
variable {X : Cx} {o i e value : Expr} {pos pos' tpos : Pos} {td ty tv : TE}
theorem pe_dget (hu : X.A.units + 1 < cLine) (ho : PE X o td) (hi : PE X i ty) (hs : NoSl i) : PE X (.Subscript o i pos) (tDGet td ty) := by
  intro pins s σ H Q I h
  refine subD_of PySem.F.slot_dict_getitem.lookup hs (thn (ho pins s σ H _ I h) fun u s1 ⟨x, H1, I1, rx, q1⟩ => thn (hi pins s1 σ H1 _ I1 q1) fun iv s2 ⟨y, H2, I2, ry, a, v, ex, g, q2⟩ => ?_)
  subst ex
  obtain rfl : u = Value.ref a := rx
  exact ⟨dict_typeIs I2 g, d_getItem hu I2 g ry fun w' s3 I3 rw' => ⟨v, H2, I3, rw', q2⟩⟩
theorem pc_dnotin (hu : X.A.units + 1 < cLine) (hi : PE X i ty) (ho : PE X o td) : PC X .NotIn i o (tDNotIn ty td) := by
  intro pins s σ H Q I h
  refine thn (hi pins s σ H _ I h) fun iv s1 ⟨y, H1, I1, ry, q1⟩ => thn (ho pins s1 σ H1 _ I1 q1) fun u s2 ⟨x, H2, I2, rx, a, ov, ex, g, q2⟩ => ?_
  subst ex
  obtain rfl : u = Value.ref a := rx
  exact d_notIn hu I2 g ry fun s3 I3 => ⟨.bl (!ov.isSome), H2, I3, rfl, q2⟩
theorem ps_dput (hu : X.A.units + 1 < cLine) (ho : PE X o td) (hi : PE X i ty) (hv : PE X value tv) (hs : swapsWith value (some (.Subscript o i pos')) pos.line X.env = pure false) :
    PS X (.Assign [.Subscript o i pos'] value pos) (sDPut td ty tv) := by
  intro pins s σ H D I h
  refine wpAny_Assign_Subscript (thn (hv pins s σ H _ I h) fun r s1 ⟨v, H1, I1, rv, q1⟩ => thn (ho pins s1 σ H1 _ I1 q1) fun u s2 ⟨x, H2, I2, rx, q2⟩ => thn (hi pins s2 σ H2 _ I2 q2) fun iv s3 ⟨y, H3, I3, ry, a, H4, ex, g, q3⟩ => ?_) hs
  subst ex
  obtain rfl : u = Value.ref a := rx
  exact d_setItem hu I3 g ry rv fun s4 I4 => ⟨σ, H4, I4, q3⟩
end


theorem dk_empty {P : Program} {w : World} {H : Hp} (h : Heap) (hb : sysModules < h.objs.size) : ObjOk P w H (h.push { cls := .type "dict", data := .dict #[] }) h.objs.size (.dK []) :=
  ⟨Nat.zero_le _, beq_eq_false_iff_ne.mpr (Ne.symm (Nat.ne_of_lt hb)), [], .nil, Heap.DictOf.new h⟩
section
variable {X : Cx} {pos : Pos}
end

def tPairs : List (TE × TE) → St → Hp → (List (V × V) → Hp → Prop) → Prop
  | [], _, H, Q => Q [] H
  | (tk, tv) :: r, σ, H, Q => tk σ H fun x H1 => tv σ H1 fun y H2 => tPairs r σ H2 fun ps H3 => Q ((x, y) :: ps) H3
abbrev VV : List (V × V) → List (Value × Value) → Prop := Paired fun p q => RelV p.1 q.1 ∧ RelV p.2 q.2
def PPs (X : Cx) (pos : Pos) (keys : List (Option Expr)) (values : List Expr) (trs : List (TE × TE)) : Prop :=
  ∀ (pins : List (Addr × Obj)) (s : Shared) (σ : St) (H : Hp) (Q : List (V × V) → Hp → Prop), Inv X pins σ H s → tPairs trs σ H Q →
    wpAny (model X.prog X.w) X.A (evalPairs (pairTrees keys values X.env pos)) (fun vs s' => ∃ ps H', Inv X pins σ H' s' ∧ VV ps vs ∧ Q ps H') X.xe s
theorem pps_nil {X : Cx} {pos : Pos} : PPs X pos [] [] [] := fun pins s σ H Q I h => pairTrees_nil_walk ⟨[], H, I, .nil, h⟩
theorem pps_cons {X : Cx} {pos : Pos} {k v : Expr} {ks : List (Option Expr)} {vs : List Expr} {tk tv : TE} {trs : List (TE × TE)} (hk : PE X k tk) (hv : PE X v tv) (hr : PPs X pos ks vs trs) :
    PPs X pos (some k :: ks) (v :: vs) ((tk, tv) :: trs) := fun pins s σ H Q I h =>
  pairTrees_cons_walk (thn (hk pins s σ H _ I h) fun u s1 ⟨x, H1, I1, rx, q1⟩ => thn (hv pins s1 σ H1 _ I1 q1) fun w2 s2 ⟨y, H2, I2, ry, q2⟩ =>
    thn (hr pins s2 σ H2 _ I2 q2) fun ws s3 ⟨ps, H3, I3, rel, q3⟩ => ⟨(x, y) :: ps, H3, I3, .cons ⟨rx, ry⟩ rel, q3⟩)

def mergeK (kvs more : List (Key × V)) : List (Key × V) := more.foldl (fun acc kv => putK acc kv.1 kv.2) kvs
theorem KV.merge : ∀ {more : List (Key × V)} {rs : List (Key × Value)} {kvs : List (Key × V)} {vs : List (Key × Value)}, KV more rs → KV kvs vs → KV (mergeK kvs more) (merged vs rs) := by
  intro more rs kvs vs r
  unfold KV at r
  induction r generalizing kvs vs with
  | nil => intro q; exact q
  | @cons p q ps qs h t ih =>
    intro r0
    have e : KV (putK kvs p.1 p.2) (stored vs q.1 q.2) := by
      have := r0.put p.1 h.2
      rw [← h.1]; exact this
    exact ih e
theorem length_mergeK : ∀ (more kvs : List (Key × V)), (mergeK kvs more).length ≤ kvs.length + more.length
  | [], kvs => by show kvs.length ≤ kvs.length + 0; omega
  | p :: r, kvs => by
    have h1 := length_mergeK r (putK kvs p.1 p.2)
    have h2 := length_putK kvs p.1 p.2
    show (mergeK (putK kvs p.1 p.2) r).length ≤ _
    rw [List.length_cons]; omega
theorem carries_of {P : Program} {w : World} : ∀ {kvs : List (Key × V)} {ws : List (Value × Value)}, VV (kvs.map fun kv => (kV kv.1, kv.2)) ws → ∃ rs, Carries (mixKind P w) ws rs ∧ KV kvs rs
  | [], _, r => by rw [List.map_nil] at r; cases r; exact ⟨[], True.intro, .nil⟩
  | p :: kvs, _, r => by
    rw [List.map_cons] at r
    cases r with
    | @cons a b as bs h t =>
      obtain ⟨rs, c, q⟩ := carries_of (P := P) (w := w) t
      obtain ⟨b1, b2⟩ := b
      exact ⟨(p.1, b2) :: rs, ⟨kV_is h.1, rfl, c⟩, .cons ⟨rfl, h.2⟩ q⟩
def tDisp (trs : List (TE × TE)) : TE := fun σ H Q => ∀ p, H p = none → tPairs trs σ (upd H p (.dK [])) fun ps H2 => H2 p = some (.dK []) ∧ ∃ kvs : List (Key × V), ps = kvs.map (fun kv => (kV kv.1, kv.2)) ∧ kvs.length ≤ 15 ∧ Q (.ref p) (upd H2 p (.dK (mergeK [] kvs)))
theorem pe_disp {X : Cx} {pos : Pos} {keys : List (Option Expr)} {values : List Expr} {trs : List (TE × TE)} (h : PPs X pos keys values trs) (hall : keys.all (·.isSome) = true) (hl : keys.length = values.length) (h0 : keys ≠ [])
    (h15 : keys.length ≤ 15) : PE X (.Dict keys values pos) (tDisp trs) := by
  intro pins s σ H Q I q
  have hn := I.hok.fresh (Nat.le_refl s.heap.objs.size)
  have I1 := I.laid (a := s.heap.objs.size) (o := .dK []) (h' := s.heap.push { cls := .type "dict", data := .dict #[] }) (t' := s.toks) (fun _ _ q => Heap.get?_push_of_some _ q) (Nat.le_refl _) (dk_empty s.heap I.big)
  refine wpAny_Dict_walk (knd := mixKind X.prog X.w) hall hl h0 h15 (thn (h pins _ σ _ _ I1 (q _ hn)) fun ws s2 ⟨ps, H2, I2, rel, e, kvs, ep, lk, q2⟩ => ?_)
  subst ep
  obtain ⟨rs, c, rk⟩ := carries_of (P := X.prog) (w := X.w) rel
  obtain ⟨z, hd, vs0, r0, dd⟩ := dk_of I2.hok e
  cases r0
  refine ⟨rs, c, dd, fun h' dd' hs => ⟨.ref s.heap.objs.size, _, ?_, rfl, q2⟩⟩
  have hz : (mergeK [] kvs).length ≤ sizeLine := by
    have h1 := length_mergeK kvs []
    rw [List.length_nil] at h1
    rw [sizeLine_eq]; omega
  have he : ∃ q, h'.get? s.heap.objs.size = some q := let ⟨q, _, _, hq, _⟩ := dd'; ⟨q, hq⟩
  exact d_write I2 (by rw [e]; exact True.intro) hs he (dk_new hz hd (rk.merge .nil) dd')


structure M2 (X : Cx) (o : Expr) (m : Str) (apos : Pos) (e f : Expr) (cpos : Pos) : Prop where
  base : attributeBase o m X.env (eval o X.env) = eval o X.env
  few : ((backTo cpos (starEach [e, f] X.env)).all (fun x => !x.1) && (backToKw cpos (keywordEach [] X.env)).all (fun x => x.1.isSome)
    && decide (([e, f] : List Expr).length + ([] : List Keyword).length + (if ([] : List Keyword).isEmpty then 0 else 1) < 30)) = true
  line : (apos.endLine == cpos.line) = true
  trees : backTo cpos (starEach [e, f] X.env) = [(false, eval e X.env), (false, eval f X.env)]

def IsD (H : Hp) (a : Addr) : Prop := (∃ kvs, Rd H a (.dK kvs)) ∨ ∃ kvs, Rd H a (.dT kvs)
theorem isD_at {X : Cx} {pins : List (Addr × Obj)} {σ : St} {H : Hp} {s : Shared} {a : Addr} (I : Inv X pins σ H s) (d : IsD H a) :
    s.TypeIs (.ref a) "dict" ∧ (∀ b, Value.ref a = .ref b → ∃ ob, s.heap.get? b = some ob ∧ ob.dict = none) ∧ (a == sysModules) = false := by
  rcases d with ⟨kvs, e⟩ | ⟨kvs, e⟩
  · obtain ⟨_, hd, vs, _, dd⟩ := dk_rd I.hok e
    refine ⟨dd.typeIs, fun b q => ?_, hd⟩
    cases q
    obtain ⟨ob, _, _, h1, h2, _⟩ := dd
    exact ⟨ob, h1, h2.2.1⟩
  · obtain ⟨_, hd, xs, _, dd⟩ := dt_rd I.hok e
    refine ⟨dd.typeIs, fun b q => ?_, hd⟩
    cases q
    obtain ⟨ob, _, _, h1, h2, _⟩ := dd
    exact ⟨ob, h1, h2.2.1⟩

section
variable {X : Cx} {pins : List (Addr × Obj)} {σ : St} {H : Hp} {s : Shared} {a : Addr} {y d : V} {u r : Value} {o : Option V} {A : Around} {E : Value → Shared → Prop}
theorem d_get2 {Q : Value → Shared → Prop} (hu : A.units + 1 < cLine) (I : Inv X pins σ H s) (g : DGet H a y o) (ry : RelV y u) (rd : RelV d r) (h : ∀ w' s', Inv X pins σ H s' → RelV (o.getD d) w' → Q w' s') :
    wpAny (model X.prog X.w) A (call (.builtin "dict.get") [.ref a, u, r]) Q E s := by
  rcases g with ⟨kvs, k, e, ey, l⟩ | ⟨kvs, k, b, e, ey, eb, l⟩
  · subst ey
    obtain ⟨z, hd, vs, rel, dd⟩ := dk_rd I.hok e
    refine call_meetsIn PySem.F.slot_dict_get dd.typeIs PySem.F.entry_dict_get (PySem.F.args_dict_get_3 _ _ _) (meets_dict_get_default (mixKind X.prog X.w) a (kV_is ry) hd r) ⟨_, dd.mapOf, h _ _ (I.tok _) ?_⟩
    rw [l]
    exact (rel.val k).getD rd
  · subst ey
    cases (show u = Value.ref b from ry)
    obtain ⟨z, hd, xs, rel, dd⟩ := dt_rd I.hok e
    refine call_meetsIn PySem.F.slot_dict_get dd.typeIs PySem.F.entry_dict_get (PySem.F.args_dict_get_3 _ _ _) (meetsH_dict_get_default (tupleKind (mixKind X.prog X.w)) a b hd r) ⟨tupleKind_room_in1 hu, k, xs, key_of I.hok eb, dd, h _ _ (I.tok _) ?_⟩
    rw [l]
    exact (rel.val k).getD rd
end

def tDGet2 (td ty tx : TE) : TE := fun σ H Q => td σ H fun x H1 => ∃ a, x = .ref a ∧ IsD H1 a ∧ ty σ H1 fun y H2 => tx σ H2 fun z H3 => ∃ o, DGet H3 a y o ∧ Q (o.getD z) H3
section
variable {X : Cx} {o e f : Expr} {apos cpos : Pos} {td ty tx : TE}
theorem pe_dget2 (hu : X.A.units + 1 < cLine) (ho : PE X o td) (he : PE X e ty) (hf : PE X f tx) (m : M2 X o "get" apos e f cpos) : PE X (.Call (.Attribute o "get" apos) [e, f] [] cpos) (tDGet2 td ty tx) := by
  intro pins s σ H Q I h
  refine wpAny_Call_method m.base m.few m.line PySem.F.plainAttrs_dict PySem.F.slot_dict_get PySem.F.type_dict_get (thn (ho pins s σ H _ I h) fun u s1 ⟨x, H1, I1, rx, a, ex, d, q1⟩ => ?_)
  subst ex
  obtain rfl : u = Value.ref a := rx
  obtain ⟨t1, t2, _⟩ := isD_at I1 d
  refine ⟨t1, t2, ?_⟩
  rw [m.trees]
  refine Calls.callWith_builtin rfl (Calls.evalArgs_plain (Calls.spliced_cons (thn (he pins s1 σ H1 _ I1 q1) fun iv s2 ⟨y, H2, I2, ry, q2⟩ =>
    Calls.spliced_cons (thn (hf pins s2 σ H2 _ I2 q2) fun fv s3 ⟨z, H3, I3, rz, ov, g, q3⟩ => Calls.spliced_nil ?_))))
  exact d_get2 hu I3 g ry rz fun w' s4 I4 rw' => ⟨_, H3, I4, rw', q3⟩
end

section
variable {X : Cx} {pins : List (Addr × Obj)} {σ : St} {H : Hp} {s : Shared} {a : Addr} {kvs : List (Key × V)} {A : Around} {E : Value → Shared → Prop}
end


section
variable {X : Cx} {pins : List (Addr × Obj)} {σ : St} {H : Hp} {s : Shared} {a : Addr} {y : V} {u : Value} {A : Around} {E : Value → Shared → Prop}
end
end L2

namespace Att
open PySem PySem.W PySem.Calls PyProof.Rows

theorem ints_of_wellAll {P : Params} {h : Heap} : ∀ (ns : List Int) (vs : List Value), WellAll P h vs (ns.map WData.int) → IntsAre vs ns := by
  intro ns
  induction ns with
  | nil =>
    intro vs w
    rw [List.map_nil] at w
    cases w
    exact .nil
  | cons n ns ih =>
    intro vs w
    rw [List.map_cons] at w
    cases w with
    | cons a b =>
      cases a
      exact .cons _ _ (ih _ b)

theorem script_of {l : OpenLaw} {n : Nat} (hn : l.most = some n) {P : Params} {h : Heap} {args : List WData} {vals : List Value}
    (hpre : l.row.toRowW.claim.pre args = true) (hwl : WellAll P h vals args) :
    ∃ a vs ns, vals = [Value.ref a] ∧ args = [WData.list (ns.map WData.int)] ∧ h.get? a = some { cls := .type "list", data := .seq vs.toArray } ∧ IntsAre vs ns ∧ ns.length ≤ n := by
  have hsh : WShape.hasAll [] args [.list .int] = true := (pre_splitW hpre).1
  have hc : l.pre.holds [] { args := args } = true := (pre_splitW hpre).2
  obtain ⟨d, r, rfl, h1, h2⟩ := hasAllW_cons hsh
  obtain rfl := hasAllW_nil h2
  obtain ⟨xs, rfl, h3⟩ := hasW_list h1
  obtain ⟨ns, rfl⟩ := items_int h3
  have hlen : ns.length ≤ n := by
    unfold OpenLaw.pre at hc
    have h4 : (WTm.not (.lt (.lit (.int (n : Int))) (.len (.arg 0)))).holds [] { args := [.list (ns.map .int)] } = true := by
      have h4 := (holds_andW hc).1
      rw [hn] at h4
      exact h4
    have h5 := condW_of h4 (w_not (w_lt w_lit (w_len_list (w_arg rfl))))
    rw [List.length_map] at h5
    refine Nat.le_of_not_lt fun q => ?_
    have q' : (n : Int) < ((ns.length : Nat) : Int) := by omega
    first
      | (rw [decide_eq_true q'] at h5; exact absurd h5 (by decide))
      | (simp at h5; omega)
  cases hwl with
  | cons w1 w2 =>
    cases w2
    cases w1 with
    | list ho hall => exact ⟨_, _, ns, rfl, rfl, ho, ints_of_wellAll ns _ hall, hlen⟩

theorem post_true (l : OpenLaw) (args : List WData) : l.row.toRowW.claim.post args (.bool true) args = true :=
  postW_of (r := l.row.toRowW) (X := (true == true))
    (show WShape.has [] (.bool true) .bool = true by first | rfl | decide | simp [WShape.has, WShape.arms, WShape.armsAll])
    (show (WTm.eq .res (.lit (.bool true))).value [] { args := args, res := some (.bool true), after := args } = some (.bool (true == true)) from w_eq_bool (w_res rfl) w_lit) rfl

theorem attach_call {l : OpenLaw} {n : Nat} {q : Program} {loose : List Str} {XP : (Str → Option Value) → Heap → Prop} {YP : World → Heap → Prop} {d : DefRec}
    (hn : l.most = some n) (hdf : d.params.defaults = [])
    (call : ∀ (w : World) (s₀ s₁ : Shared) (mg mb : Str → Option Value) (fa : Addr) (o : Obj) (pm cd doc : Value) (a : Addr) (vs : List Value) (ns : List Int),
      Ground q loose [] XP w s₀ mg mb s₁.heap → YP w s₁.heap →
      s₁.heap.get? fa = some o → o.data = .func (docDef d.name d.params d.body d.scope pm cd doc) → s₁.heap.CodeRec cd d.name → mg d.name = some (.ref fa) →
      s₁.heap.get? a = some { cls := .type "list", data := .seq vs.toArray } → IntsAre vs ns → ns.length ≤ n → s₁.gens = #[] →
      codeAny (model l.prog w) callerA (.call (.ref fa) ⟨[.ref a], []⟩) (fun r s' => r = .ok (.ret (.bool true)) ∧ OldK s₁.heap s'.heap ∧ s'.os = s₁.os ∧ AllBare s'.gens) s₁) :
    WalkO q loose XP YP l.row.toRowW d [] (fun f vs => PySem.call f vs) := by
  intro w s₀ s₁ mg mb G Y fa o pm cd doc dV kV ho hd hcd hD hmg hg args vals as hpre hlay hrd hwl hlo
  obtain rfl : dV = .none := Dflts.none hD hdf
  obtain rfl : kV = .none := Dflts.noKw hD
  obtain ⟨a, vs, ns, rfl, rfl, hobj, hints, hlen⟩ := script_of hn hpre hwl
  refine enter_call (codeAny_mono (call w s₀ s₁ mg mb fa o pm cd doc a vs ns G Y ho (fd_plain hd) hcd hmg hobj hints hlen hg) fun r s' hq => ?_)
  obtain ⟨rfl, h2, h3, h4⟩ := hq
  exact ⟨.inl ⟨.bool true, .bool true, [], rfl, fun _ => rfl, .bool true, post_true l _, fun _ => ⟨List.Pairwise.nil, fun _ hm => (nomatch hm)⟩⟩, h2, h3, h4⟩

section
variable {prog : Program} {w : World} {A : Around} {E : Value → Shared → Prop} {s : Shared} {K : Frag}

end
end Att

namespace L2
open PySem PySem.Spec PyProof.Rows

theorem vals_ints : ∀ {vs : List Value} {ns : List Int}, IntsAre vs ns → Vals (ns.map V.int) vs
  | _, _, .nil => .nil
  | _, _, .cons n t h => .cons ⟨t, rfl⟩ (vals_ints h)

def Only (H : Hp) : Prop := ∀ b, H b = none ∨ ∃ o xs, H b = some (.frz o (.lst xs))

theorem law_call {P : Program} {w : World} {K : PySem.W.Frag} {mg mb : Str → Option Value} {CX : CXT} {k : Nat} {fa a : Addr} {fd : FuncData} {x : Str} {sp : Sp} {s₁ : Shared} {vs : List Value} {ns : List Int}
    (KX : K.In s₁.heap) (hns : s₁.heap.Ns mainGlobals mg) (hb : s₁.heap.Ns builtinsNs mb) (hbb : ∀ x : Str, x ≠ "__name__" → mb x = bootBuiltins x) (hlim : s₁.heap.NoLimit) (hg : s₁.gens = #[])
    (ha : s₁.heap.get? a = some { cls := .type "list", data := .seq vs.toArray }) (hi : IntsAre vs ns) (hl : ns.length ≤ sizeLine) (hr : Room k callerA)
    (F : ∀ base : Heap, K.In base → base.Ns mainGlobals mg → FnOk P w K mg base CX k fa fd [x] sp) (hbind : ∀ (s : Shared) (u : Value), BindsTo s fd ⟨[u], []⟩ [(x, u)])
    (hsp : ∀ H : Hp, Only H → SqL K H a (ns.map V.int) → sp [.ref a] H (fun v _ => v = .bl true) fun _ _ _ => False)
    (hCX : ∀ H e s', CX [] H s₁ (fun _ _ _ => False) e s' → False) :
    codeAny (model P w) callerA (.call (.ref fa) ⟨[.ref a], []⟩) (fun r s' => r = .ok (.ret (.bool true)) ∧ OldK s₁.heap s'.heap ∧ s'.os = s₁.os ∧ AllBare s'.gens) s₁ := by
  have rv := vals_ints hi
  have lenV := hi.length
  -- from an abstract heap in which nothing but the script may be tracked
  have core : ∀ H : Hp, Only H → SqL K H a (ns.map V.int) → HOk P w H s₁.heap → (∀ b, H b ≠ none → b = a) → (H a ≠ none → K.lookup a = none) →
      codeAny (model P w) callerA (.call (.ref fa) ⟨[.ref a], []⟩) (fun r s' => r = .ok (.ret (.bool true)) ∧ OldK s₁.heap s'.heap ∧ s'.os = s₁.os ∧ AllBare s'.gens) s₁ := by
    intro H hO hS hok hA hK
    have base_of : ∀ {b : Addr} {o : Obj}, s₁.heap.get? b = some o → H b = none → (hidT s₁.heap H).get? b = some o := fun e n => hidT_get e n
    have noA : ∀ {b : Addr} {o : Obj} {es : Array DictEntry} {ep : Nat}, s₁.heap.get? b = some o → o.data = .dict es ep → H b = none := fun {b o es ep} e d => by
      cases q : H b with
      | none => rfl
      | some u =>
        have e' : b = a := hA b (by rw [q]; simp)
        subst e'
        rw [ha] at e; cases e
        have d' : Data.seq vs.toArray _ = Data.dict es ep := d
        cases d'
    have nsK : ∀ {b : Addr} {m : Str → Option Value}, s₁.heap.Ns b m → (hidT s₁.heap H).Ns b m := fun {b m} ⟨o, es, ep, e, d, r⟩ => ⟨o, es, ep, base_of e (noA e d), d, r⟩
    have hKb : K.In (hidT s₁.heap H) := fun b o e => base_of (KX b o e) (by
      cases q : H b with
      | none => rfl
      | some u =>
        have e' : b = a := hA b (by rw [q]; simp)
        subst e'
        rw [hK (by rw [q]; simp)] at e; cases e)
    have hM : Mod K mg (hidT s₁.heap H) := ⟨hKb, nsK hns, ⟨mb, nsK hb, hbb⟩, let ⟨mc, h1, h2⟩ := hlim; ⟨mc, nsK h1, h2⟩⟩
    have e0 : Env0 P w K mg (hidT s₁.heap H) callerA [] s₁ H := ⟨rfl, hM, fun b o e => of_hidT e, Nat.le_of_eq (hidT_size _ _), trivial, fun b hb => absurd (show b ∈ ([] : List Addr) from hb) (by simp), hok, .of_eq hg⟩
    refine codeAny_mono ((F _ hKb (nsK hns)).run callerA [] s₁ H ⟨[.ref a], []⟩ [.ref a] [.ref a] _ _ hr e0 (hbind s₁ (.ref a)) (.cons rfl .nil) (hsp H hO hS)) fun r s' h => ?_
    cases r with
    | error e => exact (hCX H e s' h).elim
    | ok fl =>
      cases fl with
      | next => exact False.elim h
      | brk => exact False.elim h
      | cont => exact False.elim h
      | ret u =>
        obtain ⟨v, H', os, bare, un, hok', r', q⟩ := h
        have q' : v = .bl true := q
        subst q'
        obtain rfl : u = Value.bool true := r'
        refine ⟨rfl, OldK.of_keep fun b o e => ?_, os, bare⟩
        cases q : H b with
        | none => exact un.keep b o e q (by intro z; exact absurd (show b ∈ ([] : List Addr) from z) (by simp)) (by simp)
        | some u =>
          rcases hO b with z | ⟨ob, xs, z⟩
          · rw [q] at z; cases z
          · have z2 := un.frzs b ob _ z
            obtain ⟨e1, _⟩ := hok b _ z
            obtain ⟨e2, _⟩ := hok' b _ z2
            rw [e] at e1; cases e1
            exact e2
  cases hk : K.lookup a with
  | some o =>
    -- the script is one of the module's own objects
    have e := KX a o hk
    rw [ha] at e
    cases e
    refine core (fun _ => none) (fun _ => .inl rfl) (.inr ⟨_, vs.toArray, _, hk, rfl, rfl, rfl, by rw [List.size_toArray, lenV]; exact hl, by simpa using rv⟩) (fun b u z => by have z' : (none : Option HO) = some u := z; cases z') (fun b z => absurd rfl z) fun z => absurd rfl z
  | none =>
    refine core (fun b => if b = a then some (.frz { cls := .type "list", data := .seq vs.toArray } (.lst (ns.map V.int))) else none) (fun b => ?_) (.inl (.inr ⟨{ cls := .type "list", data := .seq vs.toArray }, if_pos rfl⟩)) (fun b u z => ?_) (fun b z => ?_) fun _ => hk
    · by_cases hb : b = a
      · exact .inr ⟨_, _, if_pos hb⟩
      · exact .inl (if_neg hb)
    · by_cases hb : b = a
      · have z' := (if_pos hb).symm.trans z
        cases z'
        subst hb
        exact ⟨ha, by rw [List.length_map]; exact hl, vs, _, rv, ha⟩
      · have z' := (if_neg hb).symm.trans z
        cases z'
    · by_cases hb : b = a
      · exact hb
      · exact absurd (if_neg hb) z
end L2

namespace L2
open PySem PySem.Spec PyProof.Rows

theorem walk_of {l : PySem.W.OpenLaw} {n k : Nat} {q : Program} {loose : List Str} {XP : (Str → Option Value) → Heap → Prop} {YP : World → Heap → Prop} {d : DefRec} {K : Params → PySem.W.Frag} {CX : World → CXT} {sp : World → Sp} {x : Str}
    (hn : l.most = some n) (hn2 : n ≤ sizeLine) (hdf : d.params.defaults = []) (hr : Room k callerA)
    (hY : ∀ (w : World) (h : Heap), YP w h → (K w.params).In h)
    (F : ∀ (w : World) (mg : Str → Option Value) (fa : Addr) (h : Heap), (K w.params).In h → h.Ns mainGlobals mg → mg d.name = some (.ref fa) →
      ∃ fd : FuncData, (∀ (s : Shared) (u : Value), BindsTo s fd ⟨[u], []⟩ [(x, u)]) ∧
        ∀ base : Heap, (K w.params).In base → base.Ns mainGlobals mg → FnOk l.prog w (K w.params) mg base (CX w) k fa fd [x] (sp w))
    (hsp : ∀ (w : World) (H : Hp) (a : Addr) (ns : List Int), ns.length ≤ n → Only H → SqL (K w.params) H a (ns.map V.int) → sp w [.ref a] H (fun v _ => v = .bl true) fun _ _ _ => False)
    (hCX : ∀ (w : World) (H : Hp) (s : Shared) (e : Value) (s' : Shared), CX w [] H s (fun _ _ _ => False) e s' → False) :
    PySem.W.WalkO q loose XP YP l.row.toRowW d [] (fun f vs => PySem.call f vs) := by
  refine Att.attach_call hn hdf fun w s₀ s₁ mg mb fa o pm cd doc a vs ns G Y ho hd hcd hmg hobj hints hlen hg => ?_
  have KX := hY w _ Y
  obtain ⟨fd, hb, hF⟩ := F w mg fa _ KX G.T.g hmg
  exact law_call KX G.T.g G.T.b G.T.builtins G.T.nolimit hg hobj hints (Nat.le_trans hlen hn2) hr hF hb (fun H hO hS => hsp w H a ns hlen hO hS) fun H e s' => hCX w H s₁ e s'
end L2


namespace L2
open PySem PySem.Spec PyProof.Rows

def defArgs (s : Stmt) : Arguments := match s with
  | .FunctionDef _ a _ _ _ _ _ _ _ _ => a
  | _ => { posonlyargs := [], args := [], vararg := none, kwonlyargs := [], kw_defaults := [], kwarg := none, defaults := [] }
def defBody (s : Stmt) : List Stmt := match s with
  | .FunctionDef _ _ b _ _ _ _ _ _ _ => b
  | _ => []
def defScope (s : Stmt) : Scope := match s with
  | .FunctionDef _ _ _ _ _ _ sc _ _ _ => sc
  | _ => { kind := .function, names := [], isGenerator := false, isCoroutine := false }

abbrev CX0 : CXT := fun _ _ _ _ _ _ => False
abbrev E0 : XK := fun _ _ _ => False
theorem pass0 {X : Cx} : Passes CX0 X E0 := fun _ _ _ _ _ _ _ h => h.elim

structure Fun (K : PySem.W.Frag) (x qual : Str) (st : Stmt) (f : Addr) (fd : FuncData) : Prop where
  ex : ∃ (oc : Value) (od : Option Addr) (kV doc pm : Value) (an : Option Addr) (cdv ct : Value) (osl : Array (Option Value)),
    fd = PySem.W.fnOf x qual (defArgs st) (defBody st) (defScope st) .none kV doc pm an cdv ct ∧ K.lookup f = some ⟨oc, od, .func fd, osl⟩ ∧ PySem.W.codeIn K cdv qual = true
  kp : PySem.W.keepIn K (.ref f) = true
section
variable {P : Program} {w : World} {K : PySem.W.Frag} {mg : Str → Option Value} {base : Heap}
theorem Fun.ok {x qual : Str} {st : Stmt} {f : Addr} {fd : FuncData} {N ps : List Str} {k : Nat} {sp : Sp} (F : Fun K x qual st f fd) (S : FnScope N ps (defScope st)) (len : ∀ vs H Q E, sp vs H Q E → vs.length = ps.length)
    (hbody : ∀ (cdv : Value) (A : Around) (outer : List Env) (s : Shared) (H : Hp) (vs : List V) (Q : VK) (E : XK), Room k (A.deeper (envOfC qual (defScope st) s.heap.objs.size f cdv)) → sp vs H Q E →
      ∃ t, PSs (cxOf CX0 P w K mg base N qual (defScope st) f cdv A outer s H E).nox (defBody st) t ∧ t { nx := fun _ H' => Q .non H', rt := Q } (start N vs) H) : FnOk P w K mg base CX0 (k + 1) f fd ps sp := by
  obtain ⟨oc, od, kV, doc, pm, an, cdv, ct, osl, rfl, lk, hcd⟩ := F.ex
  refine fn_of lk hcd S len fun A outer s H vs Q E hr hsp => ?_
  obtain ⟨t, h, q⟩ := hbody cdv A outer s H vs Q E hr hsp
  exact ⟨t, h.nox, q⟩
theorem Fun.binds {x qual : Str} {st : Stmt} {f : Addr} {fd : FuncData} {ps : List Str} (F : Fun K x qual st f fd)
    (h : ∀ (kV doc pm : Value) (an : Option Addr) (cdv ct : Value) (us : List Value), us.length = ps.length → bindArgs (PySem.W.fnOf x qual (defArgs st) (defBody st) (defScope st) .none kV doc pm an cdv ct) ⟨us, []⟩ = pure (ps.zip us)) : Binds K fd ps [] := by
  obtain ⟨oc, od, kV, doc, pm, an, cdv, ct, osl, rfl, lk, hcd⟩ := F.ex
  exact .all (h kV doc pm an cdv ct)
theorem fun_mk {x qual : Str} {st : Stmt} {f : Addr} {oc : Value} {od an : Option Addr} {osl : Array (Option Value)} {kV doc pm cdv ct : Value} (l : K.lookup f = some ⟨oc, od, .func (PySem.W.fnOf x qual (defArgs st) (defBody st) (defScope st) .none kV doc pm an cdv ct), osl⟩)
    (c : PySem.W.codeIn K cdv qual = true) (k : PySem.W.keepIn K (.ref f) = true) : Fun K x qual st f (PySem.W.fnOf x qual (defArgs st) (defBody st) (defScope st) .none kV doc pm an cdv ct) := ⟨⟨oc, od, kV, doc, pm, an, cdv, ct, osl, rfl, l, c⟩, k⟩
end
theorem hu_of {A : Around} {k : Nat} (hr : Room k A) : A.units + 1 < cLine := Nat.lt_of_le_of_lt (Nat.add_le_add_left (by decide : 1 ≤ 64) _) hr.units
theorem small1000 {n : Nat} (h : n ≤ 1000) : n < sizeLine := Nat.lt_of_le_of_lt h (by decide)

section
variable {X : Cx}
theorem pv (i : Nat) {x : Str} {pos : Pos} (hN : X.N[i]? = some x := by rfl) (hv : Vis X.env.scope x := by first | exact Or.inl rfl | exact Or.inr (Or.inl rfl) | exact Or.inr (Or.inr rfl)) (hd : (x == ("__debug__" : Str)) = false := by decide)
    (hcd : (x == ("__classdict__" : Str)) = false := by decide) : PE X (.Name x pos) (tVar i) := pe_var hN hv hd hcd
end

theorem iteF {A B : Prop} (h : B) : if false = true then A else B := by
  rw [if_neg Bool.false_ne_true]
  exact h
theorem iteT {A B : Prop} (h : A) : if true = true then A else B := by
  rw [if_pos rfl]
  exact h
def Same (H H' : Hp) : Prop := ∀ b o, H b = some o → H' b = some o
theorem Same.free {H H' : Hp} (e : Same H H') {l : Addr} (h : H' l = Option.none) : H l = Option.none := by
  cases q : H l with
  | none => rfl
  | some o =>
    rw [e l o q] at h
    cases h
theorem Same.seq {K : PySem.W.Frag} {H H' : Hp} {a : Addr} {xs : List V} (e : Same H H') (h : SqL K H a xs) : SqL K H' a xs := by
  rcases h with (h | ⟨o, h⟩) | h
  · exact .inl (.inl (e _ _ h))
  · exact .inl (.inr ⟨o, e _ _ h⟩)
  · exact .inr h

section
variable {κ : Type} [DecidableEq κ]
end
end L2

set_option maxHeartbeats 4000000
namespace L2
open PySem PySem.Spec PyProof.Rows

abbrev NoE : Value → Shared → Prop := fun _ _ => False
theorem compLoop_go {prog : Program} {w : World} {A : Around} {R : Result → Shared → Prop} {s : Shared} {elt target iter : Expr} {ifs : List Expr} {scope : Scope} {pos : Pos} {it acc : Value} {env : Env} (I : Nat → Shared → Prop)
    (turn : ∀ n s, I n s → wpAny (model prog w) A (pyNext it) (fun r s₁ => match r with
      | none => R (.ok .next) s₁
      | some v => wpAny (model prog w) A (letOwnedTupleGo target it v) (fun _ s₁' => wpAny (model prog w) A (assign target env v) (fun _ s₂ =>
          wpAny (model prog w) A (forIn ifs true fun c r => if r = true then do let ok ← isTrue c env (eval c env); pure (ForInStep.yield ok) else pure (ForInStep.yield r)) (fun ok s₃ =>
            if ok = true then wpAny (model prog w) A (eval elt env) (fun x s₄ =>
              wpAny (model prog w) A (call (.builtin "list.append") [acc, x]) (fun _ s₅ => ∃ m, m < n ∧ I m s₅) NoE s₄) NoE s₃
            else ∃ m, m < n ∧ I m s₃) NoE s₂) NoE s₁') NoE s₁) NoE s)
    (n : Nat) (h : I n s) :
    codeAny (model prog w) A (.compLoop (.ListComp elt [⟨target, iter, ifs, 0⟩] scope pos) 0 it acc env) R s := by
  refine codeAny_loop rfl I (fun n s hI => ?_) n h
  show wpAny _ A ((compTurn (.ListComp elt [⟨target, iter, ifs, 0⟩] scope pos) 0 it acc env).onRaise (fun x => do noteFrame x env; theTreesLotGoes x)) _ _ s
  refine wpAny_noted ?_
  rw [compTurn_list]
  refine wpAny_bind (wpAny_standAt (wpAny_bind (wpAny_mono (turn n s hI) (fun r s₁ h₁ => ?_) fun _ _ f => f.elim)))
  cases r with
  | none => exact wpAny_pure h₁
  | some v =>
    refine wpAny_bind (wpAny_mono h₁ (fun _ s₁' h₁' => wpAny_bind (wpAny_mono h₁' (fun _ s₂ h₂ => wpAny_bind (wpAny_mono h₂ (fun ok s₃ h₃ => ?_) fun _ _ f => f.elim)) fun _ _ f => f.elim)) fun _ _ f => f.elim)
    cases ok with
    | false => exact wpAny_pure ⟨rfl, h₃⟩
    | true =>
      exact wpAny_bind (wpAny_bind (wpAny_mono h₃ (fun x s₄ h₄ => wpAny_bind (wpAny_mono h₄ (fun _ s₅ h₅ => wpAny_pure (wpAny_pure ⟨rfl, h₅⟩)) fun _ _ f => f.elim)) fun _ _ f => f.elim))

def closeL (env : Env) : List (Str × NameKind) → List (Str × Addr) → List (Str × Addr)
  | [], cs => cs
  | (n, k) :: r, cs => closeL env r (if (k == NameKind.free) = true then (n, (env.cells.lookup n).getD 0) :: cs else cs)
theorem closureFor_eq {scope : Scope} {env : Env} (h : ∀ x ∈ scope.names, x.2 = .free → ∃ c, env.cells.lookup x.1 = some c) : closureFor scope env = pure (closeL env scope.names []) := by
  have key : ∀ (l : List (Str × NameKind)) (cs : List (Str × Addr)), (∀ x ∈ l, x.2 = .free → ∃ c, env.cells.lookup x.1 = some c) →
      (forIn (m := Sem) l cs fun (x : Str × NameKind) (r : List (Str × Addr)) => if (x.2 == NameKind.free) = true then (do let c ← cellOf env x.1; pure (ForInStep.yield ((x.1, c) :: r))) else (do pure PUnit.unit; pure (ForInStep.yield r))) = pure (closeL env l cs) := by
    intro l
    induction l with
    | nil => intro cs _; rfl
    | cons x r ih =>
      intro cs hx
      obtain ⟨n, k⟩ := x
      rw [List.forIn_cons]
      by_cases hk : k = .free
      · subst hk
        obtain ⟨c, hc⟩ := hx _ List.mem_cons_self rfl
        have e : cellOf env n = pure c := by unfold cellOf; rw [show env.cells.lookup n = some c from hc]
        simp only [beq_self_eq_true, if_true, e, pure_bind]
        rw [ih _ fun y hy => hx y (List.mem_cons_of_mem _ hy)]
        simp only [closeL, beq_self_eq_true, if_true]
        rw [show env.cells.lookup n = some c from hc]
        rfl
      · have hb : (k == NameKind.free) = false := by simpa using hk
        simp only [hb, Bool.false_eq_true, if_false, pure_bind]
        rw [ih _ fun y hy => hx y (List.mem_cons_of_mem _ hy)]
        simp only [closeL, hb, Bool.false_eq_true, if_false]
  unfold closureFor
  have := key scope.names [] h
  show ((forIn (m := Sem) scope.names ([] : List (Str × Addr)) _) >>= _) = _
  refine Eq.trans (congrArg (fun z => z >>= _) (Eq.trans ?_ this)) ?_
  · congr 1
  · rfl
theorem closeL_mem {env : Env} : ∀ {l : List (Str × NameKind)} {cs : List (Str × Addr)}, (∀ x ∈ l, x.2 = .free → ∃ c, env.cells.lookup x.1 = some c) → (∀ p ∈ cs, env.cells.lookup p.1 = some p.2) → ∀ p ∈ closeL env l cs, env.cells.lookup p.1 = some p.2
  | [], _, _, hc => hc
  | (n, k) :: r, cs, hx, hc => by
    unfold closeL
    refine closeL_mem (fun y hy => hx y (List.mem_cons_of_mem _ hy)) fun p hp => ?_
    by_cases hk : k = .free
    · subst hk
      simp only [beq_self_eq_true, if_true] at hp
      rcases List.mem_cons.mp hp with rfl | hp
      · obtain ⟨c, e⟩ := hx _ List.mem_cons_self rfl
        have e : env.cells.lookup n = some c := e
        show env.cells.lookup n = some ((env.cells.lookup n).getD 0)
        rw [e]
        rfl
      · exact hc p hp
    · have hb : (k == NameKind.free) = false := by simpa using hk
      simp only [hb, Bool.false_eq_true, if_false] at hp
      exact hc p hp
theorem closeL_sub {env : Env} : ∀ {l : List (Str × NameKind)} {cs : List (Str × Addr)} {p : Str × Addr}, p ∈ cs → p ∈ closeL env l cs
  | [], _, _, h => h
  | (n, k) :: r, cs, p, h => by
    unfold closeL
    refine closeL_sub ?_
    split
    · exact List.mem_cons_of_mem _ h
    · exact h
theorem closeL_has {env : Env} : ∀ {l : List (Str × NameKind)} {cs : List (Str × Addr)} {x : Str}, (x, NameKind.free) ∈ l → ∃ c, (x, c) ∈ closeL env l cs
  | [], _, _, h => by cases h
  | (n, k) :: r, cs, x, h => by
    unfold closeL
    rcases List.mem_cons.mp h with e | h
    · cases e
      simp only [beq_self_eq_true, if_true]
      exact ⟨_, closeL_sub List.mem_cons_self⟩
    · exact closeL_has h
theorem lookup_mem_some {α : Type} {x : Str} {c : α} : ∀ {l : List (Str × α)}, (x, c) ∈ l → ∃ d, l.lookup x = some d
  | [], h => by cases h
  | (n, k) :: r, h => by
    rw [List.lookup_cons]
    cases hx : x == n with
    | true => exact ⟨k, rfl⟩
    | false =>
      rcases List.mem_cons.mp h with e | h
      · cases e; simp at hx
      · exact lookup_mem_some h
theorem relabel_cases {env : Env} {x : Str} : ∀ {names : List (Str × NameKind)} {k : NameKind},
    (names.map fun (n, k) => if (k == NameKind.free && env.scope.kind == .function && env.kindOf n == some .cell) then (n, NameKind.cell) else (n, k)).lookup x = some k → names.lookup x = some k ∨ (k = .cell ∧ names.lookup x = some .free)
  | [], _, h => by simp at h
  | (n, j) :: r, k, h => by
    have ih := @relabel_cases env x r k
    rw [List.map_cons] at h
    rw [List.lookup_cons]
    dsimp only at h
    by_cases hc : (j == NameKind.free && env.scope.kind == .function && env.kindOf n == some .cell) = true
    · rw [if_pos hc, List.lookup_cons] at h
      cases hx : x == n with
      | true =>
        rw [hx] at h
        simp only [Bool.and_eq_true] at hc
        have : j = .free := by simpa using hc.1.1
        subst this
        cases h
        exact .inr ⟨rfl, rfl⟩
      | false => rw [hx] at h; exact ih h
    · rw [if_neg hc, List.lookup_cons] at h
      cases hx : x == n with
      | true => rw [hx] at h; exact .inl h
      | false => rw [hx] at h; exact ih h
theorem relabel_free {env : Env} {x : Str} : ∀ {names : List (Str × NameKind)}, names.lookup x = some .free →
    (names.map fun (n, k) => if (k == NameKind.free && env.scope.kind == .function && env.kindOf n == some .cell) then (n, NameKind.cell) else (n, k)).lookup x = some .cell ∨
    (names.map fun (n, k) => if (k == NameKind.free && env.scope.kind == .function && env.kindOf n == some .cell) then (n, NameKind.cell) else (n, k)).lookup x = some .free
  | [], h => by simp at h
  | (n, j) :: r, h => by
    have ih := @relabel_free env x r
    rw [List.lookup_cons] at h
    rw [List.map_cons]
    dsimp only
    by_cases hc : (j == NameKind.free && env.scope.kind == .function && env.kindOf n == some .cell) = true
    · rw [if_pos hc, List.lookup_cons]
      cases hx : x == n with
      | true => exact .inl rfl
      | false => rw [hx] at h; exact ih h
    · rw [if_neg hc, List.lookup_cons]
      cases hx : x == n with
      | true => rw [hx] at h; cases h; exact .inr rfl
      | false => rw [hx] at h; exact ih h

def cxComp (X : Cx) (N' : List Str) (scope : Scope) (C : Addr) (s : Shared) (H : Hp) (fp : List Addr) : Cx where
  prog := X.prog
  w := X.w
  K := X.K
  mg := X.mg
  base := X.base
  A := X.A
  N := N'
  s₀ := s
  H₀ := H
  env := compEnvC scope (closeL X.env scope.names []) C X.env
  outer := X.stack
  stack := X.stack
  ex := fp
  fn := fun _ => false
  calm := X.calm
  pn := []
  xe := NoE
structure CompScope (sc : Scope) (N : List Str) (scope : Scope) (N' : List Str) (k : Nat) (idx : List Nat) : Prop where
  kind : scope.kind = .function
  nocell : ∀ x ∈ scope.names, x.2 ≠ .cell
  loc : ∀ x ∈ scope.names, x.2 = .local → scope.names.lookup x.1 = some .local
  fr : ∀ x ∈ scope.names, x.2 = .free → sc.names.lookup x.1 = some .cell ∨ sc.names.lookup x.1 = some .free
  nd : N'.Nodup
  free : ∀ x ∈ N'.drop k, scope.names.lookup x = some .free
  ix : (N'.drop k).map some = idx.map fun i => N[i]?
  len : N'.length = k + idx.length
def startC (k : Nat) (idx : List Nat) (σ : St) : St := List.replicate k none ++ idx.map fun i => (σ[i]?).join

section
variable {X : Cx} {pins : List (Addr × Obj)} {σ : St} {H : Hp} {s : Shared} {scope : Scope} {N' : List Str} {k : Nat} {idx : List Nat} {sc : Scope} {N : List Str}
theorem comp_start (I : Inv X pins σ H s) (S : CompScope sc N scope N' k idx) (hsc : X.env.scope = sc) (hNN : X.N = N) {fp : List Addr} (hf : ∀ b ∈ fp, FpOk X pins H b) (hlt : ∀ b ∈ fp, b < s.heap.objs.size) {h' : Heap} {t' : Nat}
    (hn : h'.Ns s.heap.objs.size (fun _ => none)) (hk : ∀ b o, s.heap.get? b = some o → h'.get? b = some o) :
    Inv (cxComp X N' scope s.heap.objs.size s H fp) [] (startC k idx σ) H { s with heap := h', toks := t' } := by
  have hcell : ∀ x ∈ scope.names, x.2 = .free → ∃ c, X.env.cells.lookup x.1 = some c := fun x hx hfree => I.ok.has x.1 (by
    show X.env.scope.names.lookup x.1 = _ ∨ X.env.scope.names.lookup x.1 = _
    rw [hsc]; exact S.fr x hx hfree)
  have hcl : ∀ x c, (closeL X.env scope.names []).lookup x = some c → X.env.cells.lookup x = some c := fun x c e => closeL_mem hcell (fun p hp => by cases hp) (x, c) (PySem.mem_of_lookup e)
  have hok : (cxComp X N' scope s.heap.objs.size s H fp).Ok := {
    mod := I.ok.mod
    kind := S.kind
    glob := I.ok.glob
    blt := I.ok.blt
    above := Nat.le_refl _
    inj := fun x y c e1 e2 => I.ok.inj x y c (hcl x c e1) (hcl y c e2)
    has := fun x hx => by
      have hfree : scope.names.lookup x = some .free := by
        rcases hx with hx | hx
        · rcases relabel_cases (env := X.env) (names := scope.names) hx with h | ⟨_, h⟩
          · exact absurd rfl (S.nocell _ (PySem.mem_of_lookup h))
          · exact h
        · rcases relabel_cases (env := X.env) (names := scope.names) hx with h | ⟨h, _⟩
          · exact h
          · cases h
      obtain ⟨c, hc⟩ := closeL_has (env := X.env) (cs := []) (PySem.mem_of_lookup hfree)
      exact lookup_mem_some hc
    cab := fun x c h => by cases h
    hd := I.ok.hd
    frames := I.ok.frames
    stk := .inl rfl
    exf := fun b hb => ⟨Nat.ne_of_lt (hlt b hb), fun x c e => (hf b hb).2.2.2.2.1 x c (hcl x c e)⟩
    bs := I.bs
    bsz := Nat.le_trans I.ok.bsz I.sz
    noex := fun b o e hb => by
      rcases (hf b hb).2.2.2.1 with z | z
      · exact I.ok.noex b o e z
      · exact absurd (Nat.lt_of_lt_of_le (Heap.lt_size e) (Nat.le_trans I.ok.bsz z)) (Nat.lt_irrefl _)
    exfs := fun b hb hz => by
      rcases List.mem_cons.mp (I.stkSub b hz) with e | e
      · exact (hf b hb).2.1 e
      · exact (hf b hb).2.2.1 e
    funs := I.stack
    frf := I.stkFree }
  refine ⟨hok, rfl, I.bare, Un.kept hk, ⟨_, hn, fun i x v e1 e2 e3 => ?_⟩, fun x c e => ?_, I.hok.fresh (Nat.le_refl _), fun x c e => I.freeC x c (hcl x c e), (fun p hp => by cases hp), I.hok.kept hk, ?_⟩
  · -- a name with a value is one of the others
    have hi : k ≤ i := by
      rcases Nat.lt_or_ge i k with h | h
      · have e2 : (startC k idx σ)[i]? = some (some v) := e2
        unfold startC at e2
        rw [List.getElem?_append_left (by simpa using h), List.getElem?_replicate] at e2
        split at e2 <;> cases e2
      · exact h
    have e1' : (N'.drop k)[i - k]? = some x := by
      rw [List.getElem?_drop, show k + (i - k) = i by omega]; exact e1
    have hfree := S.free x (List.mem_of_getElem? e1')
    have e2' : (idx.map fun i => (σ[i]?).join)[i - k]? = some (some v) := by
      have e2 : (startC k idx σ)[i]? = some (some v) := e2
      unfold startC at e2
      rw [List.getElem?_append_right (by simpa using hi), List.length_replicate] at e2
      exact e2
    rw [List.getElem?_map] at e2'
    cases hj : idx[i - k]? with
    | none => rw [hj] at e2'; cases e2'
    | some j =>
      rw [hj] at e2'
      have e3' : (σ[j]?).join = some v := by simpa using e2'
      have eσ : σ[j]? = some (some v) := by
        cases q : σ[j]? with
        | none => rw [q] at e3'; cases e3'
        | some o => rw [q] at e3'; cases o with
          | none => cases e3'
          | some z => cases e3'; rfl
      have eN : X.N[j]? = some x := by
        rw [hNN]
        have := congrArg (fun l => l[i - k]?) S.ix
        simp only [List.getElem?_map, e1', hj, Option.map_some] at this
        exact (Option.some.inj this).symm
      have hvk := S.fr _ (PySem.mem_of_lookup hfree) rfl
      obtain ⟨m, hm, hl⟩ := I.loc
      obtain ⟨u, ru, lk⟩ := hl j x v eN eσ (by rw [hsc]; exact .inr hvk)
      refine ⟨u, ru, .inr ⟨relabel_free (env := X.env) hfree, ?_⟩⟩
      rcases lk with ⟨kl, _⟩ | ⟨_, c, ec, z⟩
      · have kl : X.env.scope.names.lookup x = some .local := kl
        rw [hsc] at kl
        rcases hvk with q | q <;> (rw [kl] at q; cases q)
      · obtain ⟨d, hd⟩ := closeL_has (env := X.env) (cs := []) (PySem.mem_of_lookup hfree)
        obtain ⟨d', hd'⟩ := lookup_mem_some hd
        have e := hcl x d' hd'
        rw [ec] at e
        cases e
        obtain ⟨o, ho, hod⟩ := z
        exact ⟨c, hd', o, hk c o ho, hod⟩
  · obtain ⟨v, o, ho, hod⟩ := I.cell x c (hcl x c e)
    exact ⟨v, o, hk c o ho, hod⟩
  · show (startC k idx σ).length = N'.length
    unfold startC
    rw [S.len, List.length_append, List.length_replicate, List.length_map]
end

def PTs (X : Cx) (ifs : List Expr) (t : TT) : Prop :=
  ∀ (pins : List (Addr × Obj)) (s : Shared) (σ : St) (H : Hp) (Q : Bool → Hp → Prop), Inv X pins σ H s → t σ H Q →
    wpAny (model X.prog X.w) X.A (forIn ifs true fun c r => if r = true then do let ok ← isTrue c X.env (eval c X.env); pure (ForInStep.yield ok) else pure (ForInStep.yield r)) (TP X pins σ Q) X.xe s
def tNoTest : TT := fun _ H Q => Q true H
theorem pts_nil {X : Cx} : PTs X [] tNoTest := fun pins s σ H Q I h => wpAny_tests_nil ⟨H, I, h⟩
theorem pts_one {X : Cx} {c : Expr} {t : TT} (h : PT X c t) : PTs X [c] t := fun pins s σ H Q I q => wpAny_tests_one (h pins s σ H Q I q)

def cTurns (J : It) (g : TG) (tt : TT) (te : TE) (l : Addr) (σ0 : St) (H0 : Hp) (Q : Hp → Prop) : Prop :=
  ∃ W : Nat → Nat → St → Hp → Prop, (∃ m, W 0 m σ0 H0) ∧ ∀ i m σ H, W i m σ H →
    (J.stop i H ∧ Q H) ∨ (J.go i H ∧ ∀ x H', J.yld i H x H' → g x σ H' fun σ2 H2 => tt σ2 H2 fun c H3 =>
      if c = true then te σ2 H3 fun y H4 => ∃ xs, H4 l = some (.lst xs) ∧ xs.length < sizeLine ∧ ∃ m', m' < m ∧ W (i + 1) m' σ2 (upd H4 l (.lst (xs ++ [y])))
      else ∃ m', m' < m ∧ W (i + 1) m' σ2 H3)
def tComp (wi : TI) (k : Nat) (idx : List Nat) (g : TG) (tt : TT) (te : TE) : TE := fun σ H Q => wi σ H fun J H1 => ∀ l, H1 l = none → cTurns J g tt te l (startC k idx σ) (upd H1 l (.lst [])) fun H2 => Q (.ref l) H2

section
variable {X : Cx} {tg iter elt : Expr} {ifs : List Expr} {scope sc : Scope} {N N' : List Str} {k : Nat} {idx : List Nat} {wi : TI} {g : TG} {tt : TT} {te : TE} {pos : Pos}
structure Free1 (X : Cx) (pins : List (Addr × Obj)) (H : Hp) (C : Addr) : Prop where
  loc : C ≠ X.env.locals
  cel : ∀ x c, X.env.cells.lookup x = some c → c ≠ C
  fr : H C = none
  new : X.s₀.heap.objs.size ≤ C
  pin : ∀ p ∈ X.pn ++ pins, p.1 ≠ C
theorem Inv.freed {X : Cx} {pins : List (Addr × Obj)} {σ : St} {H : Hp} {s : Shared} {C : Addr} {h' : Heap} (I : Inv X pins σ H s) (f : Free1 X pins H C) (hs : Heap.SameBut C s.heap h') : Inv X pins σ H { s with heap := h' } :=
  I.turned (t' := s.toks) (it := C) (fun b o hb e => (hs.2 b hb).trans e) f.fr f.loc (.inr f.new) f.cel f.pin
theorem comp_block {pins : List (Addr × Obj)} {s : Shared} {σ : St} {E : Value → Shared → Prop} {RR : Value → Addr → Result → Shared → Prop} {itv : Value} {Qe : Addr → Hp → Prop}
    (hc : X.calm = true) (S : CompScope sc N scope N' k idx) (hsc : X.env.scope = sc) (hNN : X.N = N)
    (hg : ∀ C s H fp, PG (cxComp X N' scope C s H fp) tg g) (ht : ∀ C s H fp, PTs (cxComp X N' scope C s H fp) ifs tt) (he : ∀ C s H fp, PE (cxComp X N' scope C s H fp) elt te)
    (hit : PIE X pins σ tg (fun J H1 => ∀ l, H1 l = none → cTurns J g tt te l (startC k idx σ) (upd H1 l (.lst [])) fun H2 => Qe l H2) itv s)
    (hRR : ∀ l H2 C s2, Inv X pins σ H2 s2 → (∃ m, s2.heap.Ns C m) → Free1 X pins H2 C → Qe l H2 → RR (.ref l) C (.ok .next) s2) :
    wpAny (model X.prog X.w) X.A (newList []) (fun acc s₃ => wpAny (model X.prog X.w) X.A (newFunctionEnv scope X.env.globals (closeL X.env scope.names []) [] X.env.qual none .none (some X.env)) (fun cenv s₄ =>
      codeAny (model X.prog X.w) X.A (.compStart (.ListComp elt [⟨tg, iter, ifs, 0⟩] scope pos) 0 itv acc { cenv with scope := relabel scope X.env }) (RR acc cenv.locals) s₄) E s₃) E s := by
  obtain ⟨it, fp, tn, J, H1, rfl, I1, T, st1, f1, q⟩ := hit
  refine wpAny_newObj_type ?_
  have hf0 : H1 s.heap.objs.size = none := I1.hok.fresh (Nat.le_refl _)
  have hflt : ∀ b ∈ fp, b < s.heap.objs.size := fun b hb => let ⟨_, e, _⟩ := T.obj _ _ st1 b hb; Heap.lt_size e
  generalize hl : s.heap.objs.size = l at *
  have I2 : Inv X pins σ (upd H1 l (.lst [])) { s with heap := s.heap.push { cls := .type "list", dict := none, data := .seq ([] : List Value).toArray } } :=
    I1.laid (t' := s.toks) (fun b u e => Heap.get?_push_of_some _ e) (Nat.le_of_eq hl) (show ObjOk _ _ _ _ l (.lst []) from ⟨Nat.zero_le _, [], 0, .nil, by rw [← hl]; exact Heap.get?_push_size _ rfl⟩)
  have st2 : tn 0 (s.heap.push { cls := .type "list", dict := none, data := .seq ([] : List Value).toArray }) := T.keep _ _ _ st1 fun b _ o e => Heap.get?_push_of_some _ e
  have f2 : ∀ b ∈ fp, FpOk X pins (upd H1 l (.lst [])) b := fun b hb => ⟨by rw [upd_ne (Nat.ne_of_lt (hflt b hb))]; exact (f1 b hb).1, (f1 b hb).2⟩
  have hsz2 : (s.heap.push { cls := .type "list", dict := none, data := .seq ([] : List Value).toArray }).objs.size = l + 1 := by rw [Heap.size_push, hl]
  have q2 := q l hf0
  generalize hs2 : ({ s with heap := s.heap.push { cls := .type "list", dict := none, data := .seq ([] : List Value).toArray } } : Shared) = s2 at I2 ⊢
  have st2 : tn 0 s2.heap := by rw [← hs2]; exact st2
  have hsz2 : s2.heap.objs.size = l + 1 := by rw [← hs2]; exact hsz2
  refine wpAny_newFunctionEnv S.nocell (by intro y hy; simp at hy) (fun h₁ hns₁ hsb₁ => ?_) S.kind
  have hk1 : ∀ b o, s2.heap.get? b = some o → h₁.get? b = some o := fun b o e => hsb₁.extBut b o (Nat.ne_of_lt (Heap.lt_size e)) (Heap.get?_push_of_some _ e)
  have hlt2 : ∀ b ∈ fp, b < s2.heap.objs.size := fun b hb => by rw [hsz2]; exact Nat.lt_succ_of_lt (hflt b hb)
  have I3 := comp_start (t' := s2.toks + ([] : List (Str × Value)).length) I2 S hsc hNN f2 hlt2 (by simpa using hns₁) hk1
  generalize hC : s2.heap.objs.size = C at *
  have st3 : tn 0 h₁ := T.keep _ _ _ st2 fun b _ o e => hk1 b o e
  obtain ⟨W, ⟨m0, w0⟩, turn⟩ := q2
  -- back to the frame around
  have back : ∀ {σ' : St} {H' : Hp} {s' : Shared}, Inv (cxComp X N' scope C s2 (upd H1 l (.lst [])) fp) [] σ' H' s' → Inv X pins σ H' s' := fun {σ' H' s'} I' =>
    I2.call' I'.os I'.base I'.hok I'.bare fun b hb => ⟨(f2 b hb).2.2.2.1, (f2 b hb).2.1, (f2 b hb).2.2.2.2.1, (f2 b hb).2.2.2.2.2⟩
  have loop : ∀ s₃ : Shared, s₃ = { s2 with heap := h₁, toks := s2.toks + ([] : List (Str × Value)).length } →
      codeAny (model X.prog X.w) X.A (.compLoop (.ListComp elt [⟨tg, iter, ifs, 0⟩] scope pos) 0 (.ref it) (.ref l) (compEnvC scope (closeL X.env scope.names []) C X.env)) (RR (.ref l) C) s₃ := by
    rintro s₃ rfl
    refine compLoop_go (fun n s' => ∃ i σ' H', Inv (cxComp X N' scope C s2 (upd H1 l (.lst [])) fp) [] σ' H' s' ∧ tn i s'.heap ∧ (∀ b ∈ fp, H' b = none) ∧ W i n σ' H') ?_ m0 ⟨0, _, _, I3, st3, fun b hb => (f2 b hb).1, w0⟩
    rintro n s4 ⟨i, σ4, H4, I4, st4, fr4, w4⟩
    have stat : ∀ {H' : Hp}, (∀ b ∈ fp, H' b = none) → ∀ b ∈ fp, FpOk (cxComp X N' scope C s2 (upd H1 l (.lst [])) fp) [] H' b := fun {H'} hn b hb =>
      ⟨hn b hb, (I4.ok.exf b hb).1, I4.ok.exfs b hb, .inl hb, (I4.ok.exf b hb).2, fun p hp => by cases hp⟩
    rcases turn i n σ4 H4 w4 with ⟨stop, qn⟩ | ⟨go, step⟩
    · refine thn (T.done (cxComp X N' scope C s2 (upd H1 l (.lst [])) fp) rfl rfl rfl hc i [] s4 σ4 H4 NoE I4 (stat fr4) st4 stop) fun r s5 ⟨hr, I5⟩ => ?_
      subst hr
      have IX := back I5
      have hCl : C ≠ X.env.locals := fun e => by
        have := I2.lt
        rw [hC, ← e] at this
        exact Nat.lt_irrefl _ this
      have hCc : ∀ x c, X.env.cells.lookup x = some c → c ≠ C := fun x c e z => by
        obtain ⟨v, o, ho, _⟩ := I2.cell x c e
        have := Heap.lt_size ho
        rw [hC, z] at this
        exact Nat.lt_irrefl _ this
      obtain ⟨m5, hm5, _⟩ := I5.loc
      refine hRR l H4 C s5 IX ⟨m5, hm5⟩ ⟨hCl, hCc, I5.free, by rw [← hC]; exact I2.sz, fun p hp z => ?_⟩ qn
      obtain ⟨e, _⟩ := I2.pin p hp
      have := Heap.lt_size e
      rw [hC, z] at this
      exact Nat.lt_irrefl _ this
    · refine thn (T.item (cxComp X N' scope C s2 (upd H1 l (.lst [])) fp) rfl rfl rfl hc i [] s4 σ4 H4 NoE I4 (stat fr4) st4 go) fun r s5 ⟨u, hr, h5⟩ => ?_
      subst hr
      refine thn h5 fun _ s6 ⟨x, H6, I6, r6, y6, st6, fr6⟩ => ?_
      have I6' := I6.pinned (stat fr6) (T.obj _ _ st6)
      have keepT : ∀ {σ7 : St} {H7 : Hp} {s7 : Shared}, Inv (cxComp X N' scope C s2 (upd H1 l (.lst [])) fp) ([] ++ pinsAt fp s6.heap) σ7 H7 s7 → tn (i + 1) s7.heap ∧ ∀ b ∈ fp, H7 b = none := fun {σ7 H7 s7} I7 =>
        ⟨T.keep _ _ _ st6 fun b hb o e => (I7.pin (b, o) (List.mem_append_right _ (List.mem_append_right _ (mem_pinsAt hb e)))).1, fun b hb => by
          obtain ⟨o, e, d⟩ := T.obj _ _ st6 b hb
          exact (I7.pin (b, o) (List.mem_append_right _ (List.mem_append_right _ (mem_pinsAt hb e)))).2.1⟩
      refine thn (hg C s2 (upd H1 l (.lst [])) fp _ s6 σ4 H6 x u _ I6' r6 (step x H6 y6)) fun _ s7 ⟨σ7, H7, I7, q7⟩ => ?_
      refine thn (ht C s2 (upd H1 l (.lst [])) fp _ s7 σ7 H7 _ I7 q7) fun ok s8 ⟨H8, I8, q8⟩ => ?_
      cases ok with
      | false =>
        rw [if_neg (by decide)] at q8 ⊢
        obtain ⟨m', hm, w8⟩ := q8
        have kt := keepT I8
        exact ⟨m', hm, i + 1, σ7, H8, I8.unpinned, kt.1, kt.2, w8⟩
      | true =>
        rw [if_pos rfl] at q8 ⊢
        refine thn (he C s2 (upd H1 l (.lst [])) fp _ s8 σ7 H8 _ I8 q8) fun v s9 ⟨y, H9, I9, r9, xs, e9, z9, m', hm, w9⟩ => ?_
        refine thn (mt_append _ s9 σ7 H9 (.ref l) [y] (.ref l) [v] (fun z H10 => z = .non ∧ H10 = upd H9 l (.lst (xs ++ [y]))) I9 rfl (.cons r9 .nil) ⟨l, xs, y, rfl, rfl, e9, z9, rfl, rfl⟩) fun _ s10 ⟨z, H10, I10, _, _, e10⟩ => ?_
        subst e10
        have kt := keepT I10
        exact ⟨m', hm, i + 1, σ7, _, I10.unpinned, kt.1, kt.2, w9⟩
  have e2 : (newEnv scope C X.env.globals (closeL X.env scope.names []) X.env.qual none .none (some X.env) builtinsNs).locals = C := rfl
  show codeAny _ _ (.compStart _ 0 (.ref it) (.ref l) (compEnvC scope (closeL X.env scope.names []) C X.env)) (RR (.ref l) C) _
  exact codeAny_compStart_list (loop _ rfl) (T.self _ 0 _ _ _ st3 (loop _ rfl))

theorem pe_comp (hc : X.calm = true) (S : CompScope sc N scope N' k idx) (hsc : X.env.scope = sc) (hNN : X.N = N) (hi : PI X tg iter wi)
    (hg : ∀ C s H fp, PG (cxComp X N' scope C s H fp) tg g) (ht : ∀ C s H fp, PTs (cxComp X N' scope C s H fp) ifs tt) (he : ∀ C s H fp, PE (cxComp X N' scope C s H fp) elt te)
    (hs : ∀ x, foldedSetIterable iter X.env x = pure x := by intro _; rfl) : PE X (.ListComp elt [⟨tg, iter, ifs, 0⟩] scope pos) (tComp wi k idx g tt te) := by
  intro pins s σ H Q I h
  rw [eval_ListComp]
  have hclos : closureFor scope X.env = pure (closeL X.env scope.names []) := closureFor_eq fun x hx hfree => I.ok.has x.1 (by
    show X.env.scope.names.lookup x.1 = _ ∨ X.env.scope.names.lookup x.1 = _
    rw [hsc]; exact S.fr x hx hfree)
  refine wpAny_comprehension_free (use := none) rfl hs hclos S.kind S.loc (thn (hi pins s σ H _ I h) fun v s1 h1 => thn h1 fun itv s2 h2 => ?_)
  refine comp_block (RR := fun acc C => compPost (model X.prog X.w) X.A X.xe none (EP X pins σ Q) acc C) (Qe := fun l H2 => Q (.ref l) H2) hc S hsc hNN hg ht he h2 ?_
  intro l H2 C s2 I2 hm f q
  obtain ⟨m, hm⟩ := hm
  exact ⟨m, hm, fun h' hs' => ⟨.ref l, H2, I2.freed f hs', rfl, q⟩⟩

def tSetComp (i : Nat) (wi : TI) (k : Nat) (idx : List Nat) (g : TG) (tt : TT) (te : TE) : TS := fun D σ H => wi σ H fun J H1 => ∀ l, H1 l = none → cTurns J g tt te l (startC k idx σ) (upd H1 l (.lst [])) fun H2 => D.nx (σ.set i (some (.ref l))) H2
theorem ps_setcomp {i : Nat} {y : Str} {py spos : Pos} (hc : X.calm = true) (hN : X.N.Nodup) (hiN : X.N[i]? = some y) (hy : X.env.scope.names.lookup y = some .local) (S : CompScope sc N scope N' k idx) (hsc : X.env.scope = sc) (hNN : X.N = N) (hi : PI X tg iter wi)
    (hg : ∀ C s H fp, PG (cxComp X N' scope C s H fp) tg g) (ht : ∀ C s H fp, PTs (cxComp X N' scope C s H fp) ifs tt) (he : ∀ C s H fp, PE (cxComp X N' scope C s H fp) elt te)
    (hsw : swapsWith (.ListComp elt [⟨tg, iter, ifs, 0⟩] scope pos) (some (.Name y py)) spos.line X.env = pure true := by rfl)
    (hs : ∀ x, foldedSetIterable iter X.env x = pure x := by intro _; rfl) : PS X (.Assign [.Name y py] (.ListComp elt [⟨tg, iter, ifs, 0⟩] scope pos) spos) (tSetComp i wi k idx g tt te) := by
  intro pins s σ H D I h
  rw [exec_Assign_Name_used _ _ _ _ hsw]
  refine wpAny_bind (wpAny_standAt (wpAny_bind ?_))
  show wpAny _ X.A (do let _ ← comprehension (.ListComp elt [⟨tg, iter, ifs, 0⟩] scope pos) scope X.env _ (newList []) false (eval iter X.env) (some (assign (.Name y py) X.env))) _ _ s
  have hclos : closureFor scope X.env = pure (closeL X.env scope.names []) := closureFor_eq fun x hx hfree => I.ok.has x.1 (by
    show X.env.scope.names.lookup x.1 = _ ∨ X.env.scope.names.lookup x.1 = _
    rw [hsc]; exact S.fr x hx hfree)
  refine wpAny_bind (wpAny_mono (wpAny_comprehension_free (use := some (assign (.Name y py) X.env)) (Q := fun _ s' => SP X pins D .next s') rfl hs hclos S.kind S.loc (thn (hi pins s σ H _ I h) fun v s1 h1 => thn h1 fun itv s2 h2 => ?_))
    (fun _ s' hq => wpAny_pure (wpAny_pure hq)) fun _ _ e => e)
  refine comp_block (RR := fun acc C => compPost (model X.prog X.w) X.A X.xe (some (assign (.Name y py) X.env)) (fun _ s' => SP X pins D .next s') acc C) (Qe := fun l H2 => D.nx (σ.set i (some (.ref l))) H2) hc S hsc hNN hg ht he h2 ?_
  intro l H2 C s2 I2 hm f q
  obtain ⟨m, hm⟩ := hm
  show wpAny _ X.A (assign (.Name y py) X.env (.ref l)) _ _ _
  refine wpAny_assign_Name (store_ok2 (v := .ref l) I2 hN hiN (.inl hy) rfl (fun s' I' hch => ?_) (.inr hy))
  obtain ⟨a, hsb, ha⟩ := hch
  have haC : C ≠ a := fun z => by
    rcases ha with e | e
    · exact f.loc (z.trans e)
    · exact f.cel y a e z.symm
  exact ⟨m, hm.sameBut hsb haC, fun h' hs' => ⟨_, H2, I'.freed f hs', q⟩⟩
end
end L2

namespace L2
open PySem PySem.Spec PyProof.Rows

mutual
inductive Rep (ex : List Addr) (H : Hp) : PyData → V → Prop
  | none : Rep ex H .none .non
  | bool (b : Bool) : Rep ex H (.bool b) (.bl b)
  | int (i : Int) : Rep ex H (.int i) (.int i)
  | str (x : Str) : Rep ex H (.str x) (.str x)
  | tuple {a : Addr} {xs : List V} {ds : List PyData} (e : H a = some (.tup xs)) (n : a ∉ ex) (z : xs.length ≤ sizeLine) (r : Reps ex H ds xs) : Rep ex H (.tuple ds) (.ref a)
  | list {a : Addr} {xs : List V} {ds : List PyData} (e : H a = some (.lst xs)) (n : a ∉ ex) (z : xs.length ≤ sizeLine) (r : Reps ex H ds xs) : Rep ex H (.list ds) (.ref a)
inductive Reps (ex : List Addr) (H : Hp) : List PyData → List V → Prop
  | nil : Reps ex H [] []
  | cons {d : PyData} {v : V} {ds : List PyData} {vs : List V} : Rep ex H d v → Reps ex H ds vs → Reps ex H (d :: ds) (v :: vs)
end
def Kp (ex : List Addr) (H H' : Hp) : Prop := ∀ b o, H b = some o → b ∉ ex → H' b = some o
theorem Kp.refl {ex : List Addr} {H : Hp} : Kp ex H H := fun _ _ e _ => e
theorem Kp.trans {ex : List Addr} {H H1 H2 : Hp} (a : Kp ex H H1) (b : Kp ex H1 H2) : Kp ex H H2 := fun c o e n => b c o (a c o e n) n
theorem Kp.of {ex : List Addr} {H H' : Hp} (a : Kp [] H H') : Kp ex H H' := fun c o e _ => a c o e (by simp)
theorem Kp.mono {ex ex' : List Addr} {H H' : Hp} (a : Kp ex H H') (h : ∀ b ∈ ex, b ∈ ex') : Kp ex' H H' := fun c o e n => a c o e fun z => n (h c z)
theorem Kp.new {ex : List Addr} {H : Hp} {p : Addr} (h : H p = none) (o : HO) : Kp ex H (upd H p o) := fun b u q _ => by rw [upd_ne (ne_of_none q h)]; exact q
theorem Kp.at {ex : List Addr} {H : Hp} {p : Addr} (h : p ∈ ex) (o : HO) : Kp ex H (upd H p o) := fun b u q n => by rw [upd_ne (fun (z : b = p) => n (by rw [z]; exact h))]; exact q
mutual
theorem Rep.keep {ex : List Addr} {H H' : Hp} (k : Kp ex H H') : ∀ {d : PyData} {v : V}, Rep ex H d v → Rep ex H' d v
  | _, _, .none => .none
  | _, _, .bool b => .bool b
  | _, _, .int i => .int i
  | _, _, .str x => .str x
  | _, _, .tuple e n z r => .tuple (k _ _ e n) n z (Reps.keep k r)
  | _, _, .list e n z r => .list (k _ _ e n) n z (Reps.keep k r)
theorem Reps.keep {ex : List Addr} {H H' : Hp} (k : Kp ex H H') : ∀ {ds : List PyData} {vs : List V}, Reps ex H ds vs → Reps ex H' ds vs
  | _, _, .nil => .nil
  | _, _, .cons r t => .cons (Rep.keep k r) (Reps.keep k t)
end
theorem Reps.length {ex : List Addr} {H : Hp} : ∀ {ds : List PyData} {vs : List V}, Reps ex H ds vs → ds.length = vs.length
  | _, _, .nil => rfl
  | _, _, .cons _ t => by simp [Reps.length t]
theorem Reps.getV {ex : List Addr} {H : Hp} : ∀ {ds : List PyData} {vs : List V} {i : Nat} {v : V}, Reps ex H ds vs → vs[i]? = some v → ∃ d, ds[i]? = some d ∧ Rep ex H d v
  | _, _, _, _, .nil, e => by simp at e
  | _, _, 0, _, .cons r _, e => by simp at e; subst e; exact ⟨_, rfl, r⟩
  | _, _, i + 1, v, .cons _ t, e => by
    obtain ⟨u, h1, h2⟩ := Reps.getV (i := i) (v := v) t (by simpa using e)
    exact ⟨u, by simpa using h1, h2⟩
theorem Reps.append {ex : List Addr} {H : Hp} : ∀ {ds es : List PyData} {vs ws : List V}, Reps ex H ds vs → Reps ex H es ws → Reps ex H (ds ++ es) (vs ++ ws)
  | _, _, _, _, .nil, s => s
  | _, _, _, _, .cons r t, s => .cons r (Reps.append t s)
theorem Reps.ints {ex : List Addr} {H : Hp} : ∀ ns : List Int, Reps ex H (ns.map PyData.int) (ns.map V.int)
  | [] => .nil
  | n :: r => .cons (.int n) (Reps.ints r)
theorem Reps.ints_inv {ex : List Addr} {H : Hp} : ∀ {ns : List Int} {vs : List V}, Reps ex H (ns.map PyData.int) vs → vs = ns.map V.int
  | [], _, .nil => rfl
  | n :: r, _, .cons (.int _) t => by rw [Reps.ints_inv t]; rfl
mutual
theorem Rep.reads {ex : List Addr} {P : Program} {w : World} {H : Hp} {h : Heap} (ok : HOk P w H h) : ∀ {d : PyData} {v : V} {u : Value}, Rep ex H d v → RelV v u → ∃ as, Reads h u d as
  | _, _, _, .none, r => by cases (show _ = Value.none from r); exact ⟨_, .none⟩
  | _, _, _, .bool b, r => by cases (show _ = Value.bool b from r); exact ⟨_, .bool b⟩
  | _, _, _, .int i, r => by obtain ⟨t, rfl⟩ := (show ∃ t, _ = Value.int i t from r); exact ⟨_, .int i t⟩
  | _, _, _, .str x, r => by obtain ⟨t, rfl⟩ := (show ∃ t, _ = Value.str x t from r); exact ⟨_, .str x t⟩
  | _, _, _, .tuple (a := a) (xs := xs) e n _ rs, r => by
    cases (show _ = Value.ref a from r)
    obtain ⟨z, its, rv, o, e1, e2, n', e3⟩ := (show ObjOk P w H h a (.tup xs) from ok a _ e)
    obtain ⟨as, ra⟩ := Reps.reads ok rs rv
    exact ⟨as, .tuple e1 e2 e3 (by simpa using ra)⟩
  | _, _, _, .list (a := a) (xs := xs) e n _ rs, r => by
    cases (show _ = Value.ref a from r)
    obtain ⟨z, its, n', rv, e1⟩ := (show ObjOk P w H h a (.lst xs) from ok a _ e)
    obtain ⟨as, ra⟩ := Reps.reads ok rs rv
    exact ⟨_, .list e1 rfl rfl (by simpa using ra)⟩
theorem Reps.reads {ex : List Addr} {P : Program} {w : World} {H : Hp} {h : Heap} (ok : HOk P w H h) : ∀ {ds : List PyData} {vs : List V} {us : List Value}, Reps ex H ds vs → Vals vs us → ∃ as, ReadsAll h us ds as
  | _, _, _, .nil, r => by cases r; exact ⟨_, .nil⟩
  | _, _, _, .cons q t, r => by
    cases r with
    | cons r1 r2 =>
      obtain ⟨as, h1⟩ := Rep.reads ok q r1
      obtain ⟨bs, h2⟩ := Reps.reads ok t r2
      exact ⟨_, .cons h1 h2⟩
end

section
variable {X : Cx}
def rEqD : R2 := fun x y H Q => ∃ ex da db, Rep ex H da x ∧ Rep ex H db y ∧ da.canLay0 = true ∧ db.canLay0 = true ∧ min da.depth db.depth ≤ 50 ∧ Q (.bl (PyData.eqv da db)) H
def rNeD : R2 := fun x y H Q => ∃ ex da db, Rep ex H da x ∧ Rep ex H db y ∧ da.canLay0 = true ∧ db.canLay0 = true ∧ min da.depth db.depth ≤ 50 ∧ Q (.bl (!PyData.eqv da db)) H
theorem op_eqD (hu : X.A.units + 64 < cLine) : OpR X (compareOp .Eq) rEqD := by
  intro pins s σ H x y v u Q I rx ry h
  obtain ⟨ex, da, db, r1, r2, c1, c2, hd, q⟩ := h
  obtain ⟨as, h1⟩ := r1.reads I.hok rx
  obtain ⟨bs, h2⟩ := r2.reads I.hok ry
  exact SeqAt.compareEq_reads h1 h2 c1 c2 (by omega) ⟨.bl (PyData.eqv da db), H, I, rfl, q⟩
theorem call_all : CallR X (.builtin "all") (fun xs H Q => X.calm = true ∧ ∃ (p : Addr) (bs : List Bool), xs = [.ref p] ∧ SqL X.K H p (bs.map V.bl) ∧ Q (.bl (bs.all id)) H) := by
  intro pins s σ H xs us Q I r h
  obtain ⟨hc, p, bs, rfl, hq, q⟩ := h
  obtain ⟨u, rfl, ru⟩ := vals1 r
  cases ru
  obtain ⟨its, rv, pl, hz⟩ := I.list hq
  have hl := pl.isList
  have hlt : p < s.heap.objs.size := by obtain ⟨_, e, _⟩ := hl; exact Heap.lt_size e
  refine call_all_walk (wpAny_pyIter_list hl ?_)
  refine ⟨_, _, _, _, _, _, fun i => bs.getD i true, rfl, Walks.list (A := X.A.in1) (I.ok.hd hc) _ p (Nat.ne_of_lt hlt) its.toArray, ⟨⟨_, Heap.get?_push_size _ rfl, rfl, rfl⟩, hl.push _⟩, ?_, fun h' tk hk => ?_⟩
  · intro i v s' Q' E' hP hQ
    have hP : its[i]? = some v := by simpa using hP
    have hi : i < its.length := (List.getElem?_eq_some_iff.mp hP).1
    have hlen := rv.length
    have hb : (bs.map V.bl)[i]? = some (V.bl (bs.getD i true)) := by
      rw [List.length_map] at hlen
      rw [List.getElem?_map, List.getElem?_eq_getElem (by omega), List.getD_eq_getElem?_getD, List.getElem?_eq_getElem (by omega)]
      rfl
    obtain ⟨u, hu, ru⟩ := rv.get hb
    rw [hP] at hu
    cases hu
    cases (show v = Value.bool _ from ru)
    exact wpAny_truthy_bool hQ
  · have e : ((List.range its.toArray.size).all fun i => bs.getD i true) = bs.all id := by
      have hlen := rv.length
      rw [List.length_map] at hlen
      rw [List.size_toArray, ← hlen, Bool.eq_iff_iff]
      simp only [List.all_eq_true, List.mem_range]
      constructor
      · intro h b hb
        obtain ⟨i, hi, rfl⟩ := List.mem_iff_getElem.mp hb
        have := h i hi
        rw [List.getD_eq_getElem?_getD, List.getElem?_eq_getElem hi] at this
        exact this
      · intro h i hi
        rw [List.getD_eq_getElem?_getD, List.getElem?_eq_getElem hi]
        exact h _ (List.getElem_mem hi)
    rw [e]
    exact ⟨.bl (bs.all id), H, I.kept (t' := tk) (old_kept hk), rfl, q⟩
theorem call_sum : CallR X (.builtin "sum") (fun xs H Q => X.calm = true ∧ ∃ (p : Addr) (ns : List Int), xs = [.ref p] ∧ SqL X.K H p (ns.map V.int) ∧ Q (.int ns.sum) H) := by
  intro pins s σ H xs us Q I r h
  obtain ⟨hc, p, ns, rfl, hq, q⟩ := h
  obtain ⟨u, rfl, ru⟩ := vals1 r
  cases ru
  obtain ⟨its, rv, pl, hz⟩ := I.list hq
  have hl := pl.isList
  have hi := intsAre_of rv
  obtain ⟨xs, e⟩ := hi.allInts.items
  rw [e] at hl
  refine sum_intListG (I.ok.hd hc) hl fun h' tk t' hk => ?_
  have e2 : preSum (numAt xs) xs.size = ns.sum := by
    have h1 := hi.numsOf
    have h2 : numsOf its.toArray.toList = (xs.toList.map (·.1)) := by rw [e, nums_intItems]
    rw [preSum_eq, List.take_of_length_le (by simp)]
    have h2' : numsOf its = (xs.toList.map (·.1)) := by simpa using h2
    rw [← h2', h1]
  rw [e2]
  exact ⟨.int ns.sum, H, I.kept (t' := tk) hk, ⟨_, rfl⟩, q⟩
theorem call_isinst : CallR X (.builtin "isinstance") (fun xs H Q => ∃ x T t b, xs = [x, .ty T] ∧ TyOf X.K H x t ∧ PySem.W.kitOne X.K t (.type T) = some b ∧ Q (.bl b) H) := by
  intro pins s σ H xs us Q I r h
  obtain ⟨x, T, t, b, rfl, ty, e, q⟩ := h
  obtain ⟨u, w', rfl, ru, rw'⟩ := vals2 r
  cases (show w' = Value.type T from rw')
  exact isinst_ok I ru ty e fun tk => ⟨.bl b, H, I.tok tk, rfl, q⟩
def tyName : PyData → String
  | .none => "NoneType"
  | .bool _ => "bool"
  | .int _ => "int"
  | .str _ => "str"
  | .list _ => "list"
  | .tuple _ => "tuple"
  | .dict _ => "dict"
theorem Rep.tyOf {ex : List Addr} {H : Hp} {K : PySem.W.Frag} {d : PyData} {v : V} (r : Rep ex H d v) : TyOf K H v (.type (tyName d)) := by
  cases r with
  | none => exact .non
  | bool b => exact .bl b
  | int i => exact .int i
  | str x => exact .str x
  | tuple e n z r => exact .tup e
  | list e n z r => exact .lst e
def CDivB (i j : Int) : Prop := 0 < j ∧ j.natAbs.log2 < 9000
theorem op_fdivB : OpR X (binaryOp .FloorDiv) (rI CDivB fun i j => .int (i / j)) := opI fun i j _ _ _ _ _ hc q => by
  have h1 : (0 : Int) < j := hc.1
  exact floordiv_int (by omega) (by rw [Int.fdiv_eq_ediv_of_nonneg i (by omega)]; exact q) (.inl (PyProof.noPylong_of_log2 hc.2))
end
theorem cdivB_of {i j : Int} (h0 : 0 < j) (h1 : j < 2 ^ 9000) : CDivB i j := by
  refine ⟨h0, ?_⟩
  have hn : j.natAbs ≠ 0 := by omega
  rw [Nat.log2_lt hn]
  have : (j.natAbs : Int) = j := Int.natAbs_of_nonneg (by omega)
  have h2 : ((j.natAbs : Nat) : Int) < ((2 ^ 9000 : Nat) : Int) := by rw [this]; exact_mod_cast h1
  exact_mod_cast h2
end L2

namespace L2
open PySem PySem.Spec PyProof.Rows

def Cal (P : Program) (w : World) (K : PySem.W.Frag) (mg : Str → Option Value) (base : Heap) (name : Str) (k : Nat) (ps : List Str) (sp : Sp) : Prop :=
  ∃ f fd, mg name = some (.ref f) ∧ PySem.W.keepIn K (.ref f) = true ∧ Binds K fd ps [] ∧ FnOk P w K mg base CX0 k f fd ps sp
def Def (K : PySem.W.Frag) (mg : Str → Option Value) (name : Str) (st : Stmt) (ps : List Str) : Prop :=
  ∃ f fd, mg name = some (.ref f) ∧ Fun K name name st f fd ∧ Binds K fd ps []
theorem Def.cal {P : Program} {w : World} {K : PySem.W.Frag} {mg : Str → Option Value} {base : Heap} {name : Str} {st : Stmt} {ps : List Str} {k : Nat} {sp : Sp} (d : Def K mg name st ps)
    (h : ∀ f fd, Fun K name name st f fd → FnOk P w K mg base CX0 k f fd ps sp) : Cal P w K mg base name k ps sp := by
  obtain ⟨f, fd, hm, F, b⟩ := d
  exact ⟨f, fd, hm, F.kp, b, h f fd F⟩
section
variable {X : Cx} {x : Str} {e : Expr} {es : List Expr} {p pos : Pos} {t : TA} {k : Nat} {ps : List Str} {sp : Sp}
theorem pe_c (c : Cal X.prog X.w X.K X.mg X.base x k ps sp) (hr : Room k X.A) (hg : Gl X x) (ha : PA X (e :: es) t) (hdb : (x == ("__debug__" : Str)) = false := by decide)
    (he : starEach (e :: es) X.env = (false, eval e X.env) :: starEach es X.env := by rfl) (hpl : (backTo pos (starEach es X.env)).any (·.1) = false := by rfl) :
    PE X (.Call (.Name x p) (e :: es) [] pos) (tCall sp [] E0 t) := by
  obtain ⟨f, fd, hm, hk, b, F⟩ := c
  exact pe_call F hr hg hm hk b .nil pass0 ha hdb he hpl
end

def CW (n : Nat) (l : Addr) (fr : St) (Pv : Nat → List V → Hp → Prop) (i m : Nat) (σ : St) (H : Hp) : Prop := i ≤ n ∧ m = n - i ∧ ∃ o ys, σ = o :: fr ∧ H l = some (.lst ys) ∧ Pv i ys H
def CNext (n : Nat) (l : Addr) (fr : St) (Pv : Nat → List V → Hp → Prop) (i : Nat) (x : V) : VK := fun y H4 =>
  ∃ xs, H4 l = some (.lst xs) ∧ xs.length < sizeLine ∧ ∃ m', m' < n - i ∧ CW n l fr Pv (i + 1) m' (some x :: fr) (upd H4 l (.lst (xs ++ [y])))
def CSkip (n : Nat) (l : Addr) (fr : St) (Pv : Nat → List V → Hp → Prop) (i : Nat) (x : V) (H3 : Hp) : Prop := ∃ m', m' < n - i ∧ CW n l fr Pv (i + 1) m' (some x :: fr) H3
theorem CNext.intro {n : Nat} {l : Addr} {fr : St} {Pv : Nat → List V → Hp → Prop} {i : Nat} {x y : V} {H4 : Hp} {ys : List V} (hi : i < n) (h1 : H4 l = some (.lst ys)) (h2 : ys.length < sizeLine) (h3 : Pv (i + 1) (ys ++ [y]) (upd H4 l (.lst (ys ++ [y])))) : CNext n l fr Pv i x y H4 :=
  ⟨ys, h1, h2, n - (i + 1), by omega, by omega, rfl, _, _, rfl, upd_same, h3⟩
theorem CSkip.intro {n : Nat} {l : Addr} {fr : St} {Pv : Nat → List V → Hp → Prop} {i : Nat} {x : V} {H3 : Hp} {ys : List V} (hi : i < n) (h1 : H3 l = some (.lst ys)) (h3 : Pv (i + 1) ys H3) : CSkip n l fr Pv i x H3 :=
  ⟨n - (i + 1), by omega, by omega, rfl, _, _, rfl, h1, h3⟩
theorem comp1 {J : It} {tt : TT} {te : TE} {l : Addr} {fr : St} {o0 : Option V} {H0 : Hp} {Q : Hp → Prop} (n : Nat) (Pv : Nat → List V → Hp → Prop) (h0 : Pv 0 [] H0) (hl0 : H0 l = some (.lst []))
    (hgo : ∀ i H ys, i < n → Pv i ys H → H l = some (.lst ys) → J.go i H) (hstop : ∀ H ys, Pv n ys H → H l = some (.lst ys) → J.stop n H)
    (step : ∀ i H ys x H', i < n → Pv i ys H → H l = some (.lst ys) → J.yld i H x H' → tt (some x :: fr) H' fun c H3 =>
      if c = true then te (some x :: fr) H3 (CNext n l fr Pv i x) else CSkip n l fr Pv i x H3)
    (fin : ∀ H ys, Pv n ys H → H l = some (.lst ys) → Q H) :
    cTurns J (gName 0) tt te l (o0 :: fr) H0 Q := by
  refine ⟨CW n l fr Pv, ⟨n, Nat.zero_le _, rfl, o0, [], rfl, hl0, h0⟩, ?_⟩
  rintro i m σ H ⟨hi, rfl, o, ys, rfl, hl, hp⟩
  rcases Nat.lt_or_ge i n with h | h
  · exact .inr ⟨hgo i H ys h hp hl, fun x H' y => step i H ys x H' h hp hl y⟩
  · have e : i = n := by omega
    subst e
    exact .inl ⟨hstop H ys hp hl, fin H ys hp hl⟩
theorem noTest {σ : St} {H : Hp} {P : Bool → Hp → Prop} (h : P true H) : tNoTest σ H P := h
def CPure (H1 : Hp) (fe : Nat → V) (i : Nat) (ys : List V) (H : Hp) : Prop := Kp [] H1 H ∧ ys = (List.range i).map fe
theorem cpure_next {H1 H H4 : Hp} {fe : Nat → V} {n i : Nat} {l : Addr} {fr : St} {x : V} (hi : i < n) (hn : n ≤ sizeLine) (hl0 : H1 l = none) (h : CPure H1 fe i ((List.range i).map fe) H) (hl : H l = some (.lst ((List.range i).map fe))) (k : Kp [] H H4) :
    CNext n l fr (CPure H1 fe) i x (fe i) H4 := by
  refine CNext.intro hi (k _ _ hl (by simp)) (by simp; omega) ⟨fun b o e _ => ?_, ?_⟩
  · rw [upd_ne (ne_of_none e hl0)]; exact k _ _ (h.1 _ _ e (by simp)) (by simp)
  · rw [List.range_succ, List.map_append]; rfl
theorem comp1_tup {K : PySem.W.Frag} {a : Addr} {xs : List V} {te : TE} {l : Addr} {fr : St} {o0 : Option V} {H1 : Hp} {Q : Hp → Prop} (fe : Nat → V) (hq : SqT K H1 a xs) (hz : xs.length ≤ sizeLine) (hl0 : H1 l = none)
    (step : ∀ i x H (N : VK), xs[i]? = some x → Kp [] H1 H → (∀ H4, Kp [] H H4 → N (fe i) H4) → te (some x :: fr) H N)
    (fin : ∀ H, Kp [] H1 H → H l = some (.lst ((List.range xs.length).map fe)) → Q H) :
    cTurns (Itt K a) (gName 0) tNoTest te l (o0 :: fr) (upd H1 l (.lst [])) Q := by
  have hs : ∀ {H : Hp}, Kp [] H1 H → SqT K H a xs := fun {H} k => by
    rcases hq with (q | ⟨o, q⟩) | q
    · exact .inl (.inl (k _ _ q (by simp)))
    · exact .inl (.inr ⟨o, k _ _ q (by simp)⟩)
    · exact .inr q
  refine comp1 xs.length (CPure H1 fe) ⟨Kp.new hl0 _, rfl⟩ upd_same (fun i H ys hi p _ => ⟨xs, xs[i], hs p.1, List.getElem?_eq_getElem hi⟩) (fun H ys p _ => ⟨xs, hs p.1, Nat.le_refl _⟩) (fun i H ys x H' hi p hl y => ?_) fun H ys p hl => ?_
  · obtain ⟨rfl, hx⟩ := y
    obtain ⟨k1, rfl⟩ := p
    refine noTest ?_
    exact iteT (step i x H' _ (hx xs (hs k1)) k1 fun H4 k => cpure_next hi hz hl0 ⟨k1, rfl⟩ hl k)
  · obtain ⟨k1, rfl⟩ := p
    exact fin H k1 hl
theorem comp1_list {K : PySem.W.Frag} {a : Addr} {xs : List V} {te : TE} {l : Addr} {fr : St} {o0 : Option V} {H1 : Hp} {Q : Hp → Prop} (fe : Nat → V) (hq : SqL K H1 a xs) (hz : xs.length ≤ sizeLine) (hl0 : H1 l = none)
    (step : ∀ i x H (N : VK), xs[i]? = some x → Kp [] H1 H → (∀ H4, Kp [] H H4 → N (fe i) H4) → te (some x :: fr) H N)
    (fin : ∀ H, Kp [] H1 H → H l = some (.lst ((List.range xs.length).map fe)) → Q H) :
    cTurns (Itl K a) (gName 0) tNoTest te l (o0 :: fr) (upd H1 l (.lst [])) Q := by
  have hs : ∀ {H : Hp}, Kp [] H1 H → SqL K H a xs := fun {H} k => by
    rcases hq with (q | ⟨o, q⟩) | q
    · exact .inl (.inl (k _ _ q (by simp)))
    · exact .inl (.inr ⟨o, k _ _ q (by simp)⟩)
    · exact .inr q
  refine comp1 xs.length (CPure H1 fe) ⟨Kp.new hl0 _, rfl⟩ upd_same (fun i H ys hi p _ => ⟨xs, xs[i], hs p.1, List.getElem?_eq_getElem hi⟩) (fun H ys p _ => ⟨xs, hs p.1, Nat.le_refl _⟩) (fun i H ys x H' hi p hl y => ?_) fun H ys p hl => ?_
  · obtain ⟨rfl, hx⟩ := y
    obtain ⟨k1, rfl⟩ := p
    refine noTest ?_
    exact iteT (step i x H' _ (hx xs (hs k1)) k1 fun H4 k => cpure_next hi hz hl0 ⟨k1, rfl⟩ hl k)
  · obtain ⟨k1, rfl⟩ := p
    exact fin H k1 hl
theorem comp1_rng {te : TE} {l : Addr} {fr : St} {o0 : Option V} {H1 : Hp} {Q : Hp → Prop} {lo : Int} {n : Nat} (fe : Nat → V) (hz : n ≤ sizeLine) (hl0 : H1 l = none)
    (step : ∀ i H (N : VK), i < n → Kp [] H1 H → (∀ H4, Kp [] H H4 → N (fe i) H4) → te (some (.int (lo + i)) :: fr) H N)
    (fin : ∀ H, Kp [] H1 H → H l = some (.lst ((List.range n).map fe)) → Q H) :
    cTurns (Itr lo n) (gName 0) tNoTest te l (o0 :: fr) (upd H1 l (.lst [])) Q := by
  refine comp1 n (CPure H1 fe) ⟨Kp.new hl0 _, rfl⟩ upd_same (fun i H ys hi p _ => hi) (fun H ys p _ => Nat.le_refl n) (fun i H ys x H' hi p hl y => ?_) fun H ys p hl => ?_
  · obtain ⟨rfl, rfl⟩ := y
    obtain ⟨k1, rfl⟩ := p
    refine noTest ?_
    exact iteT (step i H' _ hi k1 fun H4 k => cpure_next hi hz hl0 ⟨k1, rfl⟩ hl k)
  · obtain ⟨k1, rfl⟩ := p
    exact fin H k1 hl
theorem comp1_rngP {te : TE} {l : Addr} {fr : St} {o0 : Option V} {H0 : Hp} {Q : Hp → Prop} {lo : Int} {n : Nat} (Pv : Nat → List V → Hp → Prop) (h0 : Pv 0 [] H0) (hl0 : H0 l = some (.lst []))
    (step : ∀ i H ys (N : VK), i < n → Pv i ys H → H l = some (.lst ys) → (∀ y H4, H4 l = some (.lst ys) → ys.length < sizeLine → Pv (i + 1) (ys ++ [y]) (upd H4 l (.lst (ys ++ [y]))) → N y H4) → te (some (.int (lo + i)) :: fr) H N)
    (fin : ∀ H ys, Pv n ys H → H l = some (.lst ys) → Q H) :
    cTurns (Itr lo n) (gName 0) tNoTest te l (o0 :: fr) H0 Q := by
  refine comp1 n Pv h0 hl0 (fun i H ys hi p _ => hi) (fun H ys p _ => Nat.le_refl n) (fun i H ys x H' hi p hl y => ?_) fin
  obtain ⟨rfl, rfl⟩ := y
  refine noTest ?_
  exact iteT (step i H' ys _ hi p hl fun y H4 h1 h2 h3 => CNext.intro hi h1 h2 h3)
end L2

namespace L2
open PySem PySem.Spec PyProof.Rows
section
variable {X : Cx}
theorem op_neD (hu : X.A.units + 64 < cLine) : OpR X (compareOp .NotEq) rNeD := by
  intro pins s σ H x y v u Q I rx ry h
  obtain ⟨ex, da, db, r1, r2, c1, c2, hd, q⟩ := h
  obtain ⟨as, h1⟩ := r1.reads I.hok rx
  obtain ⟨bs, h2⟩ := r2.reads I.hok ry
  exact SeqAt.compareNe_reads h1 h2 c1 c2 (by omega) ⟨.bl (!PyData.eqv da db), H, I, rfl, q⟩
end
theorem noFill_tuple_mul : fillsNumberSlot (.type "tuple") "mul" = pure false :=
  PySem.fillsNumberSlot_seq (id := "tuple.__mul__") (r := some (.builtin "tuple.__rmul__")) PySem.F.slot_tuple_mul.lookup (by decide +kernel) PySem.F.slot_tuple_rmul.lookup (by decide +kernel)
theorem repeat_tuple : seqRepeat? (.type "tuple") = pure (some (.builtin "tuple.__mul__")) := by
  unfold seqRepeat?
  rw [PySem.seqSlot_of (T := "tuple") (name := "__mul__") (id := "tuple.__mul__") PySem.F.slot_tuple_mul.lookup (by decide +kernel), PySem.seqSlot_of (T := "tuple") (name := "__rmul__") (id := "tuple.__rmul__") PySem.F.slot_tuple_rmul.lookup (by decide +kernel)]
  rfl
theorem int_rmul_tuple (a : Int) (t : Tok) (l : Addr) (items : Array Value) (n : Nat) (dd : Option Addr) (sl : Array (Option Value)) :
    Meets (Builtin.«int.__rmul__» ⟨[.int a t, .ref l], []⟩) (fun _ R s => s.heap.get? l = some { cls := .type "tuple", dict := dd, data := .seq items n, slots := sl } ∧ R (.ok (.ret Value.notImplemented)) s) :=
  .of_wp fun prog w A R s h => by obtain ⟨hp, g, d, tk, os⟩ := s; obtain ⟨hl, h⟩ := h; wp_walk; exact ⟨_, rfl, h⟩
theorem tuple_mul1 (l : Addr) (items : Array Value) (n : Nat) (dd : Option Addr) (sl : Array (Option Value)) (u : Tok) :
    Meets (Builtin.«tuple.__mul__» ⟨[.ref l, .int 1 u], []⟩) (fun _ R s => s.heap.get? l = some { cls := .type "tuple", dict := dd, data := .seq items n, slots := sl } ∧ R (.ok (.ret (Value.ref l))) s) :=
  .of_wp fun prog w A R s h => by
    obtain ⟨hp, g, d, tk, os⟩ := s; obtain ⟨hl, h⟩ := h
    have f1 := AutoSeq1.idx_int
    wp_walk using AutoSeq1.wpAny_loadPart' hl
    exact ⟨_, rfl, h⟩
theorem tuple_mul0 (l : Addr) (items : Array Value) (n : Nat) (dd : Option Addr) (sl : Array (Option Value)) (x : Int) (u : Tok) (he : ¬ items.isEmpty = true) (h0 : x ≤ 0) (h1 : -(2 ^ 63) ≤ x) :
    Meets (Builtin.«tuple.__mul__» ⟨[.ref l, .int x u], []⟩) (fun _ R s => s.heap.get? l = some { cls := .type "tuple", dict := dd, data := .seq items n, slots := sl } ∧ R (.ok (.ret (Value.ref s.heap.objs.size))) { s with heap := s.heap.push { cls := Value.type "tuple", data := Data.seq #[] }, toks := s.toks }) :=
  .of_wp fun prog w A R s h => by
    obtain ⟨hp, g, d, tk, os⟩ := s; obtain ⟨hl, h⟩ := h
    have f1 := AutoSeq1.idx_int
    have c0 : ¬ (decide (x < -2 ^ 63) || decide (x ≥ 2 ^ 63)) = true := by simp; omega
    have c1 : ¬ (items.isEmpty || x == 1) = true := by
      have : ¬ x = 1 := by omega
      simp_all
    have c2 : (decide (x ≤ 0) || items.isEmpty) = true := by simp [h0]
    wp_walk using AutoSeq1.wpAny_loadPart' hl
    refine wpAny_ite_false (decide_eq_false c0) ?_
    wp_walk using AutoSeq1.wpAny_loadPart' hl
    refine wpAny_ite_false (decide_eq_false c1) ?_
    wp_walk using AutoSeq1.wpAny_loadPart' hl
    exact ⟨_, rfl, h⟩
theorem tuple_mul2 (l : Addr) (items : Array Value) (n : Nat) (dd : Option Addr) (sl : Array (Option Value)) (x : Int) (u : Tok) (he : ¬ items.isEmpty = true) (h0 : 2 ≤ x) (hz : (items.size : Int) * x ≤ sizeLine) :
    Meets (Builtin.«tuple.__mul__» ⟨[.ref l, .int x u], []⟩) (fun _ R s => s.heap.get? l = some { cls := .type "tuple", dict := dd, data := .seq items n, slots := sl } ∧ R (.ok (.ret (Value.ref s.heap.objs.size))) { s with heap := s.heap.push { cls := Value.type "tuple", data := Data.seq ((List.replicate x.toNat items).foldl (· ++ ·) #[]) }, toks := s.toks }) :=
  .of_wp fun prog w A R s h => by
    obtain ⟨hp, g, d, tk, os⟩ := s; obtain ⟨hl, h⟩ := h
    have f1 := AutoSeq1.idx_int
    have hs : sizeLine = 16777216 := sizeLine_eq
    have hpos : 1 ≤ (items.size : Int) := by
      have : items.size ≠ 0 := fun z => he (by simpa using z)
      omega
    have hx : x ≤ (items.size : Int) * x := by
      have := Int.mul_le_mul_of_nonneg_right hpos (show 0 ≤ x by omega)
      omega
    have c0 : ¬ (decide (x < -2 ^ 63) || decide (x ≥ 2 ^ 63)) = true := by simp; omega
    have c1 : ¬ (items.isEmpty || x == 1) = true := by
      have : ¬ x = 1 := by omega
      simp_all
    have c2 : ¬ (decide (x ≤ 0) || items.isEmpty) = true := by
      have : ¬ x ≤ 0 := by omega
      simp_all
    have c3 : ¬ (items.size : Int) * x > (2 ^ 63 - 1) / 8 := by omega
    have c4 : ¬ Builtin.Tuple.tupleTooMany ((items.size : Int) * x) = true := by unfold Builtin.Tuple.tupleTooMany; simp; omega
    have c5 : ¬ (List.foldl (fun x1 x2 => x1 ++ x2) #[] (List.replicate x.toNat items)).size > sizeLine := by
      have e := foldl_rep items.toList x.toNat []
      have e2 : items.toList.toArray = items := rfl
      rw [List.nil_append, e2] at e
      rw [e, List.size_toArray, len_rep]
      have e3 : (((x.toNat * items.toList.length : Nat)) : Int) = (items.size : Int) * x := by
        rw [Int.natCast_mul, Int.toNat_of_nonneg (by omega), Int.mul_comm]; rfl
      omega
    wp_walk using AutoSeq1.wpAny_loadPart' hl
    refine wpAny_ite_false (decide_eq_false c0) ?_
    wp_walk using AutoSeq1.wpAny_loadPart' hl
    refine wpAny_ite_false (decide_eq_false c1) ?_
    wp_walk using AutoSeq1.wpAny_loadPart' hl
    refine wpAny_ite_false (decide_eq_false c2) ?_
    wp_walk
    refine wpAny_ite_false (decide_eq_false c3) ?_
    wp_walk
    refine wpAny_ite_false (decide_eq_false c5) ?_
    wp_walk
    exact ⟨_, rfl, h⟩
section
variable {X : Cx}
def rRepT (K : PySem.W.Frag) : R2 := fun x y H Q => ∃ a k xs, x = .ref a ∧ y = .int k ∧ SqT K H a xs ∧ xs ≠ [] ∧ -(2 ^ 63) ≤ k ∧ (xs.length : Int) * k ≤ sizeLine ∧
  (k = 1 → Q (.ref a) H) ∧ (k ≠ 1 → ∀ p, H p = none → Q (.ref p) (upd H p (.tup (List.replicate k.toNat xs).flatten)))
theorem op_repT : OpR X (binaryOp .Mult) (rRepT X.K) := by
  intro pins s σ H x y v u Q I rx ry h
  obtain ⟨a, k, xs, rfl, rfl, hq, hne, h1, hz, q1, q2⟩ := h
  cases rx
  obtain ⟨t, rfl⟩ := ry
  obtain ⟨its, r, pl, hz'⟩ := I.tuple hq
  have hl := r.length
  obtain ⟨⟨cls, dd, data, sl⟩, ho, hc, n, hd⟩ := id pl
  simp only at hc hd
  subst hc hd
  have hne' : ¬ its.toArray.isEmpty = true := by
    cases xs with
    | nil => exact absurd rfl hne
    | cons z zs => cases its with
      | nil => simp at hl
      | cons _ _ => simp
  have f0 : ∀ m : Nat, List.foldl (fun x1 x2 => x1 ++ x2) #[] (List.replicate m its.toArray) = (List.replicate m its).flatten.toArray := fun m => by
    have := foldl_rep its m []
    rw [List.nil_append] at this
    exact this
  have road : ∀ {R : Value → Shared → Prop}, wpAny (model X.prog X.w) X.A (call (.builtin "tuple.__mul__") [.ref a, .int k t]) R X.xe s → wpAny (model X.prog X.w) X.A (binaryOp .Mult (.ref a) (.int k t)) R X.xe s := fun {R} hw =>
    wpAny_binaryOp_repeat_ref (T := "tuple") (U := "int") (by decide) ⟨_, ho, rfl⟩ (fun s' => typeIs_int s' k t) noFill_tuple_mul PySem.F.fills_int_mul PySem.F.slot_int_rmul repeat_tuple PySem.F.slot_int_index.lookup
      (call_meets PySem.F.slot_int_rmul (typeIs_int s k t) PySem.F.entry_int_rmul (PySem.F.args_int_rmul_2 _ _) (int_rmul_tuple k t a its.toArray n dd sl) ⟨ho, rfl, ⟨_, ho, rfl⟩, hw⟩)
  refine road ?_
  have new : ∀ (zs : List V) (ws : List Value), Vals zs ws → zs.length ≤ sizeLine → Q (.ref s.heap.objs.size) (upd H s.heap.objs.size (.tup zs)) →
      EP X pins σ Q (.ref s.heap.objs.size) { s with heap := s.heap.push { cls := .type "tuple", data := .seq ws.toArray }, toks := s.toks } := fun zs ws rv hz q =>
    ⟨.ref s.heap.objs.size, _, I.laid (t' := s.toks) (fun b u e => Heap.get?_push_of_some _ e) (Nat.le_refl _) (show ObjOk _ _ _ _ _ (.tup zs) from ⟨hz, ws, rv, _, Heap.get?_push_size _ rfl, rfl, 0, rfl⟩), rfl, q⟩
  have hs : sizeLine = 16777216 := sizeLine_eq
  by_cases k1 : k = 1
  · subst k1
    exact call_meets PySem.F.slot_tuple_mul ⟨_, ho, rfl⟩ PySem.F.entry_tuple_mul (PySem.F.args_tuple_mul_2 _ _) (tuple_mul1 a its.toArray n dd sl t) ⟨ho, .ref a, H, I, rfl, q1 rfl⟩
  · by_cases k0 : k ≤ 0
    · refine call_meets PySem.F.slot_tuple_mul ⟨_, ho, rfl⟩ PySem.F.entry_tuple_mul (PySem.F.args_tuple_mul_2 _ _) (tuple_mul0 a its.toArray n dd sl k t hne' k0 h1) ⟨ho, ?_⟩
      have := q2 k1 _ I.fresh
      rw [show k.toNat = 0 by omega] at this
      exact new [] [] .nil (by simp) this
    · have hz2 : ((its.toArray.size : Nat) : Int) * k ≤ sizeLine := by rw [List.size_toArray, ← hl]; exact hz
      refine call_meets PySem.F.slot_tuple_mul ⟨_, ho, rfl⟩ PySem.F.entry_tuple_mul (PySem.F.args_tuple_mul_2 _ _) (tuple_mul2 a its.toArray n dd sl k t hne' (by omega) hz2) ⟨ho, ?_⟩
      rw [f0]
      refine new _ _ (r.rep k.toNat) ?_ (q2 k1 _ I.fresh)
      rw [len_rep]
      have e : (((k.toNat * xs.length : Nat)) : Int) = (xs.length : Int) * k := by
        rw [Int.natCast_mul, Int.toNat_of_nonneg (by omega), Int.mul_comm]
      omega
end
end L2
namespace L2
open PySem PySem.Spec PyProof.Rows
def instD (d : PyData) (T : String) : Bool := tyName d == T || (tyName d == "bool" && T == "int")
theorem kit_D (K : PySem.W.Frag) (d : PyData) (T : String) (hT : T = "int" ∨ T = "bool" ∨ T = "str" ∨ T = "tuple" ∨ T = "list") : PySem.W.kitOne K (.type (tyName d)) (.type T) = some (instD d T) := by
  rcases hT with rfl | rfl | rfl | rfl | rfl <;> cases d <;> first | rfl | kernel_rfl
theorem call_isD {X : Cx} : CallR X (.builtin "isinstance") (fun xs H Q => ∃ ex d x T, xs = [x, .ty T] ∧ Rep ex H d x ∧ (T = "int" ∨ T = "bool" ∨ T = "str" ∨ T = "tuple" ∨ T = "list") ∧ Q (.bl (instD d T)) H) := by
  intro pins s σ H xs us Q I r h
  obtain ⟨ex, d, x, T, rfl, rd, hT, q⟩ := h
  exact call_isinst pins s σ H _ us Q I r ⟨x, T, _, _, rfl, rd.tyOf, kit_D _ _ _ hT, q⟩
theorem isT_int : ("int" : String) = "int" ∨ ("int" : String) = "bool" ∨ ("int" : String) = "str" ∨ ("int" : String) = "tuple" ∨ ("int" : String) = "list" := .inl rfl
theorem isT_bool : ("bool" : String) = "int" ∨ ("bool" : String) = "bool" ∨ ("bool" : String) = "str" ∨ ("bool" : String) = "tuple" ∨ ("bool" : String) = "list" := .inr (.inl rfl)
theorem isT_tuple : ("tuple" : String) = "int" ∨ ("tuple" : String) = "bool" ∨ ("tuple" : String) = "str" ∨ ("tuple" : String) = "tuple" ∨ ("tuple" : String) = "list" := .inr (.inr (.inr (.inl rfl)))
theorem xor_bound {x y : Int} (hx : 0 ≤ x) (hx2 : x < 2 ^ 64) (hy : 0 ≤ y) (hy2 : y < 2 ^ 64) : 0 ≤ Builtin.bitXor x y ∧ Builtin.bitXor x y < 2 ^ 64 := by
  have e1 : Builtin.bitAnd x y = ((x.toNat &&& y.toNat : Nat) : Int) := by
    show Spec.bitAnd x y = _
    unfold Spec.bitAnd
    rw [decide_eq_true hx, decide_eq_true hy]
  have e2 : Builtin.bitOr x y = ((x.toNat ||| y.toNat : Nat) : Int) := by
    show Spec.bitOr x y = _
    unfold Spec.bitOr Spec.bitAnd Spec.bitNot
    rw [decide_eq_false (show ¬ 0 ≤ -x - 1 by omega), decide_eq_false (show ¬ 0 ≤ -y - 1 by omega)]
    simp only
    rw [show (-(-x - 1) - 1) = x by omega, show (-(-y - 1) - 1) = y by omega]
    omega
  have e : Builtin.bitXor x y = ((x.toNat ||| y.toNat : Nat) : Int) - ((x.toNat &&& y.toNat : Nat) : Int) := by
    show Builtin.bitOr x y - Builtin.bitAnd x y = _
    rw [e1, e2]
  have h1 : x.toNat ||| y.toNat < 2 ^ 64 := Nat.or_lt_two_pow (by omega) (by omega)
  have h2 : x.toNat &&& y.toNat ≤ x.toNat := Nat.and_le_left
  have h3 : x.toNat ≤ x.toNat ||| y.toNat := Nat.left_le_or
  rw [e]
  omega
end L2

namespace My
open PySem PySem.Spec PyProof.Rows L2
def wholeD : PyData → Bool
  | .int _ => true
  | _ => false
def tupD (d : PyData) (n : Int) : Bool := match d with
  | .tuple xs => decide ((xs.length : Int) = n)
  | _ => false
def spWhole : Sp := fun vs H Q _ => ∃ ex d v, vs = [v] ∧ Rep ex H d v ∧ Q (.bl (wholeD d)) H
def spTup : Sp := fun vs H Q _ => ∃ ex d v n, vs = [v, .int n] ∧ Rep ex H d v ∧ Q (.bl (tupD d n)) H
theorem rep_tup {ex : List Addr} {H : Hp} {ds : List PyData} {v : V} (r : Rep ex H (.tuple ds) v) : ∃ a xs, v = .ref a ∧ H a = some (.tup xs) ∧ a ∉ ex ∧ xs.length ≤ sizeLine ∧ Reps ex H ds xs := by
  cases r with | tuple e n z rs => exact ⟨_, _, rfl, e, n, z, rs⟩
theorem reps_3 {ex : List Addr} {H : Hp} {a b c : PyData} {vs : List V} (r : Reps ex H [a, b, c] vs) : ∃ x y z, vs = [x, y, z] ∧ Rep ex H a x ∧ Rep ex H b y ∧ Rep ex H c z := by
  cases r with | cons r1 r => cases r with | cons r2 r => cases r with | cons r3 r => cases r; exact ⟨_, _, _, rfl, r1, r2, r3⟩
theorem rep_tup3 {ex : List Addr} {H : Hp} {a b c : PyData} {v : V} (r : Rep ex H (.tuple [a, b, c]) v) : ∃ at' x y z, v = .ref at' ∧ H at' = some (.tup [x, y, z]) ∧ at' ∉ ex ∧ Rep ex H a x ∧ Rep ex H b y ∧ Rep ex H c z := by
  obtain ⟨at', xs, rfl, e, n, _, rs⟩ := rep_tup r
  obtain ⟨x, y, z, rfl, r1, r2, r3⟩ := reps_3 rs
  exact ⟨at', x, y, z, rfl, e, n, r1, r2, r3⟩
theorem rep_int {ex : List Addr} {H : Hp} {i : Int} {v : V} (r : Rep ex H (.int i) v) : v = .int i := by cases r; rfl
theorem ite_b {c : Bool} {A B : Prop} (h1 : c = true → A) (h2 : c = false → B) : if c = true then A else B := by
  cases c with
  | true => exact h1 rfl
  | false => exact h2 rfl
theorem wholeD_int {d : PyData} (h : wholeD d = true) : ∃ i, d = .int i := by
  cases d with
  | int i => exact ⟨i, rfl⟩
  | _ => cases h
theorem instD_tuple {d : PyData} (h : instD d "tuple" = true) : ∃ xs, d = .tuple xs := by
  cases d with
  | tuple xs => exact ⟨xs, rfl⟩
  | _ => simp [instD, tyName] at h
theorem instD_notuple {d : PyData} (h : instD d "tuple" = false) : ∀ xs, d ≠ .tuple xs := by
  rintro xs rfl
  simp [instD, tyName] at h
theorem all_range {α : Type} (f : α → Bool) (xs : List α) (dflt : α) : ((List.range xs.length).map fun i => f (xs.getD i dflt)).all id = xs.all f := by
  rw [Bool.eq_iff_iff]
  simp only [List.all_eq_true, List.mem_map, List.mem_range]
  constructor
  · intro h x hx
    obtain ⟨i, hi, rfl⟩ := List.mem_iff_getElem.mp hx
    have := h _ ⟨i, hi, rfl⟩
    rw [List.getD_eq_getElem?_getD, List.getElem?_eq_getElem hi] at this
    exact this
  · rintro h b ⟨i, hi, rfl⟩
    rw [List.getD_eq_getElem?_getD, List.getElem?_eq_getElem hi]
    exact h _ (List.getElem_mem hi)
theorem map_bl (f : Nat → Bool) (l : List Nat) : (l.map fun i => V.bl (f i)) = (l.map f).map V.bl := by simp
end My

namespace My
open PySem PySem.Spec PyProof.Rows L2
def jarKV (c : Addr) (rest seed turn : Int) : List (Key × V) := [(Sum.inr "cells", V.ref c), (Sum.inr "rest", V.int rest), (Sum.inr "seed", V.int seed), (Sum.inr "turn", V.int turn)]
structure Jar (H : Hp) (p c : Addr) : Prop where
  ex : ∃ (ns : List Int) (rest seed turn : Int), H p = some (.dK (jarKV c rest seed turn)) ∧ H c = some (.lst (ns.map V.int)) ∧ ns.length ≤ 63 ∧ 0 ≤ seed ∧ seed < 2 ^ 64
theorem Jar.ne {H : Hp} {p c : Addr} (J : Jar H p c) : p ≠ c := by
  obtain ⟨ns, r, s, t, h1, h2, _⟩ := J.ex
  exact ne_of h1 h2 (by intro z; cases z)
theorem Jar.fresh {H : Hp} {p c l : Addr} (J : Jar H p c) (h : H l = none) : l ∉ [p, c] := by
  obtain ⟨ns, r, s, t, h1, h2, _⟩ := J.ex
  intro z
  rcases List.mem_cons.mp z with rfl | z
  · rw [h] at h1; cases h1
  · cases List.mem_singleton.mp z; rw [h] at h2; cases h2
theorem Jar.keep {H H' : Hp} {p c : Addr} (J : Jar H p c) (k : Kp [] H H') : Jar H' p c := by
  obtain ⟨ns, r, s, t, h1, h2, h3⟩ := J.ex
  exact ⟨ns, r, s, t, k _ _ h1 (by simp), k _ _ h2 (by simp), h3⟩
theorem str_cr : ¬ ((Sum.inr ("cells" : Str) : Key) = (Sum.inr ("rest" : Str) : Key)) := by intro h; injection h with h; revert h; decide +kernel
theorem str_cs : ¬ ((Sum.inr ("cells" : Str) : Key) = (Sum.inr ("seed" : Str) : Key)) := by intro h; injection h with h; revert h; decide +kernel
theorem str_ct : ¬ ((Sum.inr ("cells" : Str) : Key) = (Sum.inr ("turn" : Str) : Key)) := by intro h; injection h with h; revert h; decide +kernel
theorem str_rs : ¬ ((Sum.inr ("rest" : Str) : Key) = (Sum.inr ("seed" : Str) : Key)) := by intro h; injection h with h; revert h; decide +kernel
theorem str_rt : ¬ ((Sum.inr ("rest" : Str) : Key) = (Sum.inr ("turn" : Str) : Key)) := by intro h; injection h with h; revert h; decide +kernel
theorem str_st : ¬ ((Sum.inr ("seed" : Str) : Key) = (Sum.inr ("turn" : Str) : Key)) := by intro h; injection h with h; revert h; decide +kernel
section
variable (c : Addr) (r s t x : Int)
theorem jar_cells : valV (jarKV c r s t) (Sum.inr "cells") = some (V.ref c) := valV_pos rfl
theorem jar_rest : valV (jarKV c r s t) (Sum.inr "rest") = some (V.int r) := by
  unfold jarKV; rw [valV_neg str_cr]; exact valV_pos rfl
theorem jar_seed : valV (jarKV c r s t) (Sum.inr "seed") = some (V.int s) := by
  unfold jarKV; rw [valV_neg str_cs, valV_neg str_rs]; exact valV_pos rfl
theorem jar_turn : valV (jarKV c r s t) (Sum.inr "turn") = some (V.int t) := by
  unfold jarKV; rw [valV_neg str_ct, valV_neg str_rt, valV_neg str_st]; exact valV_pos rfl
theorem jar_put_rest : putK (jarKV c r s t) (Sum.inr "rest") (V.int x) = jarKV c x s t := by
  unfold putK
  rw [if_pos (by rw [valV_any, jar_rest]; rfl)]
  unfold jarKV
  simp only [List.map_cons, List.map_nil, if_neg str_cr, if_neg (Ne.symm str_rs), if_neg (Ne.symm str_rt), if_true]
theorem jar_put_seed : putK (jarKV c r s t) (Sum.inr "seed") (V.int x) = jarKV c r x t := by
  unfold putK
  rw [if_pos (by rw [valV_any, jar_seed]; rfl)]
  unfold jarKV
  simp only [List.map_cons, List.map_nil, if_neg str_cs, if_neg str_rs, if_neg (Ne.symm str_st), if_true]
theorem jar_put_turn : putK (jarKV c r s t) (Sum.inr "turn") (V.int x) = jarKV c r s x := by
  unfold putK
  rw [if_pos (by rw [valV_any, jar_turn]; rfl)]
  unfold jarKV
  simp only [List.map_cons, List.map_nil, if_neg str_ct, if_neg str_rt, if_neg str_st, if_true]
end
abbrev kC : Key := Sum.inr ("cells" : Str)
abbrev kR : Key := Sum.inr ("rest" : Str)
abbrev kS : Key := Sum.inr ("seed" : Str)
abbrev kT : Key := Sum.inr ("turn" : Str)
theorem jar_made (l : Addr) (r s t : Int) : mergeK [] [(kC, V.ref l), (kR, V.int r), (kS, V.int s), (kT, V.int t)] = jarKV l r s t := by
  have e1 : putK ([] : List (Key × V)) kC (V.ref l) = [] ++ [(kC, V.ref l)] := putK_new _ valV_nil
  have e2 : putK ([(kC, V.ref l)] : List (Key × V)) kR (V.int r) = [(kC, V.ref l)] ++ [(kR, V.int r)] := putK_new _ (by rw [valV_neg str_cr]; exact valV_nil)
  have e3 : putK ([(kC, V.ref l), (kR, V.int r)] : List (Key × V)) kS (V.int s) = [(kC, V.ref l), (kR, V.int r)] ++ [(kS, V.int s)] := putK_new _ (by rw [valV_neg str_cs, valV_neg str_rs]; exact valV_nil)
  have e4 : putK ([(kC, V.ref l), (kR, V.int r), (kS, V.int s)] : List (Key × V)) kT (V.int t) = [(kC, V.ref l), (kR, V.int r), (kS, V.int s)] ++ [(kT, V.int t)] := putK_new _ (by rw [valV_neg str_ct, valV_neg str_rt, valV_neg str_st]; exact valV_nil)
  unfold mergeK
  simp only [List.foldl]
  rw [e1, List.nil_append, e2, List.cons_append, List.nil_append, e3, List.cons_append, List.cons_append, List.nil_append, e4]
  rfl
structure JarX (H : Hp) (p c : Addr) (ns : List Int) (r sd tn : Int) : Prop where
  d : H p = some (.dK (jarKV c r sd tn))
  l : H c = some (.lst (ns.map V.int))
theorem JarX.ne {H : Hp} {p c : Addr} {ns : List Int} {r sd tn : Int} (J : JarX H p c ns r sd tn) : p ≠ c := ne_of J.d J.l (by intro z; cases z)
theorem JarX.new {H : Hp} {p c l : Addr} {ns : List Int} {r sd tn : Int} {o : HO} (J : JarX H p c ns r sd tn) (h : H l = none) : JarX (upd H l o) p c ns r sd tn :=
  ⟨by rw [upd_ne (ne_of_none J.d h)]; exact J.d, by rw [upd_ne (ne_of_none J.l h)]; exact J.l⟩
theorem JarX.put {H : Hp} {p c : Addr} {ns : List Int} {r sd tn : Int} (J : JarX H p c ns r sd tn) (r' sd' tn' : Int) : JarX (upd H p (.dK (jarKV c r' sd' tn'))) p c ns r' sd' tn' :=
  ⟨upd_same, by rw [upd_ne (Ne.symm J.ne)]; exact J.l⟩
theorem JarX.cut {H : Hp} {p c : Addr} {ns : List Int} {r sd tn : Int} (J : JarX H p c ns r sd tn) (ms : List Int) : JarX (upd H c (.lst (ms.map V.int))) p c ms r sd tn :=
  ⟨by rw [upd_ne J.ne]; exact J.d, upd_same⟩
theorem JarX.cells {H : Hp} {p c : Addr} {ns : List Int} {r sd tn : Int} (J : JarX H p c ns r sd tn) : DGet H p (V.str "cells") (some (V.ref c)) := by rw [← jar_cells c r sd tn]; exact DGet.k (k := Sum.inr "cells") J.d
theorem JarX.rest {H : Hp} {p c : Addr} {ns : List Int} {r sd tn : Int} (J : JarX H p c ns r sd tn) : DGet H p (V.str "rest") (some (V.int r)) := by rw [← jar_rest c r sd tn]; exact DGet.k (k := Sum.inr "rest") J.d
theorem JarX.seed {H : Hp} {p c : Addr} {ns : List Int} {r sd tn : Int} (J : JarX H p c ns r sd tn) : DGet H p (V.str "seed") (some (V.int sd)) := by rw [← jar_seed c r sd tn]; exact DGet.k (k := Sum.inr "seed") J.d
theorem JarX.turn {H : Hp} {p c : Addr} {ns : List Int} {r sd tn : Int} (J : JarX H p c ns r sd tn) : DGet H p (V.str "turn") (some (V.int tn)) := by rw [← jar_turn c r sd tn]; exact DGet.k (k := Sum.inr "turn") J.d
theorem JarX.pRest {H : Hp} {p c : Addr} {ns : List Int} {r sd tn : Int} (J : JarX H p c ns r sd tn) (x : Int) : DPut H p (V.str "rest") (V.int x) (upd H p (.dK (jarKV c x sd tn))) := by rw [← jar_put_rest c r sd tn x]; exact DPut.k (k := Sum.inr "rest") J.d (by show 4 < sizeLine; decide)
theorem JarX.pSeed {H : Hp} {p c : Addr} {ns : List Int} {r sd tn : Int} (J : JarX H p c ns r sd tn) (x : Int) : DPut H p (V.str "seed") (V.int x) (upd H p (.dK (jarKV c r x tn))) := by rw [← jar_put_seed c r sd tn x]; exact DPut.k (k := Sum.inr "seed") J.d (by show 4 < sizeLine; decide)
theorem JarX.pTurn {H : Hp} {p c : Addr} {ns : List Int} {r sd tn : Int} (J : JarX H p c ns r sd tn) (x : Int) : DPut H p (V.str "turn") (V.int x) (upd H p (.dK (jarKV c r sd x))) := by rw [← jar_put_turn c r sd tn x]; exact DPut.k (k := Sum.inr "turn") J.d (by show 4 < sizeLine; decide)
theorem JarX.jar {H : Hp} {p c : Addr} {ns : List Int} {r sd tn : Int} (J : JarX H p c ns r sd tn) (h1 : ns.length ≤ 63) (h2 : 0 ≤ sd) (h3 : sd < 2 ^ 64) : Jar H p c := ⟨ns, r, sd, tn, J.d, J.l, h1, h2, h3⟩
theorem Jar.x {H : Hp} {p c : Addr} (J : Jar H p c) : ∃ ns r sd tn, JarX H p c ns r sd tn ∧ ns.length ≤ 63 ∧ 0 ≤ sd ∧ sd < 2 ^ 64 := by
  obtain ⟨ns, r, sd, tn, h1, h2, h3⟩ := J.ex
  exact ⟨ns, r, sd, tn, ⟨h1, h2⟩, h3⟩
theorem seqIndex_0 (n : Nat) : seqIndex? 0 (n + 1) = some 0 := by
  unfold seqIndex?
  simp
theorem seq_by {t u : TS} {D : Ends} {σ : L2.St} {H : Hp} (Mid : L2.St → Hp → Prop) (h1 : ∀ N : L2.St → Hp → Prop, (∀ σ' H', Mid σ' H' → N σ' H') → t { D with nx := N } σ H) (h2 : ∀ σ' H', Mid σ' H' → u D σ' H') : tSeq t u D σ H := h1 _ h2
def spMix : Sp := fun vs H Q _ => ∃ n : Int, vs = [.int n] ∧ 0 ≤ n ∧ n < 2 ^ 64 ∧ ∀ r : Int, 0 ≤ r → r < 2 ^ 64 → Q (.int r) H
def spJar (K : PySem.W.Frag) : Sp := fun vs H Q _ => ∃ (a : Addr) (ns : List Int), vs = [.ref a] ∧ SqL K H a (ns.map V.int) ∧ ns.length ≤ 63 ∧ ∀ p c H', Kp [] H H' → H p = none → H c = none → Jar H' p c → Q (.ref p) H'
def spPick : Sp := fun vs H Q _ => ∃ (p c : Addr) (many : Int), vs = [.ref p, .int many] ∧ Jar H p c ∧ 0 < many ∧ many < 2 ^ 9000 ∧ ∀ (r : Int) (H' : Hp), 0 ≤ r → r < many → Jar H' p c → Kp [p, c] H H' → Q (.int r) H'
theorem cutV_ints (ns : List Int) (lo hi : Option Int) : ∃ ms : List Int, cutV (ns.map V.int) lo hi = ms.map V.int ∧ ms.length ≤ ns.length := by
  unfold cutV
  refine ⟨_, by rw [← List.map_drop, ← List.map_take], ?_⟩
  rw [List.length_take, List.length_drop]
  omega
theorem canLay_ints : ∀ ns : List Int, PyData.canLayAll0 (ns.map PyData.int) = true
  | [] => rfl
  | n :: r => by rw [List.map_cons]; unfold PyData.canLayAll0; rw [canLay_ints r]; rfl
theorem eqv_nil : ∀ ns : List Int, PyData.eqv (.list (ns.map PyData.int)) (.list []) = ns.isEmpty
  | [] => rfl
  | _ :: _ => rfl
end My

namespace My
open PySem PySem.Spec PyProof.Rows L2
mutual
theorem Rep.mono {ex ex' : List Addr} {H : Hp} (h : ∀ b ∈ ex, b ∈ ex') : ∀ {d : PyData} {v : V}, Rep ex' H d v → Rep ex H d v
  | _, _, .none => .none
  | _, _, .bool b => .bool b
  | _, _, .int i => .int i
  | _, _, .str x => .str x
  | _, _, .tuple e n z r => .tuple e (fun q => n (h _ q)) z (Reps.mono h r)
  | _, _, .list e n z r => .list e (fun q => n (h _ q)) z (Reps.mono h r)
theorem Reps.mono {ex ex' : List Addr} {H : Hp} (h : ∀ b ∈ ex, b ∈ ex') : ∀ {ds : List PyData} {vs : List V}, Reps ex' H ds vs → Reps ex H ds vs
  | _, _, .nil => .nil
  | _, _, .cons r t => .cons (Rep.mono h r) (Reps.mono h t)
end
theorem at_P {P : Int → Prop} (ns : List Int) {i : Int} (h : ∀ n ∈ ns, P n) (h0 : 0 ≤ i) (h1 : i < ns.length) : ∃ n, atI (ns.map V.int) i = some (V.int n) ∧ P n := by
  have hk : i.toNat < ns.length := by omega
  have e : i = ((i.toNat : Nat) : Int) := by omega
  refine ⟨ns[i.toNat], ?_, h _ (List.getElem_mem hk)⟩
  have q : atI (ns.map V.int) ((i.toNat : Nat) : Int) = some (V.int ns[i.toNat]) := atI_nat (by rw [List.getElem?_map, List.getElem?_eq_getElem hk]; rfl)
  rw [← e] at q
  exact q
theorem Rep.newT {ex : List Addr} {H : Hp} {ds : List PyData} {xs : List V} {t : Addr} (r : Reps ex H ds xs) (h : H t = none) (hn : t ∉ ex) (z : xs.length ≤ sizeLine) : Rep ex (upd H t (.tup xs)) (.tuple ds) (.ref t) :=
  .tuple upd_same hn z (r.keep (Kp.new h _))
theorem Jar.new {H : Hp} {p c l : Addr} {o : HO} (J : Jar H p c) (h : H l = none) : Jar (upd H l o) p c := J.keep (Kp.new h _)
theorem Kp.free {H H' : Hp} {ex : List Addr} {l : Addr} (k : Kp ex H H') (h : H' l = none) (hn : l ∉ ex) : H l = none := by
  cases e : H l with
  | none => rfl
  | some o => rw [k l o e hn] at h; cases h
theorem flat1 {α : Type} (n : Nat) (x : α) : (List.replicate n [x]).flatten = List.replicate n x := by
  induction n with
  | zero => rfl
  | succ n ih => rw [List.replicate_succ, List.flatten_cons, ih, List.replicate_succ]; rfl
theorem Jar.upd {H : Hp} {p c l : Addr} {o : HO} (J : Jar H p c) (h : l ∉ [p, c]) : Jar (L2.upd H l o) p c := by
  obtain ⟨ns, r, sd, tn, h1, h2, h3⟩ := J.ex
  refine ⟨ns, r, sd, tn, ?_, ?_, h3⟩
  · rw [upd_ne (fun z => h (by rw [← z]; simp))]; exact h1
  · rw [upd_ne (fun z => h (by rw [← z]; simp))]; exact h2
def spLaw (K : PySem.W.Frag) : Sp := fun vs H Q _ => ∃ (a : Addr) (ns : List Int), vs = [.ref a] ∧ SqL K H a (ns.map V.int) ∧ ns.length ≤ 63 ∧ ∀ H', Q (.bl true) H'
theorem small4 {α : Type} {l : List α} (h : l.length ≤ 1000) : l.length ≤ sizeLine := Nat.le_of_lt (small1000 h)
end My

namespace L2
open PySem PySem.Spec PyProof.Rows
theorem assign_sub_gen (o i : Expr) (pos : Pos) (env : Env) (v : Value) : assign (.Subscript o i pos) env v = (do
      let ov ← holding [v] (eval o env)
      let iv ← holding [v, ov] (eval i env)
      standAt pos
      holding [v, ov, iv] (setItem ov iv v)
      release (match i with | .Slice _ _ none _ => [iv, v, ov] | _ => [v, ov, iv]) []) := rfl
theorem assign_sub_name (o : Expr) (x : Str) (p pos : Pos) (env : Env) (v : Value) : assign (.Subscript o (.Name x p) pos) env v = (do
      let ov ← holding [v] (eval o env)
      let iv ← holding [v, ov] (eval (.Name x p) env)
      standAt pos
      holding [v, ov, iv] (setItem ov iv v)
      release [v, ov, iv] []) := assign_sub_gen _ _ _ _ _
section
variable {X : Cx} {es : List Expr} {te : TE} {t : TA} {pos : Pos}
theorem pa_tuple {xs : List Expr} {k : Nat} (ha : PE X (.Tuple xs k pos) te) (hr : PA X es t) : PA X (.Tuple xs k pos :: es) (tCons te t) := pa_cons ha hr rfl
theorem pa_const {k : Const} {j : Nat} (ha : PE X (.Constant k j pos) te) (hr : PA X es t) : PA X (.Constant k j pos :: es) (tCons te t) := pa_cons ha hr rfl
theorem pa_name {x : Str} (ha : PE X (.Name x pos) te) (hr : PA X es t) : PA X (.Name x pos :: es) (tCons te t) := pa_cons ha hr rfl
theorem pa_call {f : Expr} {xs : List Expr} {ks : List Keyword} (ha : PE X (.Call f xs ks pos) te) (hr : PA X es t) : PA X (.Call f xs ks pos :: es) (tCons te t) := pa_cons ha hr rfl
theorem pa_binop {a b : Expr} {op : Operator} (ha : PE X (.BinOp a op b pos) te) (hr : PA X es t) : PA X (.BinOp a op b pos :: es) (tCons te t) := pa_cons ha hr rfl
theorem pa_unary {a : Expr} {op : UnaryOp} (ha : PE X (.UnaryOp op a pos) te) (hr : PA X es t) : PA X (.UnaryOp op a pos :: es) (tCons te t) := pa_cons ha hr rfl
theorem pa_cmp {a : Expr} {ops : List CmpOp} {bs : List Expr} (ha : PE X (.Compare a ops bs pos) te) (hr : PA X es t) : PA X (.Compare a ops bs pos :: es) (tCons te t) := pa_cons ha hr rfl
theorem pa_sub {a b : Expr} (ha : PE X (.Subscript a b pos) te) (hr : PA X es t) : PA X (.Subscript a b pos :: es) (tCons te t) := pa_cons ha hr rfl
theorem pa_comp {e : Expr} {gs : List Comprehension} {sc : Scope} (ha : PE X (.ListComp e gs sc pos) te) (hr : PA X es t) : PA X (.ListComp e gs sc pos :: es) (tCons te t) := pa_cons ha hr rfl
end
structure PEs (X : Cx) (e : Expr) (t : TE) : Prop where
  out : PE X e t
structure PAs (X : Cx) (es : List Expr) (t : TA) : Prop where
  out : PA X es t
section
variable {X : Cx} {es : List Expr} {te : TE} {t : TA} {pos : Pos}
theorem pes_of {e : Expr} (h : PE X e te) : PEs X e te := ⟨h⟩
theorem pes_tup {k : Nat} (h : PAs X es t) : PEs X (.Tuple es k pos) (tTup t) := ⟨pe_tup h.out⟩
theorem pes_lst (h : PAs X es t) : PEs X (.List es pos) (tLst t) := ⟨pe_lst h.out⟩
theorem pes_int {i : Int} {j : Nat} : PEs X (.Constant (.int i) j pos) (tC (.int i)) := ⟨pe_int⟩
theorem pas_nil : PAs X [] tNil := ⟨pa_nil⟩
theorem pas_const {k : Const} {j : Nat} (ha : PEs X (.Constant k j pos) te) (hr : PAs X es t) : PAs X (.Constant k j pos :: es) (tCons te t) := ⟨pa_const ha.out hr.out⟩
theorem pas_name {x : Str} (ha : PEs X (.Name x pos) te) (hr : PAs X es t) : PAs X (.Name x pos :: es) (tCons te t) := ⟨pa_name ha.out hr.out⟩
theorem pas_call {f : Expr} {xs : List Expr} {ks : List Keyword} (ha : PEs X (.Call f xs ks pos) te) (hr : PAs X es t) : PAs X (.Call f xs ks pos :: es) (tCons te t) := ⟨pa_call ha.out hr.out⟩
theorem pas_binop {a b : Expr} {op : Operator} (ha : PEs X (.BinOp a op b pos) te) (hr : PAs X es t) : PAs X (.BinOp a op b pos :: es) (tCons te t) := ⟨pa_binop ha.out hr.out⟩
theorem pas_unary {a : Expr} {op : UnaryOp} (ha : PEs X (.UnaryOp op a pos) te) (hr : PAs X es t) : PAs X (.UnaryOp op a pos :: es) (tCons te t) := ⟨pa_unary ha.out hr.out⟩
end
end L2
namespace L2
open PySem PySem.Spec PyProof.Rows
theorem def_mk {K : PySem.W.Frag} {h : Heap} {mg : Str → Option Value} {x : Str} {st : Stmt} {ps : List Str} {f : Addr} {oc : Value} {od an : Option Addr} {osl : Array (Option Value)} {kV doc pm cdv ct : Value} (X : K.In h) (G : h.Ns mainGlobals mg)
    (a : PySem.W.nsIn K mainGlobals x = some (some (.ref f))) (l : K.lookup f = some ⟨oc, od, .func (PySem.W.fnOf x x (defArgs st) (defBody st) (defScope st) .none kV doc pm an cdv ct), osl⟩) (c : PySem.W.codeIn K cdv x = true) (k : PySem.W.keepIn K (.ref f) = true)
    (hb : ∀ (kV doc pm : Value) (an : Option Addr) (cdv ct : Value) (us : List Value), us.length = ps.length → bindArgs (PySem.W.fnOf x x (defArgs st) (defBody st) (defScope st) .none kV doc pm an cdv ct) ⟨us, []⟩ = pure (ps.zip us)) : Def K mg x st ps :=
  ⟨f, _, PySem.W.mg_of X G a, fun_mk (st := st) l c k, (fun_mk (st := st) l c k).binds hb⟩
end L2

namespace My
open PySem PySem.Spec PyProof.Rows L2
structure Way where
  a : Int
  b : Int
  g : List Int
def wayPD (w : Way) : PyData := .tuple [.int w.a, .int w.b, .tuple (w.g.map PyData.int)]
def bookPD (R P : Int) (ws : List Way) : PyData := .tuple [.int R, .int P, .tuple (ws.map wayPD)]
structure WayOk (R P : Int) (w : Way) : Prop where
  a0 : 0 ≤ w.a
  a1 : w.a < R
  b0 : 0 ≤ w.b
  b1 : w.b < R
  len : (w.g.length : Int) = P
  small : ∀ x ∈ w.g, -99 ≤ x ∧ x ≤ 99
structure BookOk (R P : Int) (ws : List Way) : Prop where
  r0 : 1 ≤ R
  r1 : R ≤ 12
  p0 : 1 ≤ P
  p1 : P ≤ 6
  len : ws.length ≤ 60
  ways : ∀ w ∈ ws, WayOk R P w
def spGain : Sp := fun vs H Q _ => ∃ (p c : Addr), vs = [.ref p] ∧ Jar H p c ∧ ∀ (r : Int) (H' : Hp), -99 ≤ r → r ≤ 99 → Jar H' p c → Kp [p, c] H H' → Q (.int r) H'
def spBookD : Sp := fun vs H Q _ => ∃ (p c : Addr) (mr mw : Int), vs = [.ref p, .int mr, .int mw] ∧ Jar H p c ∧ (1 ≤ mr ∧ mr ≤ 12) ∧ (0 ≤ mw ∧ mw ≤ 60) ∧
  ∀ (R P : Int) (ws : List Way) (v : V) (H' : Hp), BookOk R P ws → (ws.length : Int) ≤ mw → Jar H' p c → Kp [p, c] H H' → Rep [p, c] H' (bookPD R P ws) v → Q v H'
theorem small9000 {n : Int} (h : n ≤ 100000) : n < 2 ^ 9000 := Int.lt_of_le_of_lt h (by decide +kernel)
theorem not_mem3 {p c l t : Addr} {H : Hp} {o : HO} (J : Jar H p c) (hl : H l = some o) (ht : H t = none) : t ∉ [p, c, l] := by
  intro z
  rcases List.mem_cons.mp z with z | z
  · exact J.fresh ht (by rw [z]; simp)
  · rcases List.mem_cons.mp z with z | z
    · exact J.fresh ht (by rw [z]; simp)
    · rw [List.mem_singleton.mp z, hl] at ht; cases ht
end My

namespace L2
open PySem PySem.Spec PyProof.Rows
section
variable {prog : Program} {w : World} {A : Around} {E : Value → Shared → Prop} {s : Shared}
theorem nextT_item {j t : Addr} {i : Nat} {vs : Array Value} {y : Value} {Q : Value → Shared → Prop} (g : s.heap.IsTupleIter j t i) (gt : s.heap.IsTuple t vs) (gy : vs[i]? = some y)
    (q : ∀ h', h'.IsTupleIter j t (i + 1) → Heap.SameBut j s.heap h' → Q y { s with heap := h' }) : wpAny (model prog w) A (Builtin.SmallTypes.nextOf (.ref j)) Q E s := by
  obtain ⟨oj, e1, e2, e3⟩ := id g
  obtain ⟨ot, e4, _, n4, e5⟩ := gt
  have goal2 : wpAny (model prog w) A.in1 (Builtin.«tuple_iterator.__next__» ⟨[.ref j], []⟩) (fun fin s' => ∃ v, fin = .done (.ret v) ∧ wpAny (model prog w) A (pure v) Q E s') E s := by
    show wpAny _ _ (field (.ref j) 0 >>= _) _ _ s
    refine wpAny_bind (wpAny_field e1 e3 (x := .ref t) rfl ?_)
    show wpAny _ _ (if (Value.ref t == Value.none) = true then _ else _) _ _ s; rw [if_neg (show ¬ ((Value.ref t == Value.none) = true) from fun z => Bool.noConfusion z)]
    show wpAny _ _ (field (.ref j) 1 >>= _) _ _ s
    refine wpAny_bind (wpAny_field e1 e3 (x := .int i 0) rfl ?_)
    show wpAny _ _ (seqItems? (.ref t) >>= _) _ _ s
    refine wpAny_bind (wpAny_seqItems e4 e5 ?_)
    simp only [Int.toNat_natCast, gy]
    refine wpAny_bind (wpAny_setField e1 e3 (by simp) (wpAny_pure ⟨y, rfl, wpAny_pure (q _ ⟨_, Heap.get?_update_self _ e1 (Obj.isFreed_of_fields (Obj.data_mapFields e3 _)), (Obj.cls_mapFields ..).trans e2, ?_⟩ (Heap.SameBut.update ..))⟩))
    rw [Obj.data_mapFields e3]; simp [rawInt]
  unfold Builtin.SmallTypes.nextOf
  exact wpAny_bind (wpAny_callSpecial?_slot (name := Str.ofString "__next__") g.typeIs F.slot_tuple_iterator_next (wpAny_call_entry F.slot_tuple_iterator_next g.typeIs F.entry_tuple_iterator_next goal2 (F.args_tuple_iterator_next_1 _)))
theorem nextT_end {j t : Addr} {i : Nat} {vs : Array Value} {Q : Value → Shared → Prop} (hh : A.handled = none) (g : s.heap.IsTupleIter j t i) (gt : s.heap.IsTuple t vs) (gy : vs[i]? = none)
    (q : ∀ h' e, Heap.ExtBut j s.heap h' → (∃ o, h'.get? e = some o ∧ o.cls = .type "StopIteration") → E (.ref e) { s with heap := h' }) : wpAny (model prog w) A (Builtin.SmallTypes.nextOf (.ref j)) Q E s := by
  obtain ⟨oj, e1, e2, e3⟩ := id g
  obtain ⟨ot, e4, _, n4, e5⟩ := gt
  unfold Builtin.SmallTypes.nextOf
  refine wpAny_bind (wpAny_callSpecial?_slot (name := Str.ofString "__next__") g.typeIs F.slot_tuple_iterator_next (wpAny_call_entry F.slot_tuple_iterator_next g.typeIs F.entry_tuple_iterator_next ?_ (F.args_tuple_iterator_next_1 _)))
  show wpAny _ _ (field (.ref j) 0 >>= _) _ _ s
  refine wpAny_bind (wpAny_field e1 e3 (x := .ref t) rfl ?_)
  show wpAny _ _ (if (Value.ref t == Value.none) = true then _ else _) _ _ s; rw [if_neg (show ¬ ((Value.ref t == Value.none) = true) from fun z => Bool.noConfusion z)]
  show wpAny _ _ (field (.ref j) 1 >>= _) _ _ s
  refine wpAny_bind (wpAny_field e1 e3 (x := .int i 0) rfl ?_)
  show wpAny _ _ (seqItems? (.ref t) >>= _) _ _ s
  refine wpAny_bind (wpAny_seqItems e4 e5 ?_)
  simp only [Int.toNat_natCast, gy]
  refine wpAny_bind (wpAny_rule (wpAny_bind (wpAny_setField e1 e3 (by simp) ?_)))
  show wpAny _ _ (newExc (.type "StopIteration") [] >>= _) _ _ _; refine wpAny_bind ?_; simp only [newExc, newTuple]
  refine wpAny_bind (wpAny_newObj_type ?_ (by size_fits)); refine wpAny_bind (m := firstArgMember _ _) (wpAny_of_eq (a := Value.none) (by first | rfl | (simp only [firstArgMember]; rfl)) ?_); refine wpAny_newObj_type ?_ (by size_fits)
  simp only [raiseNew]; refine wpAny_bind (wpAny_handled ?_); first | rw [show A.in1.handled = none from hh] | rw [hh]
  refine wpAny_bind (wpAny_pure (wpAny_throw (q _ _ (((Heap.SameBut.update ..).extBut.push _).push _) ⟨_, Heap.get?_push_size _ rfl, rfl⟩)))
end
def SqAt (b : Bool) (h : Heap) (a : Addr) (vs : Array Value) : Prop := match b with | true => h.IsTuple a vs | false => h.IsList a vs
def ItAt (b : Bool) (h : Heap) (j a : Addr) (i : Nat) : Prop := match b with | true => h.IsTupleIter j a i | false => h.IsListIter j a i
theorem SqAt.at {b : Bool} {h h' : Heap} {a : Addr} {vs : Array Value} (x : SqAt b h a vs) (k : ∀ o, h.get? a = some o → h'.get? a = some o) : SqAt b h' a vs := by
  cases b with
  | true => exact let ⟨o, e, r⟩ := x; ⟨o, k o e, r⟩
  | false => exact let ⟨o, e, r⟩ := x; ⟨o, k o e, r⟩
theorem ItAt.at {b : Bool} {h h' : Heap} {j a : Addr} {i : Nat} (x : ItAt b h j a i) (k : ∀ o, h.get? j = some o → h'.get? j = some o) : ItAt b h' j a i := by
  cases b with
  | true => exact let ⟨o, e, r⟩ := x; ⟨o, k o e, r⟩
  | false => exact let ⟨o, e, r⟩ := x; ⟨o, k o e, r⟩
theorem ItAt.obj {b : Bool} {h : Heap} {j a : Addr} {i : Nat} (x : ItAt b h j a i) : ∃ o, h.get? j = some o ∧ ∀ v, o.data ≠ .cell v := by
  cases b with
  | true => exact let ⟨o, e, _, d⟩ := x; ⟨o, e, fun v z => by rw [d] at z; cases z⟩
  | false => exact let ⟨o, e, _, d⟩ := x; ⟨o, e, fun v z => by rw [d] at z; cases z⟩
theorem draws_of {prog : Program} {w : World} {A : Around} (b : Bool) (hh : A.handled = none) (j a : Addr) (hne : a ≠ j) (vs : Array Value) :
    Draws prog w A j [j, a] vs.size (fun i v => vs[i]? = some v) (fun i h => ItAt b h j a i ∧ SqAt b h a vs) := by
  cases b with
  | false => exact Draws.list hh j a hne vs
  | true => exact {
      live := fun _ _ st => let ⟨o, ho, _⟩ := st.1; ⟨o, ho⟩
      frame := fun _ _ _ st hk => ⟨ItAt.at (b := true) st.1 fun o e => hk j (by simp) o e, SqAt.at (b := true) st.2 fun o e => hk a (by simp) o e⟩
      item := fun i s Q E hi st hQ => by
        have e : vs[i]? = some vs[i] := by simp [hi]
        exact nextT_item st.1 st.2 e fun h' g' sb => hQ _ h' s.toks e ⟨g', SqAt.at (b := true) st.2 fun o z => (sb.2 a hne).trans z⟩ sb
      done := fun s Q E st hE => nextT_end hh st.1 st.2 (by simp) hE }
section
open AutoSeq1 (wpAny_loadPart')
theorem enumT_new (l : Addr) (vs : Array Value) (n : Nat) (dc : Option Addr) (sl : Array (Option Value)) :
    Meets (Builtin.«enumerate.__new__» ⟨[.type "enumerate", .ref l], []⟩) (fun _ R s => s.heap.get? l = some { cls := .type "tuple", dict := dc, data := .seq vs n, slots := sl } ∧
      R (.ok (.ret (.ref (s.heap.push { cls := .type "tuple_iterator", data := .fields #[.ref l, .int 0 0] }).objs.size)))
        { s with heap := (s.heap.push { cls := .type "tuple_iterator", data := .fields #[.ref l, .int 0 0] }).push { cls := .type "enumerate", data := .fields #[.none, .bool false, .ref s.heap.objs.size, rawInt 0, .none, .none] } }) :=
  .of_wp fun prog w A R s h => by
    obtain ⟨hp, g, d, tk, os⟩ := s; obtain ⟨hl, h⟩ := h; have hsub := sub_enumerate
    have hL : Heap.IsTuple (Shared.heap ⟨hp, g, d, tk, os⟩) l vs := ⟨_, hl, rfl, n, rfl⟩
    wp_walk using wpAny_loadPart' hl
    refine wpAny_stack_any fun st => wpAny_pure ?_
    split
    · rename_i c _ _ _ _ _
      cases (c == Value.type "enumerate") <;> (wp_walk using wpAny_loadPart' hl, wpAny_pyIter_tuple hL; exact ⟨_, rfl, h⟩)
    · wp_walk using wpAny_loadPart' hl, wpAny_pyIter_tuple hL
      exact ⟨_, rfl, h⟩
end
theorem call_enum {prog : Program} {w : World} {A : Around} {E : Value → Shared → Prop} {s : Shared} (b : Bool) {l : Addr} {vs : Array Value} {Q : Value → Shared → Prop} (x : SqAt b s.heap l vs)
    (q : ∀ h', IsEnum h' (s.heap.objs.size + 1) s.heap.objs.size 0 .none → ItAt b h' s.heap.objs.size l 0 → h'.objs.size = s.heap.objs.size + 2 →
      (∀ c o, s.heap.get? c = some o → h'.get? c = some o) → Q (.ref (s.heap.objs.size + 1)) { s with heap := h' }) :
    wpAny (model prog w) A (call (.type "enumerate") [.ref l]) Q E s := by
  cases b with
  | false => exact call_enumerate_list x q
  | true =>
    obtain ⟨⟨c, dc, dt, sl⟩, hl, hc, n, hd⟩ := x
    replace hc : c = .type "tuple" := hc
    replace hd : dt = .seq vs n := hd
    subst hc hd
    refine callType_new F.called_enumerate (by decide) (F.typeCall_enumerate_1 _) (F.newCall_enumerate_1 _) (fun obj => F.args_object_init_2 obj _) F.entry_enumerate_new (enumT_new l vs n dc sl) ⟨hl, ?_⟩
    have hz : (s.heap.push { cls := .type "tuple_iterator", data := .fields #[.ref l, .int 0 0] }).objs.size = s.heap.objs.size + 1 := Heap.size_push ..
    show _ ∧ _
    rw [hz]
    have he : IsEnum ((s.heap.push { cls := .type "tuple_iterator", data := .fields #[.ref l, .int 0 0] }).push { cls := .type "enumerate", data := .fields #[.none, .bool false, .ref s.heap.objs.size, rawInt 0, .none, .none] }) (s.heap.objs.size + 1) s.heap.objs.size 0 .none := by
      have z := Heap.get?_push_size (s.heap.push { cls := .type "tuple_iterator", data := .fields #[.ref l, .int 0 0] }) (o := { cls := .type "enumerate", data := .fields #[.none, .bool false, .ref s.heap.objs.size, rawInt 0, .none, .none] }) rfl
      rw [hz] at z; exact z
    exact ⟨⟨_, he, rfl⟩, q _ he ⟨_, Heap.get?_push_of_some _ (Heap.get?_push_size _ rfl), rfl, rfl⟩ (by rw [Heap.size_push, hz]) fun c o y => Heap.get?_push_of_some _ (Heap.get?_push_of_some _ y)⟩
def itObj (b : Bool) (l : Addr) : Obj := { cls := .type (match b with | true => "tuple_iterator" | false => "list_iterator"), data := .fields #[.ref l, .int 0 0] }
theorem itObj_at {b : Bool} {h : Heap} {j l : Addr} (e : h.get? j = some (itObj b l)) : ItAt b h j l 0 := by
  cases b with
  | true => exact ⟨_, e, rfl, rfl⟩
  | false => exact ⟨_, e, rfl, rfl⟩
theorem pyIter_itObj {prog : Program} {w : World} {A : Around} {E : Value → Shared → Prop} {s : Shared} {b : Bool} {a : Addr} {vs : Array Value} {Q : Value → Shared → Prop} (x : SqAt b s.heap a vs)
    (q : Q (.ref s.heap.objs.size) { s with heap := s.heap.push (itObj b a) }) : wpAny (model prog w) A (pyIter (.ref a)) Q E s := by
  cases b with
  | true => exact wpAny_pyIter_tuple x q
  | false => exact wpAny_pyIter_list x q
abbrev zz1 (b : Bool) (h : Heap) (l : Addr) : Heap := h.push (itObj b l)
abbrev zz2 (b b' : Bool) (h : Heap) (l m : Addr) : Heap := (zz1 b h l).push (itObj b' m)
abbrev zz3 (b b' : Bool) (h : Heap) (l m : Addr) : Heap := (zz2 b b' h l m).push { cls := .type "tuple", data := .seq #[.ref h.objs.size, .ref (zz1 b h l).objs.size] }
abbrev zz4 (b b' : Bool) (h : Heap) (l m : Addr) : Heap := (zz3 b b' h l m).push { cls := .type "tuple", data := .seq #[.none, .none] }
abbrev zz5 (b b' : Bool) (h : Heap) (l m : Addr) : Heap := (zz4 b b' h l m).push { cls := .type "zip", data := .fields #[.none, .bool false, .bool false, .ref (zz2 b b' h l m).objs.size, .ref (zz3 b b' h l m).objs.size] }
theorem zip_new (b b' : Bool) (l m : Addr) (xs ys : Array Value) :
    Meets (Builtin.«zip.__new__» ⟨[.type "zip", .ref l, .ref m], []⟩) (fun _ R s => SqAt b s.heap l xs ∧ SqAt b' s.heap m ys ∧
      R (.ok (.ret (.ref (zz4 b b' s.heap l m).objs.size))) { s with heap := zz5 b b' s.heap l m }) :=
  .of_wp fun prog w A R s h => by
    obtain ⟨hp, g, d, tk, os⟩ := s; obtain ⟨x1, x2, h⟩ := h
    have hsub := sub_zip
    have x1' : SqAt b (Shared.heap ⟨hp, g, d, tk, os⟩) l xs := x1
    have x2' : SqAt b' (Shared.heap ⟨hp.push (itObj b l), g, d, tk, os⟩) m ys := SqAt.at x2 fun o e => Heap.get?_push_of_some _ e
    wp_walk using pyIter_itObj x1', pyIter_itObj x2'
    exact ⟨_, rfl, h⟩
end L2

namespace L2
open PySem PySem.Spec PyProof.Rows
structure ZApart (z TI TO j1 j2 : Addr) (f1 f2 : List Addr) : Prop where
  m1 : j1 ∈ f1
  m2 : j2 ∈ f2
  z1 : z ∉ f1
  z2 : z ∉ f2
  o1 : TO ∉ f1
  o2 : TO ∉ f2
  q1 : j1 ∉ f2
  q2 : j2 ∉ f1
  iz : TI ≠ z
  io : TI ≠ TO
  i1 : TI ≠ j1
  i2 : TI ≠ j2
  oz : TO ≠ z
theorem ZApart.j1z {z TI TO j1 j2 : Addr} {f1 f2 : List Addr} (D : ZApart z TI TO j1 j2 f1 f2) : j1 ≠ z := fun e => D.z1 (e ▸ D.m1)
theorem ZApart.j2z {z TI TO j1 j2 : Addr} {f1 f2 : List Addr} (D : ZApart z TI TO j1 j2 f1 f2) : j2 ≠ z := fun e => D.z2 (e ▸ D.m2)
theorem ZApart.j1o {z TI TO j1 j2 : Addr} {f1 f2 : List Addr} (D : ZApart z TI TO j1 j2 f1 f2) : j1 ≠ TO := fun e => D.o1 (e ▸ D.m1)
theorem ZApart.j2o {z TI TO j1 j2 : Addr} {f1 f2 : List Addr} (D : ZApart z TI TO j1 j2 f1 f2) : j2 ≠ TO := fun e => D.o2 (e ▸ D.m2)
theorem ne_mem {a b : Addr} {l : List Addr} (h : a ∉ l) (hb : b ∈ l) : b ≠ a := fun e => h (e ▸ hb)
section
variable {prog : Program} {w : World} {A : Around} {E : Value → Shared → Prop} {s : Shared} {z TI TO j1 j2 : Addr} {f1 f2 : List Addr} {n1 n2 i : Nat} {P1 P2 : Nat → Value → Prop} {St1 St2 : Nat → Heap → Prop} {a b : Value}
theorem zipD_item {Q : Value → Shared → Prop} (D : ZApart z TI TO j1 j2 f1 f2) (D1 : Draws prog w A j1 f1 n1 P1 St1) (D2 : Draws prog w A j2 f2 n2 P2 St2) (hz : IsZip s.heap z TI TO .none) (hI : IsPair s.heap TI (.ref j1) (.ref j2)) (hO : IsPair s.heap TO a b)
    (st1 : St1 i s.heap) (st2 : St2 i s.heap) (l1 : i < n1) (l2 : i < n2)
    (q : ∀ x y h' tk, P1 i x → P2 i y → IsZip h' z TI TO (rawInt s.heap.objs.size) → IsPair h' TO x y → St1 (i + 1) h' → St2 (i + 1) h' → IsPair h' s.heap.objs.size x y → h'.objs.size = s.heap.objs.size + 1 →
      (∀ c o, c ≠ z → c ≠ TO → c ≠ j1 → c ≠ j2 → s.heap.get? c = some o → h'.get? c = some o) → Q (.ref s.heap.objs.size) { s with heap := h', toks := tk }) :
    wpAny (model prog w) A (Builtin.«zip.__next__» ⟨[.ref z], []⟩) (fun fin s' => ∃ v, fin = .done (.ret v) ∧ Q v s') E s := by
  obtain ⟨hp, gg, dd, t0, os⟩ := s
  show wpAny _ _ (field (.ref z) 2 >>= _) _ _ _; refine wpAny_bind (wpAny_field hz rfl (x := .bool false) rfl ?_)
  show wpAny _ _ (field (.ref z) 3 >>= _) _ _ _; refine wpAny_bind (wpAny_field hz rfl (x := .ref TI) rfl ?_)
  refine wpAny_bind (wpAny_seqItems hI rfl ?_)
  show wpAny _ _ (Builtin.SmallTypes.ownedTupleIsFree (.ref z) >>= _) _ _ _; refine wpAny_bind ?_; unfold Builtin.SmallTypes.ownedTupleIsFree
  refine wpAny_bind (wpAny_field hz rfl (x := .none) rfl (wpAny_pure ?_)); simp only [if_true]; refine wpAny_bind (wpAny_rule ?_)
  refine wpAny_bind (wpAny_field hz rfl (x := .ref TO) rfl ?_)
  refine wpAny_bind (wpAny_setField_rec hz (by simp) fun g1 z1 b1 => ?_); replace z1 : IsZip g1 z TI TO .ellipsis := z1; replace b1 : Heap.SameBut z hp g1 := b1
  refine wpAny_bind ?_; simp only [List.zipIdx_cons, List.zipIdx_nil, List.forIn_cons, List.forIn_nil]
  refine wpAny_bind (wpAny_bind (wpAny_onRaise ?_))
  show wpAny _ _ (Builtin.SmallTypes.nextOf (.ref j1) >>= _) _ _ _
  refine wpAny_bind (D1.item i _ _ _ l1 (D1.frame _ _ _ st1 fun c hc o e => b1.extBut c o (ne_mem D.z1 hc) e) fun x g2 t2 px s12 b2 => wpAny_pure ?_); replace b2 : Heap.SameBut j1 g1 g2 := b2
  have o2 : IsPair g2 TO a b := b2.extBut _ _ (Ne.symm D.j1o) (b1.extBut _ _ D.oz hO)
  refine wpAny_bind (wpAny_seqItems o2 rfl ?_)
  refine wpAny_bind (wpAny_updateSeq_pair o2 fun g3 o3 b3 => ?_); replace o3 : IsPair g3 TO x b := o3; replace b3 : Heap.SameBut TO g2 g3 := b3
  refine wpAny_bind (wpAny_letGo (wpAny_pure ?_)); refine wpAny_bind (wpAny_bind (wpAny_onRaise ?_))
  show wpAny _ _ (Builtin.SmallTypes.nextOf (.ref j2) >>= _) _ _ _
  refine wpAny_bind (D2.item i _ _ _ l2 (D2.frame _ _ _ st2 fun c hc o e => b3.extBut c o (ne_mem D.o2 hc) (b2.extBut c o (ne_mem D.q1 hc) (b1.extBut c o (ne_mem D.z2 hc) e))) fun y g4 t4 py s24 b4 => wpAny_pure ?_); replace b4 : Heap.SameBut j2 g3 g4 := b4
  have o4 : IsPair g4 TO x b := b4.extBut _ _ (Ne.symm D.j2o) o3
  refine wpAny_bind (wpAny_seqItems o4 rfl ?_)
  refine wpAny_bind (wpAny_updateSeq_pair o4 fun g5 o5 b5 => ?_); replace o5 : IsPair g5 TO x y := o5; replace b5 : Heap.SameBut TO g4 g5 := b5
  refine wpAny_bind (wpAny_letGo (wpAny_pure (wpAny_pure ?_)))
  refine wpAny_bind (wpAny_seqItems o5 rfl ?_); refine wpAny_bind (wpAny_newTuple ?_)
  have sz : g5.objs.size = hp.objs.size := by rw [b5.1, b4.1, b3.1, b2.1, b1.1]
  have z5 : IsZip g5 z TI TO .ellipsis := b5.extBut _ _ (Ne.symm D.oz) (b4.extBut _ _ (Ne.symm D.j2z) (b3.extBut _ _ (Ne.symm D.oz) (b2.extBut _ _ (Ne.symm D.j1z) z1)))
  have k5 : ∀ c o, c ≠ z → c ≠ TO → c ≠ j1 → c ≠ j2 → hp.get? c = some o → g5.get? c = some o := fun c o c1 c2 c3 c4 e => b5.extBut _ _ c2 (b4.extBut _ _ c4 (b3.extBut _ _ c2 (b2.extBut _ _ c3 (b1.extBut _ _ c1 e))))
  have s15 : St1 (i + 1) g5 := D1.frame _ _ _ s12 fun c hc o e => b5.extBut c o (ne_mem D.o1 hc) (b4.extBut c o (ne_mem D.q2 hc) (b3.extBut c o (ne_mem D.o1 hc) e))
  have s25 : St2 (i + 1) g5 := D2.frame _ _ _ s24 fun c hc o e => b5.extBut c o (ne_mem D.o2 hc) e
  have zl : z < g5.objs.size := Heap.lt_size z5
  show wpAny _ _ (Builtin.SmallTypes.ownedTupleHandOut (.ref z) (.ref g5.objs.size) >>= _) _ _ _; refine wpAny_bind ?_; unfold Builtin.SmallTypes.ownedTupleHandOut
  have z6 : IsZip (g5.push { cls := .type "tuple", data := .seq #[x, y] }) z TI TO .ellipsis := Heap.get?_push_of_some _ z5
  refine wpAny_bind (wpAny_setField_rec z6 (by simp) fun g7 z7 b7 => ?_); replace z7 : IsZip g7 z TI TO (rawInt g5.objs.size) := z7
  refine wpAny_setField_rec z7 (by simp) fun g8 z8 b8 => ?_; replace z8 : IsZip g8 z TI TO (rawInt g5.objs.size) := z8
  have up : ∀ c o, c ≠ z → g5.get? c = some o → g8.get? c = some o := fun c o c1 e => b8.extBut _ _ c1 (b7.extBut _ _ c1 (Heap.get?_push_of_some _ e))
  have t8 : IsPair g8 g5.objs.size x y := b8.extBut _ _ (Nat.ne_of_gt zl) (b7.extBut _ _ (Nat.ne_of_gt zl) (Heap.get?_push_size _ rfl))
  have s8 : g8.objs.size = g5.objs.size + 1 := by rw [b8.1, b7.1, Heap.size_push]
  rw [sz] at z8 t8 s8
  refine wpAny_pure ⟨_, rfl, ?_⟩; show Q (.ref g5.objs.size) _; rw [sz]
  exact q x y g8 t4 px py z8 (up _ _ D.oz o5) (D1.frame _ _ _ s15 fun c hc o e => up c o (ne_mem D.z1 hc) e) (D2.frame _ _ _ s25 fun c hc o e => up c o (ne_mem D.z2 hc) e) t8 s8 fun c o c1 c2 c3 c4 e => up c o c1 (k5 c o c1 c2 c3 c4 e)
theorem zipD_end {Q : Fin → Shared → Prop} (D : ZApart z TI TO j1 j2 f1 f2) (D1 : Draws prog w A j1 f1 n1 P1 St1) (D2 : Draws prog w A j2 f2 n2 P2 St2) (hz : IsZip s.heap z TI TO .none) (hI : IsPair s.heap TI (.ref j1) (.ref j2)) (hO : IsPair s.heap TO a b)
    (st1 : St1 i s.heap) (st2 : St2 i s.heap) (hend : i = n1 ∨ (i < n1 ∧ i = n2))
    (q : ∀ h' e tk, (∀ c o, c ≠ z → c ≠ TO → c ≠ j1 → c ≠ j2 → s.heap.get? c = some o → h'.get? c = some o) → (∃ o, h'.get? e = some o ∧ o.cls = .type "StopIteration") → E (.ref e) { s with heap := h', toks := tk }) :
    wpAny (model prog w) A (Builtin.«zip.__next__» ⟨[.ref z], []⟩) Q E s := by
  obtain ⟨hp, gg, dd, t0, os⟩ := s
  show wpAny _ _ (field (.ref z) 2 >>= _) _ _ _; refine wpAny_bind (wpAny_field hz rfl (x := .bool false) rfl ?_)
  show wpAny _ _ (field (.ref z) 3 >>= _) _ _ _; refine wpAny_bind (wpAny_field hz rfl (x := .ref TI) rfl ?_)
  refine wpAny_bind (wpAny_seqItems hI rfl ?_)
  show wpAny _ _ (Builtin.SmallTypes.ownedTupleIsFree (.ref z) >>= _) _ _ _; refine wpAny_bind ?_; unfold Builtin.SmallTypes.ownedTupleIsFree
  refine wpAny_bind (wpAny_field hz rfl (x := .none) rfl (wpAny_pure ?_)); simp only [if_true]; refine wpAny_bind (wpAny_rule ?_)
  refine wpAny_bind (wpAny_field hz rfl (x := .ref TO) rfl ?_)
  refine wpAny_bind (wpAny_setField_rec hz (by simp) fun g1 z1 b1 => ?_); replace z1 : IsZip g1 z TI TO .ellipsis := z1; replace b1 : Heap.SameBut z hp g1 := b1
  refine wpAny_bind ?_; simp only [List.zipIdx_cons, List.zipIdx_nil, List.forIn_cons, List.forIn_nil]
  refine wpAny_bind (wpAny_bind (wpAny_onRaise ?_))
  show wpAny _ _ (Builtin.SmallTypes.nextOf (.ref j1) >>= _) _ _ _
  have s11 := D1.frame _ _ _ st1 fun c hc o e => b1.extBut c o (ne_mem D.z1 hc) e
  rcases hend with he | ⟨l1, he⟩
  · subst he
    refine wpAny_bind (D1.done _ _ _ s11 fun g2 e b2 he => ?_)
    obtain ⟨oe, hoe, hce⟩ := he
    have z2 : IsZip g2 z TI TO .ellipsis := b2 _ _ (Ne.symm D.j1z) z1
    have ez : e ≠ z := fun x => by subst x; rw [z2] at hoe; cases hoe; simp at hce
    refine wpAny_setField_rec z2 (by simp) fun g3 _ b3 => ?_
    exact q g3 e t0 (fun c o c1 _ c3 _ x => b3.extBut _ _ c1 (b2 _ _ c3 (b1.extBut _ _ c1 x))) ⟨oe, b3.extBut _ _ ez hoe, hce⟩
  · subst he
    refine wpAny_bind (D1.item i _ _ _ l1 s11 fun x g2 t2 px s12 b2 => wpAny_pure ?_); replace b2 : Heap.SameBut j1 g1 g2 := b2
    have o2 : IsPair g2 TO a b := b2.extBut _ _ (Ne.symm D.j1o) (b1.extBut _ _ D.oz hO)
    refine wpAny_bind (wpAny_seqItems o2 rfl ?_)
    refine wpAny_bind (wpAny_updateSeq_pair o2 fun g3 o3 b3 => ?_); replace b3 : Heap.SameBut TO g2 g3 := b3
    refine wpAny_bind (wpAny_letGo (wpAny_pure ?_)); refine wpAny_bind (wpAny_bind (wpAny_onRaise ?_))
    show wpAny _ _ (Builtin.SmallTypes.nextOf (.ref j2) >>= _) _ _ _
    refine wpAny_bind (D2.done _ _ _ (D2.frame _ _ _ st2 fun c hc o e => b3.extBut c o (ne_mem D.o2 hc) (b2.extBut c o (ne_mem D.q1 hc) (b1.extBut c o (ne_mem D.z2 hc) e))) fun g4 e b4 he => ?_)
    obtain ⟨oe, hoe, hce⟩ := he
    have z4 : IsZip g4 z TI TO .ellipsis := b4 _ _ (Ne.symm D.j2z) (b3.extBut _ _ (Ne.symm D.oz) (b2.extBut _ _ (Ne.symm D.j1z) z1))
    have ez : e ≠ z := fun x => by subst x; rw [z4] at hoe; cases hoe; simp at hce
    refine wpAny_setField_rec z4 (by simp) fun g5 _ b5 => ?_
    exact q g5 e t2 (fun c o c1 c2 c3 c4 x => b5.extBut _ _ c1 (b4 _ _ c4 (b3.extBut _ _ c2 (b2.extBut _ _ c3 (b1.extBut _ _ c1 x))))) ⟨oe, b5.extBut _ _ ez hoe, hce⟩
theorem zipD_next_item {Q : Option Value → Shared → Prop} (D : ZApart z TI TO j1 j2 f1 f2) (D1 : Draws prog w A.in1 j1 f1 n1 P1 St1) (D2 : Draws prog w A.in1 j2 f2 n2 P2 St2) (hz : IsZip s.heap z TI TO .none) (hI : IsPair s.heap TI (.ref j1) (.ref j2)) (hO : IsPair s.heap TO a b)
    (st1 : St1 i s.heap) (st2 : St2 i s.heap) (l1 : i < n1) (l2 : i < n2)
    (q : ∀ x y h' tk, P1 i x → P2 i y → IsZip h' z TI TO (rawInt s.heap.objs.size) → IsPair h' TO x y → St1 (i + 1) h' → St2 (i + 1) h' → IsPair h' s.heap.objs.size x y → h'.objs.size = s.heap.objs.size + 1 →
      (∀ c o, c ≠ z → c ≠ TO → c ≠ j1 → c ≠ j2 → s.heap.get? c = some o → h'.get? c = some o) → Q (some (.ref s.heap.objs.size)) { s with heap := h', toks := tk }) :
    wpAny (model prog w) A (pyNext (.ref z)) Q E s := by
  have hT : s.TypeIs (.ref z) "zip" := ⟨_, hz, rfl⟩
  unfold pyNext
  exact wpAny_bind (wpAny_attempt (wpAny_callSpecial?_slot (name := Str.ofString "__next__") hT F.slot_zip_next (wpAny_call_entry F.slot_zip_next hT F.entry_zip_next
      (zipD_item D D1 D2 hz hI hO st1 st2 l1 l2 fun x y h' tk a1 a2 a3 a4 a5 a6 a7 a8 a9 => wpAny_pure (q x y h' tk a1 a2 a3 a4 a5 a6 a7 a8 a9)) (F.args_zip_next_1 _))))
theorem zipD_next_end {Q : Option Value → Shared → Prop} (D : ZApart z TI TO j1 j2 f1 f2) (D1 : Draws prog w A.in1 j1 f1 n1 P1 St1) (D2 : Draws prog w A.in1 j2 f2 n2 P2 St2) (hz : IsZip s.heap z TI TO .none) (hI : IsPair s.heap TI (.ref j1) (.ref j2)) (hO : IsPair s.heap TO a b)
    (st1 : St1 i s.heap) (st2 : St2 i s.heap) (hend : i = n1 ∨ (i < n1 ∧ i = n2))
    (q : ∀ h' tk, (∀ c o, c ≠ z → c ≠ TO → c ≠ j1 → c ≠ j2 → s.heap.get? c = some o → h'.get? c = some o) → Q none { s with heap := h', toks := tk }) : wpAny (model prog w) A (pyNext (.ref z)) Q E s := by
  have hT : s.TypeIs (.ref z) "zip" := ⟨_, hz, rfl⟩
  unfold pyNext
  refine wpAny_bind (wpAny_attempt (wpAny_callSpecial?_slot (name := Str.ofString "__next__") hT F.slot_zip_next (wpAny_call_entry F.slot_zip_next hT F.entry_zip_next (zipD_end D D1 D2 hz hI hO st1 st2 hend fun h' e tk hk he => ?_) (F.args_zip_next_1 _))))
  obtain ⟨o, ho, hc⟩ := he
  refine wpAny_bind (wpAny_isInstance (T := "StopIteration") (b := true) ⟨o, ho, hc⟩ isSubtype_stop ?_)
  exact wpAny_pure (q _ _ hk)
end
theorem call_zipK {prog : Program} {w : World} {A : Around} {E : Value → Shared → Prop} {s : Shared} (b b' : Bool) {l m : Addr} {xs ys : Array Value} {Q : Value → Shared → Prop} (x1 : SqAt b s.heap l xs) (x2 : SqAt b' s.heap m ys)
    (q : ∀ h', IsZip h' (s.heap.objs.size + 4) (s.heap.objs.size + 2) (s.heap.objs.size + 3) .none → IsPair h' (s.heap.objs.size + 2) (.ref s.heap.objs.size) (.ref (s.heap.objs.size + 1)) →
      IsPair h' (s.heap.objs.size + 3) .none .none → ItAt b h' s.heap.objs.size l 0 → ItAt b' h' (s.heap.objs.size + 1) m 0 → h'.objs.size = s.heap.objs.size + 5 →
      (∀ c o, s.heap.get? c = some o → h'.get? c = some o) → Q (.ref (s.heap.objs.size + 4)) { s with heap := h' }) :
    wpAny (model prog w) A (call (.type "zip") [.ref l, .ref m]) Q E s := by
  refine callType_new F.called_zip (by decide) (F.typeCall_zip_2 _ _) (F.newCall_zip_2 _ _) (fun obj => F.args_object_init_3 obj _ _) F.entry_zip_new (zip_new b b' l m xs ys) ⟨x1, x2, ?_⟩
  have y1 : (zz1 b s.heap l).objs.size = s.heap.objs.size + 1 := Heap.size_push ..
  have y2 : (zz2 b b' s.heap l m).objs.size = s.heap.objs.size + 2 := by rw [Heap.size_push, y1]
  have y3 : (zz3 b b' s.heap l m).objs.size = s.heap.objs.size + 3 := by rw [Heap.size_push, y2]
  have y4 : (zz4 b b' s.heap l m).objs.size = s.heap.objs.size + 4 := by rw [Heap.size_push, y3]
  have y5 : (zz5 b b' s.heap l m).objs.size = s.heap.objs.size + 5 := by rw [Heap.size_push, y4]
  have fr : ∀ b l, (itObj b l).isFreed = false := fun b l => by cases b <;> rfl
  have g5 : (zz5 b b' s.heap l m).get? (zz4 b b' s.heap l m).objs.size = some _ := Heap.get?_push_size _ rfl
  have g4 : (zz5 b b' s.heap l m).get? (zz3 b b' s.heap l m).objs.size = some _ := Heap.get?_push_of_some _ (Heap.get?_push_size _ rfl)
  have g3 : (zz5 b b' s.heap l m).get? (zz2 b b' s.heap l m).objs.size = some _ := Heap.get?_push_of_some _ (Heap.get?_push_of_some _ (Heap.get?_push_size _ rfl))
  have g2 : (zz5 b b' s.heap l m).get? (zz1 b s.heap l).objs.size = some _ := Heap.get?_push_of_some _ (Heap.get?_push_of_some _ (Heap.get?_push_of_some _ (Heap.get?_push_size _ (fr b' m))))
  have g1 : (zz5 b b' s.heap l m).get? s.heap.objs.size = some _ := Heap.get?_push_of_some _ (Heap.get?_push_of_some _ (Heap.get?_push_of_some _ (Heap.get?_push_of_some _ (Heap.get?_push_size _ (fr b l)))))
  show _ ∧ _
  rw [y2, y3, y4] at g5; rw [y1, y2] at g3; rw [y3] at g4; rw [y1] at g2; rw [y4]
  exact ⟨⟨_, g5, rfl⟩, q _ g5 g3 g4 (itObj_at g1) (itObj_at g2) y5 fun c o x => Heap.get?_push_of_some _ (Heap.get?_push_of_some _ (Heap.get?_push_of_some _ (Heap.get?_push_of_some _ (Heap.get?_push_of_some _ x))))⟩
end L2

namespace L2
open PySem PySem.Spec PyProof.Rows
def SqK (b : Bool) (K : PySem.W.Frag) (H : Hp) (a : Addr) (xs : List V) : Prop := match b with | true => SqT K H a xs | false => SqL K H a xs
section
variable {X : Cx} {pins : List (Addr × Obj)} {σ : St} {H : Hp} {s : Shared} {a c : Addr} {xs ys : List V} {b : Bool} {h' : Heap}
theorem Inv.seqK (I : Inv X pins σ H s) (h : SqK b X.K H a xs) : ∃ its : List Value, Vals xs its ∧ SqAt b s.heap a its.toArray ∧ xs.length ≤ sizeLine := by
  cases b with
  | true => exact let ⟨its, r, p, z⟩ := I.tuple h; ⟨its, r, p, z⟩
  | false => exact let ⟨its, r, p, z⟩ := I.list h; ⟨its, r, p.isList, z⟩
theorem Inv.seqK_inj (I : Inv X pins σ H s) (h : SqK b X.K H a xs) (h' : SqK b X.K H a ys) : xs = ys := by
  cases b with
  | true => exact I.tuple_inj h h'
  | false => exact I.list_inj h h'
theorem SqK.kp {K : PySem.W.Frag} {H' : Hp} (h : SqK b K H a xs) (k : Kp [] H H') : SqK b K H' a xs := by
  cases b with
  | true =>
    rcases h with (q | ⟨o, q⟩) | q
    · exact .inl (.inl (k _ _ q (by simp)))
    · exact .inl (.inr ⟨o, k _ _ q (by simp)⟩)
    · exact .inr q
  | false =>
    rcases h with (q | ⟨o, q⟩) | q
    · exact .inl (.inl (k _ _ q (by simp)))
    · exact .inl (.inr ⟨o, k _ _ q (by simp)⟩)
    · exact .inr q
theorem Inv.seqK_ne (I : Inv X pins σ H s) (h : SqK b X.K H a xs) (f : FpOk X pins H c) : a ≠ c := by
  have base : ∀ o, X.K.lookup a = some o → a ≠ c := fun o hk e => by
    have e1 := I.ok.mod.kin a o hk
    rcases f.2.2.2.1 with z | z
    · exact I.ok.noex a o e1 (e ▸ z)
    · exact absurd (Nat.lt_of_lt_of_le (Heap.lt_size e1) (Nat.le_trans I.ok.bsz (e ▸ z))) (Nat.lt_irrefl _)
  cases b with
  | true =>
    rcases h with (q | ⟨o, q⟩) | ⟨o, _, _, hk, _⟩
    · exact ne_of_none q f.1
    · exact ne_of_none q f.1
    · exact base o hk
  | false =>
    rcases h with (q | ⟨o, q⟩) | ⟨o, _, _, hk, _⟩
    · exact ne_of_none q f.1
    · exact ne_of_none q f.1
    · exact base o hk
theorem Inv.turnedL {t' : Nat} {fp : List Addr} (I : Inv X pins σ H s) (k : ∀ b o, b ∉ fp → s.heap.get? b = some o → h'.get? b = some o) (hf : ∀ b ∈ fp, FpOk X pins H b) : Inv X pins σ H { s with heap := h', toks := t' } := by
  refine I.step (g' := s.gens) (d' := s.drawn) (ch := fp) (fun b hb => ⟨(hf b hb).2.2.2.1, (hf b hb).2.1, (hf b hb).2.2.2.2.1, (hf b hb).2.2.2.2.2⟩) (fun b o _ _ hc e _ => k b o hc e) (fun b o _ _ hc e _ => ⟨o.slots, k b o hc e⟩) (fun _ _ _ _ n => n)
    (fun b o hc e => ⟨o, k b o hc e⟩) (fun _ _ e => e) (fun _ _ _ e => e) (fun b ps e => ⟨#[], by rw [e]; simp⟩) (fun m hm => ?_) (fun b u e => ?_) I.bare
  · obtain ⟨o, es, ep, ho, r⟩ := hm
    exact ⟨o, es, ep, k _ o (fun z => (hf _ z).2.1 rfl) ho, r⟩
  · refine (I.hok b u e).stay (fun c v hc q => k c v (fun z => ?_) q) (fun _ q => q) fun _ _ q => q
    have hn := (hf c z).1
    rcases hc with hc | hc
    · rw [hc, e] at hn; cases hn
    · rw [hc] at hn; cases hn
theorem Inv.turnLay {t' : Nat} {fp : List Addr} {p : Addr} {o : HO} (I : Inv X pins σ H s) (k : ∀ b o, b ∉ fp → s.heap.get? b = some o → h'.get? b = some o) (hf : ∀ b ∈ fp, FpOk X pins H b)
    (hp : s.heap.objs.size ≤ p) (new : ObjOk X.prog X.w (upd H p o) h' p o) : Inv X pins σ (upd H p o) { s with heap := h', toks := t' } := by
  have hn := I.hok.fresh hp
  refine I.step (g' := s.gens) (d' := s.drawn) (ch := fp) (fun b hb => ⟨(hf b hb).2.2.2.1, (hf b hb).2.1, (hf b hb).2.2.2.2.1, (hf b hb).2.2.2.2.2⟩) (fun b o _ _ hc e _ => k b o hc e) (fun b o _ _ hc e _ => ⟨o.slots, k b o hc e⟩) (fun b ob _ e n => ?_)
    (fun b o hc e => ⟨o, k b o hc e⟩) (fun b xs e => ?_) (fun b _ _ e => ?_) (fun b ps e => ⟨#[], ?_⟩) (fun m hm => ?_) (fun b u e => ?_) I.bare
  · have hbp : b ≠ p := Nat.ne_of_lt (Nat.lt_of_lt_of_le (Heap.lt_size e) hp); rw [upd_ne hbp]; exact n
  · rw [upd_ne (ne_of_none e hn)]; exact e
  · rw [upd_ne (ne_of_none e hn)]; exact e
  · rw [upd_ne (ne_of_none e hn)]; simpa using e
  · obtain ⟨o, es, ep, ho, r⟩ := hm
    exact ⟨o, es, ep, k _ o (fun z => (hf _ z).2.1 rfl) ho, r⟩
  · by_cases hb : b = p
    · subst hb
      rw [upd_same] at e; cases e
      exact new
    · rw [upd_ne hb] at e
      refine (I.hok b u e).stay (fun c v hc q => k c v (fun z => ?_) q) (fun c q => by rw [upd_ne (ne_of_none q hn)]; exact q) fun c _ q => by rw [upd_ne (ne_of_none q hn)]; exact q
      have hn := (hf c z).1
      rcases hc with hc | hc
      · rw [hc, e] at hn; cases hn
      · rw [hc] at hn; cases hn
end
def Ite (b : Bool) (K : PySem.W.Frag) (a : Addr) : It :=
  ⟨fun i H => ∃ xs x, SqK b K H a xs ∧ xs[i]? = some x, fun i H v H' => ∃ p y, H p = none ∧ H' = upd H p (.tup [.int i, y]) ∧ v = .ref p ∧ ∀ xs, SqK b K H a xs → xs[i]? = some y, fun i H => ∃ xs, SqK b K H a xs ∧ xs.length = i⟩
def Itz (b b' : Bool) (K : PySem.W.Frag) (a c : Addr) : It :=
  ⟨fun i H => ∃ xs ys x y, SqK b K H a xs ∧ SqK b' K H c ys ∧ xs[i]? = some x ∧ ys[i]? = some y, fun i H v H' => ∃ p x y, H p = none ∧ H' = upd H p (.tup [x, y]) ∧ v = .ref p ∧ (∀ xs, SqK b K H a xs → xs[i]? = some x) ∧ ∀ ys, SqK b' K H c ys → ys[i]? = some y,
   fun i H => ∃ xs ys, SqK b K H a xs ∧ SqK b' K H c ys ∧ min xs.length ys.length = i⟩
theorem turn_enum {P : Program} {w : World} {K : PySem.W.Frag} {es : List Expr} {kk : Nat} {tp : Pos} (b : Bool) (a e j : Addr) (hej : e ≠ j) : Turn P w K (.Tuple es kk tp) (Ite b K a) [e, j] e (fun i h => (∃ old, IsEnum h e j i old) ∧ ItAt b h j a i) where
  mem := by simp
  obj := fun i h st c hc => by
    obtain ⟨⟨old, he⟩, hj⟩ := st
    rcases List.mem_cons.mp hc with rfl | hc
    · exact ⟨_, he, fun v z => by have z' : Data.fields _ = Data.cell v := z; cases z'⟩
    · rw [List.mem_singleton.mp hc]; exact hj.obj
  keep := fun i h h' st k => by
    obtain ⟨⟨old, he⟩, hj⟩ := st
    exact ⟨⟨old, k e (by simp) _ he⟩, hj.at fun o q => k j (by simp) o q⟩
  item := by
    intro X hP hw hK hc i pins s σ H E I hf st hg
    subst hP hw hK
    obtain ⟨xs, x, hq, hx⟩ := hg
    obtain ⟨its, rv, p, hz⟩ := I.seqK hq
    obtain ⟨u, hu, ru⟩ := rv.get hx
    obtain ⟨⟨old, he⟩, hj⟩ := st
    have nae := I.seqK_ne hq (hf e (by simp))
    have naj := I.seqK_ne hq (hf j (by simp))
    have hlt : i < its.toArray.size := by
      have := (List.getElem?_eq_some_iff.mp hu).1
      simpa using this
    refine wpAny_pyNext_enum_itemD (draws_of b (A := X.A.in1) (I.ok.hd hc) j a naj its.toArray) he ⟨hj, p⟩ hlt hej (by simp; exact ⟨hej, Ne.symm nae⟩) fun y h1 tk hP ho st1 hT hsz hk => ?_
    have ey : y = u := by
      have hP : its.toArray[i]? = some y := hP
      have : its[i]? = some y := by simpa using hP
      rw [hu] at this; exact (Option.some.inj this).symm
    subst ey
    refine ⟨_, rfl, wpAny_letOwnedTupleGo_enum ho fun h2 he2 hs2 => ?_⟩
    replace hs2 : Heap.SameBut e h1 h2 := hs2
    have hes : e < s.heap.objs.size := Heap.lt_size he
    have hjs : j < s.heap.objs.size := by obtain ⟨o, q, _⟩ := hj.obj; exact Heap.lt_size q
    have kk : ∀ c o, c ∉ [e, j] → s.heap.get? c = some o → h2.get? c = some o := fun c o hc q => by
      have h1' : c ≠ e := fun z => hc (by simp [z])
      exact hs2.extBut _ _ h1' (hk c o h1' (fun z => hc (by simp [z])) q)
    refine ⟨.ref s.heap.objs.size, upd H s.heap.objs.size (.tup [.int i, x]), I.turnLay (t' := tk + 1) kk hf (Nat.le_refl _) ?_, rfl, ⟨_, x, I.hok.fresh (Nat.le_refl _), rfl, rfl, fun ys hy => by rw [I.seqK_inj hy hq]; exact hx⟩, ⟨⟨y, by simpa using he2⟩, st1.1.at fun o q => hs2.extBut _ _ (Ne.symm hej) q⟩, fun c hc => ?_⟩
    · exact ⟨by simp [sizeLine_eq], [.int i tk, y], .cons ⟨tk, rfl⟩ (.cons ru .nil), _, hs2.extBut _ _ (Nat.ne_of_gt hes) hT, rfl, 0, rfl⟩
    · rw [upd_ne]
      · exact (hf c hc).1
      · rcases List.mem_cons.mp hc with rfl | hc
        · exact Nat.ne_of_lt hes
        · rw [List.mem_singleton.mp hc]; exact Nat.ne_of_lt hjs
  done := by
    intro X hP hw hK hc i pins s σ H E I hf st hg
    subst hP hw hK
    obtain ⟨xs, hq, hx⟩ := hg
    obtain ⟨its, rv, p, hz⟩ := I.seqK hq
    obtain ⟨⟨old, he⟩, hj⟩ := st
    have naj := I.seqK_ne hq (hf j (by simp))
    have hl := rv.length
    have hn : its.toArray.size = i := by simp; omega
    refine wpAny_pyNext_enum_endD (draws_of b (A := X.A.in1) (I.ok.hd hc) j a naj its.toArray) he (by rw [hn]; exact ⟨hj, p⟩) fun h1 hk => ⟨rfl, ?_⟩
    exact I.turnedL (t' := s.toks) (fun c o hc q => hk c o (fun z => hc (by simp [z])) q) hf
  self := fun _ _ _ _ _ st q => by
    obtain ⟨⟨old, he⟩, _⟩ := st
    exact wpAny_pyIter_enum he q
theorem turn_zip {P : Program} {w : World} {K : PySem.W.Frag} {es : List Expr} {kk : Nat} {tp : Pos} (b b' : Bool) (a c z TI TO j1 j2 : Addr) (dz : [z, TI, TO, j1, j2].Nodup) :
    Turn P w K (.Tuple es kk tp) (Itz b b' K a c) [z, TI, TO, j1, j2] z (fun i h => IsZip h z TI TO .none ∧ IsPair h TI (.ref j1) (.ref j2) ∧ (∃ u v, IsPair h TO u v) ∧ ItAt b h j1 a i ∧ ItAt b' h j2 c i) where
  mem := by simp
  obj := fun i h st d hd => by
    obtain ⟨hz, hI, ⟨u, v, hO⟩, h1, h2⟩ := st
    have notup : ∀ (o : Obj) {w : Value} {vs : Array Value} {n : Nat}, o.data = .seq vs n → o.data ≠ .cell w := fun o w vs n e z => by rw [e] at z; cases z
    rcases List.mem_cons.mp hd with rfl | hd
    · exact ⟨_, hz, fun v z => by have z' : Data.fields _ = Data.cell v := z; cases z'⟩
    · rcases List.mem_cons.mp hd with rfl | hd
      · exact ⟨_, hI, fun w z => by have z' : Data.seq _ _ = Data.cell w := z; cases z'⟩
      · rcases List.mem_cons.mp hd with rfl | hd
        · exact ⟨_, hO, fun w z => by have z' : Data.seq _ _ = Data.cell w := z; cases z'⟩
        · rcases List.mem_cons.mp hd with rfl | hd
          · exact h1.obj
          · rw [List.mem_singleton.mp hd]; exact h2.obj
  keep := fun i h h' st k => by
    obtain ⟨hz, hI, ⟨u, v, hO⟩, h1, h2⟩ := st
    exact ⟨k z (by simp) _ hz, k TI (by simp) _ hI, ⟨u, v, k TO (by simp) _ hO⟩, h1.at fun o q => k j1 (by simp) o q, h2.at fun o q => k j2 (by simp) o q⟩
  item := by
    intro X hP hw hK hc i pins s σ H E I hf st hg
    subst hP hw hK
    obtain ⟨xs, ys, x, y, hq, hq', hx, hy⟩ := hg
    obtain ⟨its, rv, p, _⟩ := I.seqK hq
    obtain ⟨its', rv', p', _⟩ := I.seqK hq'
    obtain ⟨u, hu, ru⟩ := rv.get hx
    obtain ⟨u', hu', ru'⟩ := rv'.get hy
    obtain ⟨hz, hI, ⟨o1, o2, hO⟩, h1, h2⟩ := st
    have na := fun d hd => I.seqK_ne hq (hf d hd)
    have na' := fun d hd => I.seqK_ne hq' (hf d hd)
    simp only [List.nodup_cons, List.mem_cons, List.not_mem_nil, or_false, not_or] at dz
    obtain ⟨⟨d1, d2, d3, d4⟩, ⟨d5, d6, d7⟩, ⟨d8, d9⟩, d10, _⟩ := dz
    have hlt : i < its.toArray.size := by have := (List.getElem?_eq_some_iff.mp hu).1; simpa using this
    have hlt' : i < its'.toArray.size := by have := (List.getElem?_eq_some_iff.mp hu').1; simpa using this
    have D : ZApart z TI TO j1 j2 [j1, a] [j2, c] := ⟨by simp, by simp, by simp; exact ⟨d3, Ne.symm (na z (by simp))⟩, by simp; exact ⟨d4, Ne.symm (na' z (by simp))⟩, by simp; exact ⟨d8, Ne.symm (na TO (by simp))⟩, by simp; exact ⟨d9, Ne.symm (na' TO (by simp))⟩,
      by simp; exact ⟨d10, Ne.symm (na' j1 (by simp))⟩, by simp; exact ⟨Ne.symm d10, Ne.symm (na j2 (by simp))⟩, Ne.symm d1, d5, d6, d7, Ne.symm d2⟩
    refine zipD_next_item D (draws_of b (A := X.A.in1) (I.ok.hd hc) j1 a (na j1 (by simp)) its.toArray) (draws_of b' (A := X.A.in1) (I.ok.hd hc) j2 c (na' j2 (by simp)) its'.toArray) hz hI hO ⟨h1, p⟩ ⟨h2, p'⟩ hlt hlt' fun v v' g1 tk e1 e2 z1 O1 s1 s2 T1 sz1 k1 => ?_
    have ev : v = u := by
      have e1 : its.toArray[i]? = some v := e1
      have : its[i]? = some v := by simpa using e1
      rw [hu] at this; exact (Option.some.inj this).symm
    have ev' : v' = u' := by
      have e2 : its'.toArray[i]? = some v' := e2
      have : its'[i]? = some v' := by simpa using e2
      rw [hu'] at this; exact (Option.some.inj this).symm
    subst ev ev'
    refine ⟨_, rfl, wpAny_letOwnedTupleGo_zip z1 fun g2 z2 b2 => ?_⟩
    replace b2 : Heap.SameBut z g1 g2 := b2
    have hzs : z < s.heap.objs.size := Heap.lt_size hz
    have kk : ∀ d o, d ∉ [z, TI, TO, j1, j2] → s.heap.get? d = some o → g2.get? d = some o := fun d o hd q => by
      have h1' : d ≠ z := fun e => hd (by simp [e])
      exact b2.extBut _ _ h1' (k1 d o h1' (fun e => hd (by simp [e])) (fun e => hd (by simp [e])) (fun e => hd (by simp [e])) q)
    refine ⟨.ref s.heap.objs.size, upd H s.heap.objs.size (.tup [x, y]), I.turnLay (t' := tk) kk hf (Nat.le_refl _) ?_, rfl, ⟨_, x, y, I.hok.fresh (Nat.le_refl _), rfl, rfl, fun zs hy => by rw [I.seqK_inj hy hq]; exact hx, fun zs hy' => by rw [I.seqK_inj hy' hq']; exact hy⟩,
      ⟨z2, b2.extBut _ _ (Ne.symm d1) (k1 _ _ (Ne.symm d1) d5 d6 d7 hI), ⟨_, _, b2.extBut _ _ (Ne.symm d2) O1⟩, s1.1.at fun o q => b2.extBut _ _ (Ne.symm d3) q, s2.1.at fun o q => b2.extBut _ _ (Ne.symm d4) q⟩, fun d hd => ?_⟩
    · exact ⟨by simp [sizeLine_eq], [v, v'], .cons ru (.cons ru' .nil), _, b2.extBut _ _ (Nat.ne_of_gt hzs) T1, rfl, 0, rfl⟩
    · have lt : d < s.heap.objs.size := by
        rcases List.mem_cons.mp hd with rfl | hd
        · exact hzs
        · rcases List.mem_cons.mp hd with rfl | hd
          · exact Heap.lt_size hI
          · rcases List.mem_cons.mp hd with rfl | hd
            · exact Heap.lt_size hO
            · rcases List.mem_cons.mp hd with rfl | hd
              · obtain ⟨o, q, _⟩ := h1.obj; exact Heap.lt_size q
              · rw [List.mem_singleton.mp hd]; obtain ⟨o, q, _⟩ := h2.obj; exact Heap.lt_size q
      rw [upd_ne (Nat.ne_of_lt lt)]
      exact (hf d hd).1
  done := by
    intro X hP hw hK hc i pins s σ H E I hf st hg
    subst hP hw hK
    obtain ⟨xs, ys, hq, hq', hm⟩ := hg
    obtain ⟨its, rv, p, _⟩ := I.seqK hq
    obtain ⟨its', rv', p', _⟩ := I.seqK hq'
    obtain ⟨hz, hI, ⟨o1, o2, hO⟩, h1, h2⟩ := st
    have na := fun d hd => I.seqK_ne hq (hf d hd)
    have na' := fun d hd => I.seqK_ne hq' (hf d hd)
    simp only [List.nodup_cons, List.mem_cons, List.not_mem_nil, or_false, not_or] at dz
    obtain ⟨⟨d1, d2, d3, d4⟩, ⟨d5, d6, d7⟩, ⟨d8, d9⟩, d10, _⟩ := dz
    have D : ZApart z TI TO j1 j2 [j1, a] [j2, c] := ⟨by simp, by simp, by simp; exact ⟨d3, Ne.symm (na z (by simp))⟩, by simp; exact ⟨d4, Ne.symm (na' z (by simp))⟩, by simp; exact ⟨d8, Ne.symm (na TO (by simp))⟩, by simp; exact ⟨d9, Ne.symm (na' TO (by simp))⟩,
      by simp; exact ⟨d10, Ne.symm (na' j1 (by simp))⟩, by simp; exact ⟨Ne.symm d10, Ne.symm (na j2 (by simp))⟩, Ne.symm d1, d5, d6, d7, Ne.symm d2⟩
    have hl := rv.length
    have hl' := rv'.length
    refine zipD_next_end D (draws_of b (A := X.A.in1) (I.ok.hd hc) j1 a (na j1 (by simp)) its.toArray) (draws_of b' (A := X.A.in1) (I.ok.hd hc) j2 c (na' j2 (by simp)) its'.toArray) hz hI hO ⟨h1, p⟩ ⟨h2, p'⟩ (by simp; omega) fun g1 tk k1 => ⟨rfl, ?_⟩
    exact I.turnedL (t' := tk) (fun d o hd q => k1 d o (fun e => hd (by simp [e])) (fun e => hd (by simp [e])) (fun e => hd (by simp [e])) (fun e => hd (by simp [e])) q) hf
  self := fun _ _ _ _ _ st q => wpAny_pyIter_zip st.1 q
section
variable {X : Cx} {es : List Expr} {kk : Nat} {tp : Pos}
def iEnum (K : PySem.W.Frag) (ta : TA) : TI := fun σ H R => ta σ H fun vs H1 => ∃ b l xs, vs = [.ref l] ∧ SqK b K H1 l xs ∧ R (Ite b K l) H1
def iZip (K : PySem.W.Frag) (ta : TA) : TI := fun σ H R => ta σ H fun vs H1 => ∃ b b' l m xs ys, vs = [.ref l, .ref m] ∧ SqK b K H1 l xs ∧ SqK b' K H1 m ys ∧ R (Itz b b' K l m) H1
theorem pi_enum {a : Expr} {ta : TA} {p pos : Pos} (hg : Gl X "enumerate") (hm : X.mg "enumerate" = none) (ha : PA X [a] ta) (hs : starEach [a] X.env = [(false, eval a X.env)] := by rfl) : PI X (.Tuple es kk tp) (.Call (.Name "enumerate" p) [a] [] pos) (iEnum X.K ta) := by
  intro pins s σ H R I h
  refine Call_ (ld_blt I hg hm boot_enumerate (PyProof.Rows.callWith_type1 (thn (ha pos pins s σ H _ I h) fun us s1 ⟨vs, H1, I1, r1, q1⟩ => ?_) hs rfl))
  obtain ⟨b, l, xs, e, hq, q⟩ := q1
  subst e
  obtain ⟨u, rfl, ru⟩ := vals1 r1
  cases ru
  obtain ⟨its, rv, p, _⟩ := I1.seqK hq
  refine call_enum b p fun h1 he hj hsz hk => wpAny_pyIter_enum he ?_
  refine ⟨_, [s1.heap.objs.size + 1, s1.heap.objs.size], _, _, H1, rfl, I1.kept (t' := s1.toks) hk, turn_enum b l _ _ (Nat.succ_ne_self _), ⟨⟨_, he⟩, hj⟩, fun c hc => ?_, q⟩
  rcases List.mem_cons.mp hc with rfl | hc
  · exact I1.fpOk (Nat.le_succ _) (I1.hok.fresh (Nat.le_succ _))
  · rw [List.mem_singleton.mp hc]; exact I1.fpOk (Nat.le_refl _) (I1.hok.fresh (Nat.le_refl _))
theorem pi_zip {a b : Expr} {ta : TA} {p pos : Pos} (hg : Gl X "zip") (hm : X.mg "zip" = none) (ha : PA X [a, b] ta) (hs : starEach [a, b] X.env = [(false, eval a X.env), (false, eval b X.env)] := by rfl) (hs2 : starEach [b] X.env = [(false, eval b X.env)] := by rfl) :
    PI X (.Tuple es kk tp) (.Call (.Name "zip" p) [a, b] [] pos) (iZip X.K ta) := by
  intro pins s σ H R I h
  refine Call_ (ld_blt I hg hm boot_zip (PyProof.Rows.callWith_type1 (thn (ha pos pins s σ H _ I h) fun us s1 ⟨vs, H1, I1, r1, q1⟩ => ?_) (by rw [hs, hs2]) (by rw [hs2]; rfl)))
  obtain ⟨b, b', l, m, xs, ys, e, hq, hq', q⟩ := q1
  subst e
  obtain ⟨u, u', rfl, ru, ru'⟩ := vals2 r1
  cases ru
  cases ru'
  obtain ⟨its, rv, p, _⟩ := I1.seqK hq
  obtain ⟨its', rv', p', _⟩ := I1.seqK hq'
  refine call_zipK b b' p p' fun h1 hz hI hO i1 i2 hsz hk => wpAny_pyIter_zip hz ?_
  refine ⟨_, [s1.heap.objs.size + 4, s1.heap.objs.size + 2, s1.heap.objs.size + 3, s1.heap.objs.size, s1.heap.objs.size + 1], _, _, H1, rfl, I1.kept (t' := s1.toks) hk, turn_zip b b' l m _ _ _ _ _ (by simp), ⟨hz, hI, ⟨_, _, hO⟩, i1, i2⟩, fun c hc => ?_, q⟩
  have hc' : s1.heap.objs.size ≤ c := by
    simp only [List.mem_cons, List.not_mem_nil, or_false] at hc
    rcases hc with rfl | rfl | rfl | rfl | rfl
    · exact Nat.le_add_right _ _
    · exact Nat.le_add_right _ _
    · exact Nat.le_add_right _ _
    · exact Nat.le_refl _
    · exact Nat.le_add_right _ _
  exact I1.fpOk hc' (I1.hok.fresh hc')
end
end L2

namespace L2
open PySem PySem.Spec PyProof.Rows
abbrev gTwo (K : PySem.W.Frag) : TG := gTup K 2 (gCons (gName 0) (gCons (gName 1) gNil))
section
variable {X : Cx} {pos : Pos} {k : Nat}
abbrev Sto (X : Cx) (i : Nat) (x : Str) : Prop := X.N[i]? = some x ∧ Loc X.env.scope x ∧ (X.fn x = true ∨ X.env.scope.names.lookup x = some .local)
theorem pg_pair {K' : PySem.W.Frag} {i j : Nat} {x y : Str} {px py : Pos} (hc : X.calm = true) (hN : X.N.Nodup) (hx : Sto X i x) (hy : Sto X j y) (hK : X.K = K') : PG X (.Tuple [.Name x px, .Name y py] k pos) (gTup K' 2 (gCons (gName i) (gCons (gName j) gNil))) :=
  hK ▸ pg_tup hc (pgs_cons (pg_name hN hx.1 hx.2.1 hx.2.2) (pgs_cons (pg_name hN hy.1 hy.2.1 hy.2.2) pgs_nil))
theorem pg_trio {K' : PySem.W.Frag} {i j m : Nat} {x y z : Str} {px py pz : Pos} (hc : X.calm = true) (hN : X.N.Nodup) (hx : Sto X i x) (hy : Sto X j y) (hz : Sto X m z) (hK : X.K = K') : PG X (.Tuple [.Name x px, .Name y py, .Name z pz] k pos) (gTup K' 3 (gCons (gName i) (gCons (gName j) (gCons (gName m) gNil)))) :=
  hK ▸ pg_tup hc (pgs_cons (pg_name hN hx.1 hx.2.1 hx.2.2) (pgs_cons (pg_name hN hy.1 hy.2.1 hy.2.2) (pgs_cons (pg_name hN hz.1 hz.2.1 hz.2.2) pgs_nil)))
end
def CW2 (n : Nat) (l : Addr) (fr : St) (Pv : Nat → List V → Hp → Prop) (i m : Nat) (σ : St) (H : Hp) : Prop := i ≤ n ∧ m = n - i ∧ ∃ o o' ys, σ = o :: o' :: fr ∧ H l = some (.lst ys) ∧ Pv i ys H
def CNext2 (n : Nat) (l : Addr) (fr : St) (Pv : Nat → List V → Hp → Prop) (i : Nat) (x x' : V) : VK := fun y H4 =>
  ∃ xs, H4 l = some (.lst xs) ∧ xs.length < sizeLine ∧ ∃ m', m' < n - i ∧ CW2 n l fr Pv (i + 1) m' (some x :: some x' :: fr) (upd H4 l (.lst (xs ++ [y])))
def CSkip2 (n : Nat) (l : Addr) (fr : St) (Pv : Nat → List V → Hp → Prop) (i : Nat) (x x' : V) (H3 : Hp) : Prop := ∃ m', m' < n - i ∧ CW2 n l fr Pv (i + 1) m' (some x :: some x' :: fr) H3
theorem CNext2.intro {n : Nat} {l : Addr} {fr : St} {Pv : Nat → List V → Hp → Prop} {i : Nat} {x x' y : V} {H4 : Hp} {ys : List V} (hi : i < n) (h1 : H4 l = some (.lst ys)) (h2 : ys.length < sizeLine) (h3 : Pv (i + 1) (ys ++ [y]) (upd H4 l (.lst (ys ++ [y])))) : CNext2 n l fr Pv i x x' y H4 :=
  ⟨ys, h1, h2, n - (i + 1), by omega, by omega, rfl, _, _, _, rfl, upd_same, h3⟩
theorem CSkip2.intro {n : Nat} {l : Addr} {fr : St} {Pv : Nat → List V → Hp → Prop} {i : Nat} {x x' : V} {H3 : Hp} {ys : List V} (hi : i < n) (h1 : H3 l = some (.lst ys)) (h3 : Pv (i + 1) ys H3) : CSkip2 n l fr Pv i x x' H3 :=
  ⟨n - (i + 1), by omega, by omega, rfl, _, _, _, rfl, h1, h3⟩
theorem comp2 {K : PySem.W.Frag} {J : It} {tt : TT} {te : TE} {l : Addr} {fr : St} {o0 o1 : Option V} {H0 : Hp} {Q : Hp → Prop} (n : Nat) (Pv : Nat → List V → Hp → Prop) (h0 : Pv 0 [] H0) (hl0 : H0 l = some (.lst []))
    (hgo : ∀ i H ys, i < n → Pv i ys H → H l = some (.lst ys) → J.go i H) (hstop : ∀ H ys, Pv n ys H → H l = some (.lst ys) → J.stop n H)
    (step : ∀ i H ys v H', i < n → Pv i ys H → H l = some (.lst ys) → J.yld i H v H' → ∃ a x x', v = .ref a ∧ SqT K H' a [x, x'] ∧ tt (some x :: some x' :: fr) H' fun c H3 =>
      if c = true then te (some x :: some x' :: fr) H3 (CNext2 n l fr Pv i x x') else CSkip2 n l fr Pv i x x' H3)
    (fin : ∀ H ys, Pv n ys H → H l = some (.lst ys) → Q H) :
    cTurns J (gTwo K) tt te l (o0 :: o1 :: fr) H0 Q := by
  refine ⟨CW2 n l fr Pv, ⟨n, Nat.zero_le _, rfl, o0, o1, [], rfl, hl0, h0⟩, ?_⟩
  rintro i m σ H ⟨hi, rfl, o, o', ys, rfl, hl, hp⟩
  rcases Nat.lt_or_ge i n with h | h
  · refine .inr ⟨hgo i H ys h hp hl, fun v H' y => ?_⟩
    obtain ⟨a, x, x', rfl, hq, st⟩ := step i H ys v H' h hp hl y
    exact ⟨a, [x, x'], rfl, hq, rfl, _, _, rfl, _, _, rfl, rfl, st⟩
  · have e : i = n := by omega
    subst e
    exact .inl ⟨hstop H ys hp hl, fin H ys hp hl⟩
def CPureF (H1 : Hp) (ft : Nat → Bool) (fe : Nat → V) (i : Nat) (ys : List V) (H : Hp) : Prop := Kp [] H1 H ∧ ys = ((List.range i).filter ft).map fe
theorem filt_yes {ft : Nat → Bool} {fe : Nat → V} {i : Nat} (h : ft i = true) : ((List.range (i + 1)).filter ft).map fe = ((List.range i).filter ft).map fe ++ [fe i] := by
  rw [List.range_succ, List.filter_append, List.map_append]; simp [h]
theorem filt_no {ft : Nat → Bool} {fe : Nat → V} {i : Nat} (h : ft i = false) : ((List.range (i + 1)).filter ft).map fe = ((List.range i).filter ft).map fe := by
  rw [List.range_succ, List.filter_append, List.map_append]; simp [h]
theorem filt_len {ft : Nat → Bool} {fe : Nat → V} (i : Nat) : (((List.range i).filter ft).map fe).length ≤ i := by
  rw [List.length_map]; have := List.length_filter_le ft (List.range i); simpa using this
theorem comp2_enum {K : PySem.W.Frag} {b : Bool} {a : Addr} {xs : List V} {tt : TT} {te : TE} {l : Addr} {fr : St} {o0 o1 : Option V} {H1 : Hp} {Q : Hp → Prop} (ft : Nat → Bool) (fe : Nat → V) (hq : SqK b K H1 a xs) (hz : xs.length ≤ sizeLine) (hl0 : H1 l = none)
    (test : ∀ i x H (M : Bool → Hp → Prop), xs[i]? = some x → Kp [] H1 H → (∀ H3, Kp [] H H3 → M (ft i) H3) → tt (some (.int i) :: some x :: fr) H M)
    (step : ∀ i x H (N : VK), ft i = true → xs[i]? = some x → Kp [] H1 H → (∀ H4, Kp [] H H4 → N (fe i) H4) → te (some (.int i) :: some x :: fr) H N)
    (fin : ∀ H, Kp [] H1 H → H l = some (.lst (((List.range xs.length).filter ft).map fe)) → Q H) :
    cTurns (Ite b K a) (gTwo K) tt te l (o0 :: o1 :: fr) (upd H1 l (.lst [])) Q := by
  refine comp2 xs.length (CPureF H1 ft fe) ⟨Kp.new hl0 _, rfl⟩ upd_same (fun i H ys hi p _ => ⟨xs, xs[i], hq.kp p.1, List.getElem?_eq_getElem hi⟩) (fun H ys p _ => ⟨xs, hq.kp p.1, rfl⟩) (fun i H ys v H' hi p hl y => ?_) fun H ys p hl => ?_
  · obtain ⟨t, x, ht, rfl, rfl, hx⟩ := y
    obtain ⟨k1, rfl⟩ := p
    have hx := hx xs (hq.kp k1)
    have k2 : Kp [] H (upd H t (.tup [.int i, x])) := Kp.new ht _
    have hlen := filt_len (ft := ft) (fe := fe) i
    refine ⟨t, .int i, x, rfl, SqT.of upd_same, test i x _ _ hx (k1.trans k2) fun H3 k3 => ?_⟩
    have hl3 : H3 l = some (.lst (((List.range i).filter ft).map fe)) := k3 _ _ (k2 _ _ hl (by simp)) (by simp)
    cases hft : ft i with
    | true =>
      refine iteT (step i x _ _ hft hx ((k1.trans k2).trans k3) fun H4 k4 => ?_)
      refine CNext2.intro hi (k4 _ _ hl3 (by simp)) (by omega) ⟨fun d o e n => ?_, (filt_yes hft).symm⟩
      rw [upd_ne (ne_of_none e hl0)]; exact k4 _ _ (k3 _ _ (k2 _ _ (k1 _ _ e n) n) n) n
    | false =>
      refine iteF ?_
      exact CSkip2.intro hi hl3 ⟨(k1.trans k2).trans k3, (filt_no hft).symm⟩
  · obtain ⟨k1, rfl⟩ := p
    exact fin H k1 hl
end L2

namespace My
open PySem PySem.Spec PyProof.Rows L2
end My

namespace My
open PySem PySem.Spec PyProof.Rows L2
def wayAt (ws : List Way) (k : Int) : Way := ws.getD k.toNat ⟨0, 0, []⟩
def InW (ws : List Way) (ns : List Int) : Prop := ∀ k ∈ ns, 0 ≤ k ∧ k < ws.length
def Chain (ws : List Way) : List Int → Prop
  | [] => True
  | [_] => True
  | j :: k :: r => (wayAt ws j).b = (wayAt ws k).a ∧ Chain ws (k :: r)
theorem Chain.snoc {ws : List Way} : ∀ {ns : List Int} {j k : Int}, Chain ws (ns ++ [j]) → (wayAt ws j).b = (wayAt ws k).a → Chain ws (ns ++ [j] ++ [k])
  | [], _, _, _, h => ⟨h, trivial⟩
  | [a], _, _, c, h => ⟨c.1, h, trivial⟩
  | a :: b :: r, j, k, c, h => ⟨c.1, Chain.snoc (ns := b :: r) c.2 h⟩
structure BkAt (ex : List Addr) (H : Hp) (R U : Int) (ws : List Way) (bv : V) (ba wa : Addr) (vs : List V) : Prop where
  e : bv = .ref ba
  b : H ba = some (.tup [.int R, .int U, .ref wa])
  w : H wa = some (.tup vs)
  r : Reps ex H (ws.map wayPD) vs
  nb : ba ∉ ex
  nw : wa ∉ ex
  z : vs.length ≤ sizeLine
theorem rep_book {ex : List Addr} {H : Hp} {R U : Int} {ws : List Way} {bv : V} (r : Rep ex H (bookPD R U ws) bv) : ∃ ba wa vs, BkAt ex H R U ws bv ba wa vs := by
  obtain ⟨ba, x, y, z, rfl, hb, nb, r1, r2, r3⟩ := rep_tup3 r
  obtain ⟨wa, vs, rfl, hw, nw, hz, rs⟩ := rep_tup r3
  rw [rep_int r1, rep_int r2] at hb
  exact ⟨ba, wa, vs, rfl, hb, hw, rs, nb, nw, hz⟩
theorem BkAt.len {ex : List Addr} {H : Hp} {R U : Int} {ws : List Way} {bv : V} {ba wa : Addr} {vs : List V} (B : BkAt ex H R U ws bv ba wa vs) : vs.length = ws.length := by
  rw [← B.r.length, List.length_map]
theorem BkAt.keep {ex : List Addr} {H H' : Hp} {R U : Int} {ws : List Way} {bv : V} {ba wa : Addr} {vs : List V} (B : BkAt ex H R U ws bv ba wa vs) (k : Kp ex H H') : BkAt ex H' R U ws bv ba wa vs :=
  ⟨B.e, k _ _ B.b B.nb, k _ _ B.w B.nw, B.r.keep k, B.nb, B.nw, B.z⟩
theorem BkAt.rep {ex : List Addr} {H : Hp} {R U : Int} {ws : List Way} {bv : V} {ba wa : Addr} {vs : List V} (B : BkAt ex H R U ws bv ba wa vs) : Rep ex H (bookPD R U ws) bv := by
  rw [B.e]
  exact .tuple B.b B.nb (small4 (Nat.le_of_ble_eq_true rfl)) (.cons (.int R) (.cons (.int U) (.cons (.tuple B.w B.nw B.z B.r) .nil)))
theorem way_ix {ex : List Addr} {H : Hp} {ws : List Way} {vs : List V} {i : Nat} {v : V} (r : Reps ex H (ws.map wayPD) vs) (h : vs[i]? = some v) : ∃ t g, v = .ref t ∧ H t = some (.tup [.int (wayAt ws i).a, .int (wayAt ws i).b, .ref g]) ∧ H g = some (.tup ((wayAt ws i).g.map V.int)) ∧ i < ws.length ∧ wayAt ws i ∈ ws := by
  obtain ⟨d, e, rd⟩ := r.getV h
  rw [List.getElem?_map] at e
  cases hw : ws[i]? with
  | none => rw [hw] at e; cases e
  | some w =>
    rw [hw] at e
    have e : wayPD w = d := Option.some.inj e
    subst e
    have ew : wayAt ws (i : Int) = w := by unfold wayAt; rw [Int.toNat_natCast, List.getD_eq_getElem?_getD, hw]; rfl
    rw [ew]
    obtain ⟨t, x, y, z, rfl, ht, _, r1, r2, r3⟩ := rep_tup3 rd
    obtain ⟨g, gs, rfl, hg, _, _, rg⟩ := rep_tup r3
    rw [rep_int r1, rep_int r2] at ht
    rw [Reps.ints_inv rg] at hg
    exact ⟨t, g, rfl, ht, hg, (List.getElem?_eq_some_iff.mp hw).1, List.mem_of_getElem? hw⟩
theorem way_at {ex : List Addr} {H : Hp} {ws : List Way} {vs : List V} {k : Int} (r : Reps ex H (ws.map wayPD) vs) (h0 : 0 ≤ k) (h1 : k < ws.length) : ∃ t g, atI vs k = some (.ref t) ∧ H t = some (.tup [.int (wayAt ws k).a, .int (wayAt ws k).b, .ref g]) ∧ H g = some (.tup ((wayAt ws k).g.map V.int)) ∧ wayAt ws k ∈ ws := by
  have hl := r.length
  rw [List.length_map] at hl
  have hk : k.toNat < vs.length := by omega
  have ek : ((k.toNat : Nat) : Int) = k := by omega
  have e : vs[k.toNat]? = some vs[k.toNat] := List.getElem?_eq_getElem hk
  obtain ⟨t, g, ev, ht, hg, _, hm⟩ := way_ix r e
  rw [ek] at ht hg hm
  refine ⟨t, g, ?_, ht, hg, hm⟩
  have q := atI_nat e
  rw [ek, ev] at q
  exact q
theorem at_map (ns : List Int) {i : Int} (h0 : 0 ≤ i) (h1 : i < ns.length) : ∃ n ∈ ns, atI (ns.map V.int) i = some (V.int n) := by
  obtain ⟨n, e, h⟩ := at_P (P := fun n => n ∈ ns) ns (fun _ h => h) h0 h1
  exact ⟨n, h, e⟩
theorem at_lastI {ns : List Int} (h : ns ≠ []) : atI (ns.map V.int) (-1) = some (V.int (ns.getLast h)) := by
  have e : ns = ns.dropLast ++ [ns.getLast h] := (List.dropLast_concat_getLast h).symm
  generalize ns.getLast h = z at e ⊢
  rw [e, List.map_append]
  exact atI_last _ _
theorem canLay_way (w : Way) : (wayPD w).canLay0 = true := by
  unfold wayPD
  simp [PyData.canLay0, PyData.canLayAll0, canLay_ints]
theorem canLay_ways : ∀ ws : List Way, PyData.canLayAll0 (ws.map wayPD) = true
  | [] => rfl
  | w :: r => by rw [List.map_cons, PyData.canLayAll0, canLay_way, canLay_ways r]; rfl
theorem eqv_ways_nil : ∀ ws : List Way, PyData.eqv (.tuple (ws.map wayPD)) (.tuple []) = ws.isEmpty
  | [] => rfl
  | _ :: _ => rfl
def fromI (ws : List Way) (room : Int) : List Int := ((List.range ws.length).filter fun i => decide ((wayAt ws (i : Nat)).a = room)).map fun i : Nat => (i : Int)
theorem fromI_mem {ws : List Way} {room k : Int} (h : k ∈ fromI ws room) : 0 ≤ k ∧ k < ws.length ∧ (wayAt ws k).a = room := by
  obtain ⟨i, hi, rfl⟩ := List.mem_map.mp h
  rw [List.mem_filter, List.mem_range] at hi
  exact ⟨by omega, by omega, of_decide_eq_true hi.2⟩
theorem fromI_len (ws : List Way) (room : Int) : (fromI ws room).length ≤ ws.length := by
  unfold fromI
  rw [List.length_map]
  have := List.length_filter_le (fun i => decide ((wayAt ws ((i : Nat) : Int)).a = room)) (List.range ws.length)
  simpa using this
def spFrom : Sp := fun vs H Q _ => ∃ ex R U ws bv room, vs = [bv, .int room] ∧ Rep ex H (bookPD R U ws) bv ∧ ∀ l H', Kp [] H H' → H l = none → H' l = some (.lst ((fromI ws room).map V.int)) → Q (.ref l) H'
def spWalkD : Sp := fun vs H Q _ => ∃ (p c : Addr) (R U : Int) (ws : List Way) (bv : V) (most : Int), vs = [.ref p, bv, .int most] ∧ Jar H p c ∧ Rep [p, c] H (bookPD R U ws) bv ∧ BookOk R U ws ∧ (1 ≤ most ∧ most ≤ 5000) ∧
  ∀ (ns : List Int) (l : Addr) (H' : Hp), InW ws ns → Chain ws ns → (ns.length : Int) ≤ most → (ws ≠ [] → ns ≠ []) → Jar H' p c → Kp [p, c] H H' → H l = none → H' l = some (.lst (ns.map V.int)) → Q (.ref l) H'
def lastI (ns : List Int) : Int := ns.getLastD 0
theorem lastI_eq {ns : List Int} (h : ns ≠ []) : lastI ns = ns.getLast h := by
  unfold lastI; rw [List.getLastD_eq_getLast?, List.getLast?_eq_some_getLast h]; rfl
theorem lastI_mem {ns : List Int} (h : ns ≠ []) : lastI ns ∈ ns := by rw [lastI_eq h]; exact List.getLast_mem h
structure WI (p c : Addr) (ws : List Way) (H0 H : Hp) (l : Addr) (ns : List Int) (most : Int) : Prop where
  j : Jar H p c
  k : Kp [p, c] H0 H
  n : H0 l = none
  nl : l ∉ [p, c]
  l : H l = some (.lst (ns.map V.int))
  i : InW ws ns
  c : Chain ws ns
  z : (ns.length : Int) ≤ most
  e : ws ≠ [] → ns ≠ []
theorem eqv_ints_nil (ns : List Int) : PyData.eqv (.list (ns.map PyData.int)) (.list []) = ns.isEmpty := eqv_nil ns
theorem Rep.lints {ex : List Addr} {H : Hp} {l : Addr} {ns : List Int} (h : H l = some (.lst (ns.map V.int))) (n : l ∉ ex) (z : ns.length ≤ sizeLine) : Rep ex H (.list (ns.map PyData.int)) (.ref l) :=
  .list h n (by rw [List.length_map]; exact z) (Reps.ints ns)
theorem Rep.tints {ex : List Addr} {H : Hp} {l : Addr} {ns : List Int} (h : H l = some (.tup (ns.map V.int))) (n : l ∉ ex) (z : ns.length ≤ sizeLine) : Rep ex H (.tuple (ns.map PyData.int)) (.ref l) :=
  .tuple h n (by rw [List.length_map]; exact z) (Reps.ints ns)
theorem Chain.add {ws : List Way} {ns : List Int} {k : Int} (c : Chain ws ns) (h : ∀ hn : ns ≠ [], (wayAt ws (lastI ns)).b = (wayAt ws k).a) : Chain ws (ns ++ [k]) := by
  cases hn : ns with
  | nil => trivial
  | cons a r =>
    have hne : ns ≠ [] := by rw [hn]; simp
    have e : ns = ns.dropLast ++ [ns.getLast hne] := (List.dropLast_concat_getLast hne).symm
    have h' := h hne
    rw [lastI_eq hne] at h'
    rw [← hn]
    rw [e] at c ⊢
    exact c.snoc h'
theorem ite_nt {A B : Prop} (h : B) : if (!true) = true then A else B := h
theorem at0 (x y z : V) : atI [x, y, z] 0 = some x := atI_nat (j := 0) rfl
theorem at1 (x y z : V) : atI [x, y, z] 1 = some y := atI_nat (j := 1) rfl
theorem at2 (x y z : V) : atI [x, y, z] 2 = some z := atI_nat (j := 2) rfl
end My

namespace L2
open PySem PySem.Spec PyProof.Rows
section
variable {X : Cx} {K' : PySem.W.Frag}
theorem ix_tupK (hK : X.K = K') : IxR X (rIxT K') := hK ▸ ix_tup
end
end L2

namespace L2
open PySem PySem.Spec PyProof.Rows
section
variable {X : Cx} {e st : Expr} {te : TE} {ts : TO} {pos p2 : Pos}
end
end L2
namespace L2
open PySem PySem.Spec PyProof.Rows
theorem op_mulB {X : Cx} : OpR X (binaryOp .Mult) (rI IntMulOk fun i j => .int (i * j)) := opI fun _ _ _ _ _ _ _ hc q => mul_int q hc
theorem ps_setD {X : Cx} {pos : Pos} {i : Nat} {x : Str} {e : Expr} {te : TE} {pos' : Pos} (hN : X.N.Nodup) (hi : X.N[i]? = some x) (hx : Loc X.env.scope x) (he : PEs X e te) (hs : swapsWith e (some (.Name x pos')) pos.line X.env = pure false := by rfl) (hf : X.fn x = true ∨ X.env.scope.names.lookup x = some .local := by first | exact .inl rfl | exact .inr rfl | assumption) : PS X (.Assign [.Name x pos'] e pos) (tAsg te (gName i)) := ps_set hN hi hx he.out hs hf
end L2

namespace My
open PySem PySem.Spec PyProof.Rows L2
end My

namespace L2
open PySem PySem.Spec PyProof.Rows
section
variable {X : Cx}
end
end L2
namespace My
open PySem PySem.Spec PyProof.Rows L2
end My

namespace L2
open PySem PySem.Spec PyProof.Rows
section
variable {prog : Program} {w : World} {A : Around} {E : Value → Shared → Prop} {s : Shared} {z TI TO j1 j2 j3 : Addr} {f1 f2 f3 : List Addr} {n1 n2 n3 i : Nat} {P1 P2 P3 : Nat → Value → Prop} {St1 St2 St3 : Nat → Heap → Prop} {a b c : Value}
end
end L2

namespace L2
open PySem PySem.Spec PyProof.Rows
section
variable {X : Cx} {es : List Expr} {kk : Nat} {tp : Pos}
end
end L2

namespace My
open PySem PySem.Spec PyProof.Rows L2
end My

namespace L2
open PySem PySem.Spec PyProof.Rows
section
variable {X : Cx}
end
end L2
namespace My
open PySem PySem.Spec PyProof.Rows L2
end My

namespace My
open PySem PySem.Spec PyProof.Rows L2
def nnD (x : PyData) : Bool := match x with | .int i => decide (0 ≤ i) | _ => false
def numsD (d : PyData) (n : Int) : Bool := match d with
  | .tuple xs => decide ((xs.length : Int) = n) && xs.all nnD
  | _ => false
def spNums : Sp := fun vs H Q _ => ∃ ex d v n, vs = [v, .int n] ∧ Rep ex H d v ∧ ∀ H', Kp [] H H' → Q (.bl (numsD d n)) H'
theorem numsD_not {d : PyData} {n : Int} (h : tupD d n = false) : numsD d n = false := by
  cases d with
  | tuple xs =>
    have h : decide ((xs.length : Int) = n) = false := h
    show (decide ((xs.length : Int) = n) && xs.all nnD) = false
    rw [h]; rfl
  | _ => rfl
theorem tupD_tup {d : PyData} {n : Int} (h : tupD d n = true) : ∃ xs, d = .tuple xs ∧ (xs.length : Int) = n := by
  cases d with
  | tuple xs => exact ⟨xs, rfl, by simpa [tupD] using h⟩
  | _ => cases h
end My

namespace My
open PySem PySem.Spec PyProof.Rows L2
end My

namespace My
open PySem PySem.Spec PyProof.Rows L2
theorem Kp.late {ex : List Addr} {H1 H2 : Hp} {a : Addr} (k : Kp ex H1 H2) (h : H1 a = none) (o : HO) : Kp ex H1 (upd H2 a o) := fun b v e n => by
  rw [upd_ne (ne_of_none e h)]; exact k b v e n
theorem rep0 (k : Nat) : (List.replicate k [V.int 0]).flatten = (List.replicate k (0 : Int)).map V.int := by
  induction k with
  | zero => rfl
  | succ k ih => rw [List.replicate_succ, List.flatten_cons, ih, List.replicate_succ]; rfl
end My

namespace My
open PySem PySem.Spec PyProof.Rows L2
section
variable {X : Cx} {pos : Pos} {k : Nat}
end
end My

namespace My
open PySem PySem.Spec PyProof.Rows L2
theorem comp1_tupF {K : PySem.W.Frag} {a : Addr} {xs : List V} {tt : TT} {te : TE} {l : Addr} {fr : L2.St} {o0 : Option V} {H1 : Hp} {Q : Hp → Prop} (ft : Nat → Bool) (fe : Nat → V) (hq : SqT K H1 a xs) (hz : xs.length ≤ sizeLine) (hl0 : H1 l = none)
    (test : ∀ i x H (M : Bool → Hp → Prop), xs[i]? = some x → Kp [] H1 H → (∀ H3, Kp [] H H3 → M (ft i) H3) → tt (some x :: fr) H M)
    (step : ∀ i x H (N : VK), ft i = true → xs[i]? = some x → Kp [] H1 H → (∀ H4, Kp [] H H4 → N (fe i) H4) → te (some x :: fr) H N)
    (fin : ∀ H, Kp [] H1 H → H l = some (.lst (((List.range xs.length).filter ft).map fe)) → Q H) :
    cTurns (Itt K a) (gName 0) tt te l (o0 :: fr) (upd H1 l (.lst [])) Q := by
  have hs : ∀ {H : Hp}, Kp [] H1 H → SqT K H a xs := fun {H} k => by
    rcases hq with (q | ⟨o, q⟩) | q
    · exact .inl (.inl (k _ _ q (by simp)))
    · exact .inl (.inr ⟨o, k _ _ q (by simp)⟩)
    · exact .inr q
  refine comp1 xs.length (CPureF H1 ft fe) ⟨Kp.new hl0 _, rfl⟩ upd_same (fun i H ys hi p _ => ⟨xs, xs[i], hs p.1, List.getElem?_eq_getElem hi⟩) (fun H ys p _ => ⟨xs, hs p.1, Nat.le_refl _⟩) (fun i H ys x H' hi p hl y => ?_) fun H ys p hl => ?_
  · obtain ⟨rfl, hx⟩ := y
    obtain ⟨k1, rfl⟩ := p
    have hlen := filt_len (ft := ft) (fe := fe) i
    have hx := hx xs (hs k1)
    refine test i x _ _ hx k1 fun H3 k3 => ?_
    have hl3 : H3 l = some (.lst (((List.range i).filter ft).map fe)) := k3 _ _ hl (by simp)
    cases hft : ft i with
    | true =>
      refine iteT (step i x _ _ hft hx (k1.trans k3) fun H4 k4 => ?_)
      refine CNext.intro hi (k4 _ _ hl3 (by simp)) (by omega) ⟨fun d o e n => ?_, (filt_yes hft).symm⟩
      rw [upd_ne (ne_of_none e hl0)]; exact k4 _ _ (k3 _ _ (k1 _ _ e n) n) n
    | false =>
      refine iteF ?_
      exact CSkip.intro hi hl3 ⟨k1.trans k3, (filt_no hft).symm⟩
  · obtain ⟨k1, rfl⟩ := p
    exact fin H k1 hl
end My

namespace My
open PySem PySem.Spec PyProof.Rows L2
end My

namespace L2
open PySem PySem.Spec PyProof.Rows
section
variable {X : Cx}
end
end L2

namespace My
open PySem PySem.Spec PyProof.Rows L2
end My

namespace My
open PySem PySem.Spec PyProof.Rows L2
theorem comp1_listP {K : PySem.W.Frag} {a : Addr} {xs : List V} {tt : TT} {te : TE} {l : Addr} {fr : L2.St} {o0 : Option V} {H0 : Hp} {Q : Hp → Prop} (Pv : Nat → List V → Hp → Prop) (h0 : Pv 0 [] H0) (hl0 : H0 l = some (.lst [])) (hsq : ∀ i ys H, Pv i ys H → SqL K H a xs)
    (step : ∀ i x H ys, i < xs.length → xs[i]? = some x → Pv i ys H → H l = some (.lst ys) → tt (some x :: fr) H fun c H3 => if c = true then te (some x :: fr) H3 (CNext xs.length l fr Pv i x) else CSkip xs.length l fr Pv i x H3)
    (fin : ∀ H ys, Pv xs.length ys H → H l = some (.lst ys) → Q H) : cTurns (Itl K a) (gName 0) tt te l (o0 :: fr) H0 Q := by
  refine comp1 xs.length Pv h0 hl0 (fun i H ys hi p _ => ⟨xs, xs[i], hsq _ _ _ p, List.getElem?_eq_getElem hi⟩) (fun H ys p _ => ⟨xs, hsq _ _ _ p, Nat.le_refl _⟩) (fun i H ys x H' hi p hl y => ?_) fin
  obtain ⟨rfl, hx⟩ := y
  exact step i x H' ys hi (hx xs (hsq _ _ _ p)) p hl
end My

namespace My
open PySem PySem.Spec PyProof.Rows L2
section
variable {p c sl : Addr} {R U : Int} {ws : List Way} {bv : V} {sums : List (List Int × List Int)} {svs : List V} {H H' : Hp} {n m : Nat}
end
theorem repT_all {H : Hp} {t0 : Addr} {k nz : Int} {Q : VK} (h0 : H t0 = none) (hk : 1 ≤ k) (q : ∀ t H', Kp [] H H' → H t = none → H' t = some (.tup ((List.replicate k.toNat nz).map V.int)) → Q (.ref t) H') :
    (k = 1 → Q (.ref t0) (upd H t0 (.tup [.int nz]))) ∧ (k ≠ 1 → ∀ p, upd H t0 (.tup [.int nz]) p = none → Q (.ref p) (upd (upd H t0 (.tup [.int nz])) p (.tup (List.replicate k.toNat [V.int nz]).flatten))) := by
  constructor
  · rintro rfl
    exact q _ _ (Kp.new h0 _) h0 upd_same
  · intro _ p hp
    have k1 : Kp [] H (upd H t0 (.tup [.int nz])) := Kp.new h0 _
    refine q p _ (k1.trans (Kp.new hp _)) (Kp.free k1 hp (by simp)) ?_
    rw [upd_same, flat1, List.map_replicate]
theorem repT1 {K : PySem.W.Frag} {H : Hp} {t0 : Addr} {k nz : Int} {Q : VK} (h0 : H t0 = none) (hk : 1 ≤ k) (hk2 : k ≤ 1000) (q : ∀ t H', Kp [] H H' → H t = none → H' t = some (.tup ((List.replicate k.toNat nz).map V.int)) → Q (.ref t) H') :
    rRepT K (.ref t0) (.int k) (upd H t0 (.tup [.int nz])) Q :=
  ⟨t0, k, _, rfl, rfl, SqT.of upd_same, by simp, by omega, by rw [sizeLine_eq]; simp; omega, repT_all h0 hk q⟩
end My

namespace L2
open PySem PySem.Spec PyProof.Rows
section
variable {P : Program} {w : World} {H H' : Hp} {h h' : Heap} {a : Addr} {o : HO}
end
section
variable {X : Cx} {pins : List (Addr × Obj)} {σ : St} {H H' : Hp} {s s' : Shared}
end
section
variable {P : Program} {w : World} {K : PySem.W.Frag} {mg : Str → Option Value} {base : Heap} {N : List Str} {qual : Str} {scope : Scope} {f : Addr} {cd : Value} {A : Around} {outer : List Env} {s₀ : Shared} {H₀ : Hp} {E : XK}
end
end L2

namespace L2
open PySem PySem.Spec PyProof.Rows PySem.W Builtin Builtin.ObjectAttr Builtin.Getset_descriptor
section
variable {prog : Program} {w : World} {A : Around} {E : Value → Shared → Prop} {s : Shared} {K : PySem.W.Frag} {x D : Addr} {R : Result → Shared → Prop}
end
end L2

namespace L2
open PySem PySem.Spec PyProof.Rows
section
variable {P : Program} {w : World} {K : PySem.W.Frag} {mg : Str → Option Value} {base : Heap} {N : List Str} {qual : Str} {scope : Scope} {f : Addr} {cd : Value} {A : Around} {outer : List Env} {s₀ : Shared} {H₀ : Hp} {E : XK}
  {x : Str} {C : Addr} {e : Expr} {es : List Expr} {np cpos pos : Pos} {t : TA}
end
section
variable {P : Program} {w : World} {K : PySem.W.Frag} {mg : Str → Option Value} {base : Heap}
end
section
variable {X : Cx} {x : Str} {e : Expr} {es : List Expr} {p pos : Pos} {t : TA} {k : Nat} {ps : List Str} {sp : Sp} {E : XK}
end
section
variable {X : Cx} {x y : Str} {e : Expr} {es : List Expr} {p p' pos apos : Pos} {t : TA} {k : Nat} {ps : List Str} {sp : Sp}
end
end L2

namespace L2
open PySem PySem.Spec PyProof.Rows
section
variable {X : Cx} {pins : List (Addr × Obj)} {σ σ0 : St} {H H0 : Hp} {s s0 : Shared} {B h' : Heap}
end
end L2

namespace L2
open PySem PySem.Spec PyProof.Rows
section
variable {X : Cx} {body : List Stmt} {tb : TSX} {ts : TS} {b₀ : Stmt} {suite : List Stmt} {c n : Str} {C : Addr} {i : Nat} {np hpos pos : Pos}
end
end L2

namespace L2
open PySem PySem.Spec PyProof.Rows PySem.SeqAt
section
variable {P : Program} {w : World} {K : PySem.W.Frag} {mg : Str → Option Value} {base : Heap}
end
section
variable {X : Cx} {x : Str} {e : Expr} {es : List Expr} {p pos : Pos} {t : TA} {k : Nat} {ps : List Str} {sp : Sp}
end
end L2

namespace L2
open PySem PySem.Spec PyProof.Rows
section
variable {K : PySem.W.Frag} {mg : Str → Option Value} {z : Er}
end
section
variable {X : Cx} {v : Expr} {te : TE} {a b : Str} {ja jb : Nat} {pa pb pf pos : Pos}
end
end L2

namespace L2
open PySem PySem.Spec PyProof.Rows
section
variable {X : Cx} {x : Str} {e : Expr} {es : List Expr} {p pos apos : Pos} {t : TA} {k : Nat} {ps : List Str} {sp : Sp}
variable {body : List Stmt} {tb : TSX} {ts : TS} {b₀ : Stmt} {suite : List Stmt} {c : Str} {C : Addr} {np hpos : Pos}
end
end L2
namespace My
open PySem PySem.Spec PyProof.Rows L2
end My
namespace My
open PySem PySem.Spec PyProof.Rows L2
end My
namespace My
open PySem PySem.Spec PyProof.Rows L2
end My
namespace My
open PySem PySem.Spec PyProof.Rows L2
end My

namespace HT
open PySem PySem.Spec PyProof.Rows
section
variable {prog : Program} {w : World} {A : Around} {E : Value → Shared → Prop} {s : Shared}
end
end HT
namespace L2
open PySem PySem.Spec PyProof.Rows
end L2
namespace My
open PySem PySem.Spec PyProof.Rows L2
end My
namespace My
open PySem PySem.Spec PyProof.Rows L2
end My

namespace My
open PySem PySem.Spec PyProof.Rows L2
end My

namespace L2
open PySem PySem.Spec PyProof.Rows
theorem comp2_zipF {K : PySem.W.Frag} {b b' : Bool} {a c : Addr} {xs xs' : List V} {tt : TT} {te : TE} {l : Addr} {fr : St} {o0 o1 : Option V} {H1 : Hp} {Q : Hp → Prop} (ft : Nat → Bool) (fe : Nat → V) (hq : SqK b K H1 a xs) (hq' : SqK b' K H1 c xs') (n : Nat) (hn : min xs.length xs'.length = n) (hz : n ≤ sizeLine) (hl0 : H1 l = none)
    (test : ∀ i x x' H (M : Bool → Hp → Prop), i < n → xs[i]? = some x → xs'[i]? = some x' → Kp [] H1 H → (∀ H3, Kp [] H H3 → M (ft i) H3) → tt (some x :: some x' :: fr) H M)
    (step : ∀ i x x' H (N : VK), ft i = true → i < n → xs[i]? = some x → xs'[i]? = some x' → Kp [] H1 H → (∀ H4, Kp [] H H4 → N (fe i) H4) → te (some x :: some x' :: fr) H N)
    (fin : ∀ H, Kp [] H1 H → H l = some (.lst (((List.range n).filter ft).map fe)) → Q H) :
    cTurns (Itz b b' K a c) (gTwo K) tt te l (o0 :: o1 :: fr) (upd H1 l (.lst [])) Q := by
  refine comp2 n (CPureF H1 ft fe) ⟨Kp.new hl0 _, rfl⟩ upd_same (fun i H ys hi p _ => ⟨xs, xs', xs[i]'(by omega), xs'[i]'(by omega), hq.kp p.1, hq'.kp p.1, List.getElem?_eq_getElem _, List.getElem?_eq_getElem _⟩) (fun H ys p _ => ⟨xs, xs', hq.kp p.1, hq'.kp p.1, hn⟩) (fun i H ys v H' hi p hl y => ?_) fun H ys p hl => ?_
  · obtain ⟨t, x, x', ht, rfl, rfl, hx, hx'⟩ := y
    obtain ⟨k1, rfl⟩ := p
    have hx := hx xs (hq.kp k1)
    have hx' := hx' xs' (hq'.kp k1)
    have k2 : Kp [] H (upd H t (.tup [x, x'])) := Kp.new ht _
    have hlen := filt_len (ft := ft) (fe := fe) i
    refine ⟨t, x, x', rfl, SqT.of upd_same, test i x x' _ _ hi hx hx' (k1.trans k2) fun H3 k3 => ?_⟩
    have hl3 : H3 l = some (.lst (((List.range i).filter ft).map fe)) := k3 _ _ (k2 _ _ hl (by simp)) (by simp)
    cases hft : ft i with
    | true =>
      refine iteT (step i x x' _ _ hft hi hx hx' ((k1.trans k2).trans k3) fun H4 k4 => ?_)
      refine CNext2.intro hi (k4 _ _ hl3 (by simp)) (by omega) ⟨fun d o e n => ?_, (filt_yes hft).symm⟩
      rw [upd_ne (ne_of_none e hl0)]; exact k4 _ _ (k3 _ _ (k2 _ _ (k1 _ _ e n) n) n) n
    | false =>
      refine iteF ?_
      exact CSkip2.intro hi hl3 ⟨(k1.trans k2).trans k3, (filt_no hft).symm⟩
  · obtain ⟨k1, rfl⟩ := p
    exact fin H k1 hl
end L2
namespace My
open PySem PySem.Spec PyProof.Rows L2
section
variable {p c wl : Addr} {R U : Int} {ws : List Way} {bv fv hv : V} {r : Int} {xs : List Int} {Hs H H' : Hp} {ns : List Int}
end
end My
namespace My
open PySem PySem.Spec PyProof.Rows L2
end My
namespace My
open PySem PySem.Spec PyProof.Rows L2
end My
namespace L2
open PySem PySem.Spec PyProof.Rows
end L2

namespace L2
open PySem PySem.Spec PyProof.Rows
section
variable {prog : Program} {w : World} {A : Around} {E : Value → Shared → Prop} {s : Shared} {l : Addr} {xs : Array (Int × Tok)}
end
section
variable {X : Cx}
end
end L2

namespace My
open PySem PySem.Spec PyProof.Rows L2
end My
namespace My
open PySem PySem.Spec PyProof.Rows L2
end My
namespace My
open PySem PySem.Spec PyProof.Rows L2
end My

namespace My
open PySem PySem.Spec PyProof.Rows L2
def Pth (ws : List Way) : Int → List Int → Int → Prop
  | a, [], b => a = b
  | a, k :: ns, b => (0 ≤ k ∧ k < ws.length) ∧ (wayAt ws k).a = a ∧ Pth ws (wayAt ws k).b ns b
theorem Pth.app {ws : List Way} : ∀ {ms : List Int} {a b c : Int} {ns : List Int}, Pth ws a ms b → Pth ws b ns c → Pth ws a (ms ++ ns) c
  | [], _, _, _, _, h, g => by cases h; exact g
  | _ :: _, _, _, _, _, h, g => ⟨h.1, h.2.1, h.2.2.app g⟩
theorem Pth.inW {ws : List Way} : ∀ {ms : List Int} {a b : Int}, Pth ws a ms b → InW ws ms
  | [], _, _, _ => fun k hk => by cases hk
  | k :: ms, _, _, h => fun j hj => by
    rcases List.mem_cons.mp hj with rfl | hj
    · exact h.1
    · exact h.2.2.inW j hj
theorem nodup_le : ∀ (n : Nat) (l : List Nat), l.Nodup → (∀ x ∈ l, x < n) → l.length ≤ n := by
  intro n
  induction n with
  | zero =>
    intro l _ h
    cases l with
    | nil => exact Nat.le_refl _
    | cons a l => exact absurd (h a List.mem_cons_self) (Nat.not_lt_zero _)
  | succ n ih =>
    intro l nd h
    by_cases hm : n ∈ l
    · have e := ih (l.erase n) (nd.erase n) fun x hx => by
        have hx' := (List.Nodup.mem_erase_iff nd).mp hx
        have := h x hx'.2
        omega
      rw [List.length_erase_of_mem hm] at e
      omega
    · have := ih l nd fun x hx => by
        have := h x hx
        have : x ≠ n := fun z => hm (z ▸ hx)
        omega
      omega
theorem nodup_leI {R : Int} (hR : 0 ≤ R) {l : List Int} (nd : l.Nodup) (h : ∀ x ∈ l, 0 ≤ x ∧ x < R) : (l.length : Int) ≤ R := by
  have := nodup_le R.toNat (l.map Int.toNat) (by
    rw [List.nodup_iff_pairwise_ne] at nd ⊢
    rw [List.pairwise_map]
    exact nd.imp_of_mem fun ha hb hne => by
      have := h _ ha
      have := h _ hb
      omega) (fun x hx => by
    obtain ⟨y, hy, rfl⟩ := List.mem_map.mp hx
    have := h y hy
    omega)
  rw [List.length_map] at this
  omega
abbrev KE := Int × Addr × List Int
def keV (e : KE) : Key × V := (Sum.inl e.1, V.ref e.2.1)
theorem ke_some {ks : List KE} {m : Int} (h : m ∈ ks.map (·.1)) : ∃ e ∈ ks, e.1 = m ∧ valV (ks.map keV) (Sum.inl m) = some (.ref e.2.1) := by
  induction ks with
  | nil => cases h
  | cons e ks ih =>
    by_cases he : e.1 = m
    · exact ⟨e, List.mem_cons_self, he, by rw [List.map_cons]; exact valV_pos (by show Sum.inl e.1 = _; rw [he])⟩
    · rw [List.map_cons] at h
      rcases List.mem_cons.mp h with h | h
      · exact absurd h.symm he
      · obtain ⟨e', h1, h2, h3⟩ := ih h
        refine ⟨e', List.mem_cons_of_mem _ h1, h2, ?_⟩
        rw [List.map_cons]
        unfold valV at h3 ⊢
        rw [List.find?_cons_of_neg (by simp [keV, he])]
        exact h3
theorem ke_none {ks : List KE} {m : Int} (h : m ∉ ks.map (·.1)) : valV (ks.map keV) (Sum.inl m) = none ∧ ∀ v, putK (ks.map keV) (Sum.inl m) v = ks.map keV ++ [(Sum.inl m, v)] := by
  have e : ∀ kv ∈ ks.map keV, kv.1 ≠ Sum.inl m := fun kv hkv z => by
    obtain ⟨x, hx, rfl⟩ := List.mem_map.mp hkv
    exact h (List.mem_map.mpr ⟨x, hx, Sum.inl.inj z⟩)
  constructor
  · unfold valV
    rw [List.find?_eq_none.mpr fun kv hkv => by simpa using e kv hkv]
    rfl
  · intro v
    unfold putK
    rw [if_neg]
    rw [Bool.not_eq_true, List.any_eq_false]
    intro kv hkv
    simpa using e kv hkv
structure BkI (R : Int) (ws : List Way) (first : Int) (kd wl : Addr) (H0 H : Hp) (ks : List KE) (ms : List Int) : Prop where
  k : Kp [] H0 H
  fk : H0 kd = none
  fw : H0 wl = none
  ne : kd ≠ wl
  d : H kd = some (.dK (ks.map keV))
  w : H wl = some (.lst (ms.map V.int))
  p : ∀ e ∈ ks, H e.2.1 = some (.lst (e.2.2.map V.int)) ∧ H0 e.2.1 = none ∧ e.2.1 ≠ kd ∧ e.2.1 ≠ wl ∧ Pth ws first e.2.2 e.1 ∧ e.2.2.length + 1 ≤ ks.length ∧ 0 ≤ e.1 ∧ e.1 < R
  nd : (ks.map (·.1)).Nodup
  wk : ∀ m ∈ ms, m ∈ ks.map (·.1)
theorem BkI.kp {R : Int} {ws : List Way} {first : Int} {kd wl : Addr} {H0 H H' : Hp} {ks : List KE} {ms : List Int} (I : BkI R ws first kd wl H0 H ks ms) (k : Kp [] H H') : BkI R ws first kd wl H0 H' ks ms :=
  ⟨I.k.trans k, I.fk, I.fw, I.ne, k _ _ I.d (by simp), k _ _ I.w (by simp), fun e he => by
    obtain ⟨h1, h2⟩ := I.p e he
    exact ⟨k _ _ h1 (by simp), h2⟩, I.nd, I.wk⟩
theorem BkI.len {R : Int} {ws : List Way} {first : Int} {kd wl : Addr} {H0 H : Hp} {ks : List KE} {ms : List Int} (I : BkI R ws first kd wl H0 H ks ms) (hR : 0 ≤ R) : (ks.length : Int) ≤ R := by
  have := nodup_leI hR I.nd fun x hx => by
    obtain ⟨e, he, rfl⟩ := List.mem_map.mp hx
    exact (I.p e he).2.2.2.2.2.2
  rw [List.length_map] at this; exact this
theorem BkI.setw {R : Int} {ws : List Way} {first : Int} {kd wl : Addr} {H0 H : Hp} {ks : List KE} {ms : List Int} (I : BkI R ws first kd wl H0 H ks ms) {xs : List V} {ns : List Int} (e : xs = ns.map V.int) (h : ∀ m ∈ ns, m ∈ ks.map (·.1)) : BkI R ws first kd wl H0 (upd H wl (.lst xs)) ks ns := by
  subst e
  refine ⟨fun b o e n => ?_, I.fk, I.fw, I.ne, by rw [upd_ne I.ne]; exact I.d, upd_same, fun e he => ?_, I.nd, h⟩
  · rw [upd_ne (ne_of_none e I.fw)]; exact I.k _ _ e n
  · obtain ⟨h1, h2, h3, h4, h5⟩ := I.p e he
    exact ⟨by rw [upd_ne h4]; exact h1, h2, h3, h4, h5⟩
theorem BkI.add {R : Int} {ws : List Way} {first : Int} {kd wl : Addr} {H0 H : Hp} {ks : List KE} {ms : List Int} (I : BkI R ws first kd wl H0 H ks ms) {m : Int} {a : Addr} {ns : List Int} (hm : m ∉ ks.map (·.1)) (ha : H a = some (.lst (ns.map V.int))) (fa : H0 a = none) (n1 : a ≠ kd) (n2 : a ≠ wl) (hp : Pth ws first ns m) (hz : ns.length ≤ ks.length) (hR : 0 ≤ m ∧ m < R) :
    BkI R ws first kd wl H0 (upd H kd (.dK (putK (ks.map keV) (Sum.inl m) (.ref a)))) (ks ++ [(m, a, ns)]) ms := by
  rw [(ke_none hm).2]
  refine ⟨fun b o e n => ?_, I.fk, I.fw, I.ne, ?_, by rw [upd_ne I.ne.symm]; exact I.w, fun e he => ?_, ?_, fun x hx => ?_⟩
  · rw [upd_ne (ne_of_none e I.fk)]; exact I.k _ _ e n
  · rw [upd_same, List.map_append]; rfl
  · rw [List.length_append]
    rcases List.mem_append.mp he with he | he
    · obtain ⟨h1, h2, h3, h4, h5, h6, h7⟩ := I.p e he
      exact ⟨by rw [upd_ne h3]; exact h1, h2, h3, h4, h5, Nat.le_trans h6 (Nat.le_add_right _ _), h7⟩
    · obtain rfl := List.mem_singleton.mp he
      exact ⟨by rw [upd_ne n1]; exact ha, fa, n1, n2, hp, Nat.add_le_add hz (Nat.le_refl 1), hR⟩
  · rw [List.map_append, List.nodup_append]
    refine ⟨I.nd, by simp, fun x hx y hy => ?_⟩
    rw [List.map_singleton, List.mem_singleton] at hy
    rintro rfl
    have hy : x = m := hy
    exact hm (hy ▸ hx)
  · rw [List.map_append]
    exact List.mem_append_left _ (I.wk x hx)
def spBack : Sp := fun vs H Q _ => ∃ (ex : List Addr) (R U : Int) (ws : List Way) (bv : V) (first last : Int), vs = [bv, .int first, .int last] ∧ Rep ex H (bookPD R U ws) bv ∧ BookOk R U ws ∧ (0 ≤ first ∧ first < R) ∧
  (∀ H', Kp [] H H' → Q .non H') ∧ ∀ l ns H', Kp [] H H' → H l = none → H' l = some (.lst (ns.map V.int)) → Pth ws first ns last → ns.length ≤ 12 → Q (.ref l) H'
end My

namespace L2
open PySem PySem.Spec PyProof.Rows
section
variable {X : Cx}
theorem any_ints (ns : List Int) : ((List.range ns.length).any fun i => decide (ns.getD i 0 ≠ 0)) = ns.any (fun n => decide (n ≠ 0)) := by
  rw [Bool.eq_iff_iff]
  simp only [List.any_eq_true, List.mem_range]
  constructor
  · rintro ⟨i, hi, h⟩
    rw [List.getD_eq_getElem?_getD, List.getElem?_eq_getElem hi] at h
    exact ⟨_, List.getElem_mem hi, h⟩
  · rintro ⟨n, hn, h⟩
    obtain ⟨i, hi, rfl⟩ := List.mem_iff_getElem.mp hn
    exact ⟨i, hi, by rw [List.getD_eq_getElem?_getD, List.getElem?_eq_getElem hi]; exact h⟩
theorem int_at {ns : List Int} {its : List Value} (rv : Vals (ns.map V.int) its) {i : Nat} {v : Value} (h : its[i]? = some v) : ∃ t, v = .int (ns.getD i 0) t := by
  have hi : i < its.length := (List.getElem?_eq_some_iff.mp h).1
  have hlen := rv.length
  rw [List.length_map] at hlen
  have hb : (ns.map V.int)[i]? = some (V.int (ns.getD i 0)) := by
    rw [List.getElem?_map, List.getElem?_eq_getElem (by omega), List.getD_eq_getElem?_getD, List.getElem?_eq_getElem (by omega)]
    rfl
  obtain ⟨u, hu, ru⟩ := rv.get hb
  rw [h] at hu
  cases hu
  exact ru
theorem call_anyL (hc : X.calm = true) : CallR X (.builtin "any") (fun xs H Q => ∃ (p : Addr) (ns : List Int), xs = [.ref p] ∧ SqL X.K H p (ns.map V.int) ∧ Q (.bl (ns.any fun n => decide (n ≠ 0))) H) := by
  intro pins s σ H xs us Q I r h
  obtain ⟨p, ns, rfl, hq, q⟩ := h
  obtain ⟨u, rfl, ru⟩ := vals1 r
  cases ru
  obtain ⟨its, rv, pl, hz⟩ := I.list hq
  have hl := pl.isList
  have hlt : p < s.heap.objs.size := by obtain ⟨_, e, _⟩ := hl; exact Heap.lt_size e
  have hlen := rv.length
  rw [List.length_map] at hlen
  refine call_any_walk (wpAny_pyIter_list hl ?_)
  refine ⟨_, _, _, _, _, _, fun i => decide (ns.getD i 0 ≠ 0), rfl, Walks.list (A := X.A.in1) (I.ok.hd hc) _ p (Nat.ne_of_lt hlt) its.toArray, ⟨⟨_, Heap.get?_push_size _ rfl, rfl, rfl⟩, hl.push _⟩, ?_, fun h' tk hk => ?_⟩
  · intro i v s' Q' E' hP hQ
    obtain ⟨t, rfl⟩ := int_at rv (by simpa using hP)
    have e : ((ns.getD i 0) != 0) = decide (ns.getD i 0 ≠ 0) := by
      rw [Bool.eq_iff_iff]; simp
    exact PySem.P.truthy_int (by rw [e]; exact hQ)
  · rw [List.size_toArray, ← hlen, any_ints]
    exact ⟨.bl _, H, I.kept (t' := tk) (old_kept hk), rfl, q⟩
theorem call_anyT (hc : X.calm = true) : CallR X (.builtin "any") (fun xs H Q => ∃ (p : Addr) (ns : List Int), xs = [.ref p] ∧ SqT X.K H p (ns.map V.int) ∧ Q (.bl (ns.any fun n => decide (n ≠ 0))) H) := by
  intro pins s σ H xs us Q I r h
  obtain ⟨p, ns, rfl, hq, q⟩ := h
  obtain ⟨u, rfl, ru⟩ := vals1 r
  cases ru
  obtain ⟨its, rv, hl, hz⟩ := I.tuple hq
  have hlt : p < s.heap.objs.size := by obtain ⟨_, e, _⟩ := hl; exact Heap.lt_size e
  have hlen := rv.length
  rw [List.length_map] at hlen
  refine call_any_walk (wpAny_pyIter_tuple hl ?_)
  refine ⟨_, _, _, _, _, _, fun i => decide (ns.getD i 0 ≠ 0), rfl, Walks.tuple (A := X.A.in1) (I.ok.hd hc) _ p (Nat.ne_of_lt hlt) its.toArray, ⟨⟨_, Heap.get?_push_size _ rfl, rfl, rfl⟩, hl.push _⟩, ?_, fun h' tk hk => ?_⟩
  · intro i v s' Q' E' hP hQ
    obtain ⟨t, rfl⟩ := int_at rv (by simpa using hP)
    have e : ((ns.getD i 0) != 0) = decide (ns.getD i 0 ≠ 0) := by
      rw [Bool.eq_iff_iff]; simp
    exact PySem.P.truthy_int (by rw [e]; exact hQ)
  · rw [List.size_toArray, ← hlen, any_ints]
    refine ⟨.bl _, H, I.kept (t' := tk) (fun b o e => hk b o (fun hm => ?_) (Heap.get?_push_of_some _ e)), rfl, q⟩
    have := Heap.lt_size e
    rw [List.mem_singleton.mp hm] at this
    exact Nat.lt_irrefl _ this
def rGetL (K : PySem.W.Frag) : V → V → Hp → VK → Prop := fun o i H Q => ∃ p xs k x, o = .ref p ∧ i = .int k ∧ 0 ≤ k ∧ SqL K H p xs ∧ xs[k.toNat]? = some x ∧ Q x H
theorem get_list : PGet X (rGetL X.K) := by
  intro pins s σ H o i ov iv Q I ro ri h
  obtain ⟨p, xs, k, x, rfl, rfl, k0, hq, hx, q⟩ := h
  cases ro
  obtain ⟨t, rfl⟩ := ri
  obtain ⟨its, r, pl, hz⟩ := I.list hq
  obtain ⟨u, eu, ru⟩ := r.get hx
  have hn := line63
  have hi := (List.getElem?_eq_some_iff.mp hx).1
  exact wpAny_getItem_list pl.isList k0 (by omega) (by simpa using eu) ⟨x, H, I, ru, q⟩
end
theorem for_zip {K : PySem.W.Frag} {b b' : Bool} {a c : Addr} {xs xs' : List V} {g : TG} {tb : TS} {D : Ends} {σ : St} {H : Hp} (n : Nat) (hn : min xs.length xs'.length = n) (Pv : Nat → St → Hp → Prop) (h0 : Pv 0 σ H) (hl : ∀ i σ H, i ≤ n → Pv i σ H → SqK b K H a xs ∧ SqK b' K H c xs')
    (hs : ∀ i x x' σ H t, i < n → xs[i]? = some x → xs'[i]? = some x' → Pv i σ H → H t = none → g (.ref t) σ (upd H t (.tup [x, x'])) fun σ2 H2 => tb { D with nx := Pv (i + 1), ct := Pv (i + 1), bk := D.nx } σ2 H2) (hd : ∀ σ H, Pv n σ H → D.nx σ H) :
    ∃ W : Nat → Nat → St → Hp → Prop, (∃ m, W 0 m σ H) ∧ ∀ i m σ H, W i m σ H →
      ((Itz b b' K a c).stop i H ∧ D.nx σ H) ∨ ((Itz b b' K a c).go i H ∧ ∃ N : St → Hp → Prop, (∀ σ' H', N σ' H' → ∃ m', m' < m ∧ W (i + 1) m' σ' H') ∧ ∀ x H', (Itz b b' K a c).yld i H x H' → g x σ H' fun σ2 H2 => tb { D with nx := N, ct := N, bk := D.nx } σ2 H2) := by
  refine ⟨fun i m σ H => m = n - i ∧ i ≤ n ∧ Pv i σ H, ⟨n, by simp, Nat.zero_le _, h0⟩, ?_⟩
  rintro i m σ H ⟨rfl, hi, p⟩
  obtain ⟨q, q'⟩ := hl i σ H hi p
  by_cases hlt : i < n
  · refine .inr ⟨⟨xs, xs', xs[i]'(by omega), xs'[i]'(by omega), q, q', List.getElem?_eq_getElem _, List.getElem?_eq_getElem _⟩, Pv (i + 1), fun σ' H' p' => ⟨n - (i + 1), by omega, rfl, hlt, p'⟩, fun v H' y => ?_⟩
    obtain ⟨t, x, x', ht, rfl, rfl, hx, hx'⟩ := y
    exact hs i x x' σ H t hlt (hx xs q) (hx' xs' q') p ht
  · have e : i = n := by omega
    subst e
    exact .inl ⟨⟨xs, xs', q, q', hn⟩, hd σ H p⟩
end L2

namespace My
open PySem PySem.Spec PyProof.Rows L2
def moreI (ws : List Way) (cs : List Int) : Nat → Int → Int
  | 0, _ => 0
  | i + 1, r => moreI ws cs i r - (if (wayAt ws (i : Nat)).a = r then cs.getD i 0 else 0) + (if (wayAt ws (i : Nat)).b = r then cs.getD i 0 else 0)
def flowI (ws : List Way) (cs : List Int) (sel : Way → Int) (n : Nat) (r : Int) : List Int := ((List.range n).filter (fun i => decide (sel (wayAt ws (i : Nat)) = r))).map (fun i => cs.getD i 0)
theorem flow_succ (ws : List Way) (cs : List Int) (sel : Way → Int) (n : Nat) (r : Int) : (flowI ws cs sel (n + 1) r).sum = (flowI ws cs sel n r).sum + (if sel (wayAt ws (n : Nat)) = r then cs.getD n 0 else 0) := by
  unfold flowI
  rw [List.range_succ, List.filter_append, List.map_append, List.sum_append]
  by_cases h : sel (wayAt ws (n : Nat)) = r
  · simp [h]
  · simp [h]
theorem more_flow (ws : List Way) (cs : List Int) (r : Int) : ∀ n, moreI ws cs n r = (flowI ws cs (·.b) n r).sum - (flowI ws cs (·.a) n r).sum
  | 0 => rfl
  | n + 1 => by
    rw [flow_succ, flow_succ, moreI, more_flow ws cs r n]
    omega
def balB (R : Int) (ws : List Way) (cs : List Int) : Bool := (List.range R.toNat).all fun r => decide (moreI ws cs ws.length (r : Nat) = 0)
def roundB (R : Int) (ws : List Way) (cs : List Int) : Bool := cs.all (fun c => decide (0 ≤ c)) && (cs.any (fun c => decide (c ≠ 0)) && balB R ws cs)
theorem set_range {α : Type} (f : Nat → α) (n j : Nat) (v : α) : ((List.range n).map f).set j v = (List.range n).map fun i => if i = j then v else f i := by
  apply List.ext_getElem
  · simp
  · intro i h1 h2
    rw [List.getElem_set]
    simp only [List.getElem_map, List.getElem_range]
    by_cases e : j = i
    · rw [if_pos e, if_pos e.symm]
    · rw [if_neg e, if_neg fun z => e z.symm]
theorem set_more (f : Int → Int) (n : Nat) (a v c : Int) (h0 : 0 ≤ a) (hv : v = f a + c) : (((List.range n).map fun r => f (r : Nat)).map V.int).set a.toNat (.int v) = (((List.range n).map fun r => f (r : Nat) + (if a = ((r : Nat) : Int) then c else 0)).map V.int) := by
  rw [List.map_map, set_range, List.map_map]
  apply List.map_congr_left
  intro r _
  show (if r = a.toNat then V.int v else V.int (f (r : Nat))) = V.int (f (r : Nat) + (if a = ((r : Nat) : Int) then c else 0))
  by_cases e : r = a.toNat
  · have e' : a = (r : Int) := by omega
    rw [if_pos e, if_pos e', ← e', hv]
  · rw [if_neg e, if_neg (by omega), Int.add_zero]
theorem ixN_at {n : Nat} {k : Int} (h0 : 0 ≤ k) (h1 : k < n) : ixN n k = some k.toNat := by
  unfold ixN; rw [if_pos h0, if_pos h1]
theorem get_more (f : Int → Int) (n : Nat) (a : Int) (h0 : 0 ≤ a) (h1 : a < n) : (((List.range n).map fun r => f (r : Nat)).map V.int)[a.toNat]? = some (V.int (f a)) := by
  rw [List.map_map, List.getElem?_map, List.getElem?_eq_getElem (by rw [List.length_range]; omega)]
  simp only [List.getElem_range, Option.map_some, Function.comp]
  rw [show ((a.toNat : Nat) : Int) = a by omega]
theorem any_range (f : Nat → Int) (n : Nat) : (!(((List.range n).map f).any fun c => decide (c ≠ 0))) = (List.range n).all fun r => decide (f r = 0) := by
  rw [List.any_map, List.not_any_eq_all_not]
  congr 1
  funext r
  by_cases h : f r = 0 <;> simp [h]
theorem nums_cs (cs : List Int) (n : Int) (h : (cs.length : Int) = n) : numsD (.tuple (cs.map PyData.int)) n = cs.all (fun c => decide (0 ≤ c)) := by
  show (decide (((cs.map PyData.int).length : Int) = n) && (cs.map PyData.int).all nnD) = _
  rw [List.length_map, decide_eq_true h, Bool.true_and, List.all_map]
  congr 1
def pickI (cs : List Int) (ft : Nat → Bool) : List Int := ((List.range cs.length).filter ft).map fun i => cs.getD i 0
theorem pick_nil {cs : List Int} {ft : Nat → Bool} : pickI cs ft = [] ↔ ∀ i, i < cs.length → ft i = false := by
  unfold pickI
  rw [List.map_eq_nil_iff, List.filter_eq_nil_iff]
  simp only [List.mem_range, Bool.not_eq_true]
theorem pick_len (cs : List Int) (ft : Nat → Bool) : (pickI cs ft).length ≤ cs.length := by
  unfold pickI
  rw [List.length_map]
  exact Nat.le_trans (List.length_filter_le _ _) (by rw [List.length_range]; exact Nat.le_refl _)
theorem getD_at {cs : List Int} {i : Nat} (h : i < cs.length) : cs.getD i 0 = cs[i] := by
  rw [List.getD_eq_getElem?_getD, List.getElem?_eq_getElem h]; rfl
theorem pick_neg {cs : List Int} : pickI cs (fun i => decide (cs.getD i 0 < 0)) = [] ↔ cs.all (fun c => decide (0 ≤ c)) = true := by
  rw [pick_nil, List.all_eq_true]
  constructor
  · intro h c hc
    obtain ⟨i, hi, rfl⟩ := List.mem_iff_getElem.mp hc
    have := h i hi
    rw [getD_at hi] at this
    simpa using this
  · intro h i hi
    have := h cs[i] (List.getElem_mem hi)
    rw [getD_at hi]
    simpa using this
theorem pick_pos {cs : List Int} (ha : cs.all (fun c => decide (0 ≤ c)) = true) : pickI cs (fun i => decide (0 < cs.getD i 0)) = [] ↔ cs.any (fun c => decide (c ≠ 0)) = false := by
  rw [pick_nil, List.any_eq_false]
  rw [List.all_eq_true] at ha
  constructor
  · intro h c hc
    have h0 := ha c hc
    obtain ⟨i, hi, rfl⟩ := List.mem_iff_getElem.mp hc
    have := h i hi
    rw [getD_at hi] at this
    simp only [decide_eq_false_iff_not, decide_eq_true_eq] at this h0 ⊢
    omega
  · intro h i hi
    have := h cs[i] (List.getElem_mem hi)
    rw [getD_at hi]
    simp only [decide_eq_false_iff_not, decide_eq_true_eq] at this ⊢
    omega
def spBal : Sp := fun vs H Q _ => ∃ (ex : List Addr) (R U : Int) (ws : List Way) (bv : V) (ca : Addr) (cs : List Int), vs = [bv, .ref ca] ∧ Rep ex H (bookPD R U ws) bv ∧ BookOk R U ws ∧ H ca = some (.tup (cs.map V.int)) ∧ cs.length = ws.length ∧ ∀ H', Kp [] H H' → Q (.bl (balB R ws cs)) H'
def spRound : Sp := fun vs H Q _ => ∃ (ex : List Addr) (R U : Int) (ws : List Way) (bv : V) (ca : Addr) (cs : List Int), vs = [bv, .ref ca] ∧ Rep ex H (bookPD R U ws) bv ∧ BookOk R U ws ∧ H ca = some (.tup (cs.map V.int)) ∧ ca ∉ ex ∧ cs.length = ws.length ∧ ∀ H', Kp [] H H' → Q (.bl (roundB R ws cs)) H'
theorem chain_pth {ws : List Way} : ∀ {ns : List Int} {k : Int}, Chain ws (k :: ns) → InW ws (k :: ns) → Pth ws (wayAt ws k).a (k :: ns) (wayAt ws (lastI (k :: ns))).b
  | [], k, _, h => ⟨h k List.mem_cons_self, rfl, rfl⟩
  | j :: ns, k, c, h => ⟨h k List.mem_cons_self, rfl, by
      have := chain_pth (ns := ns) (k := j) c.2 fun m hm => h m (List.mem_cons_of_mem _ hm)
      rw [c.1]
      exact this⟩
def spClosed : Sp := fun vs H Q _ => ∃ (p c : Addr) (R U : Int) (ws : List Way) (bv : V) (most : Int), vs = [.ref p, bv, .int most] ∧ Jar H p c ∧ Rep [p, c] H (bookPD R U ws) bv ∧ BookOk R U ws ∧ (1 ≤ most ∧ most ≤ 5000) ∧
  ∀ (ns : List Int) (l : Addr) (H' : Hp), InW ws ns → (ns = [] ∨ ∃ a, Pth ws a ns a) → (ns.length : Int) ≤ most + 12 → Jar H' p c → Kp [p, c] H H' → H l = none → H' l = some (.lst (ns.map V.int)) → Q (.ref l) H'
abbrev WE := Addr × Int × Addr × List Int
def WEok (ws : List Way) (H : Hp) (e : WE) : Prop := H e.1 = some (.tup [.int e.2.1, .ref e.2.2.1]) ∧ H e.2.2.1 = some (.lst (e.2.2.2.map V.int)) ∧ InW ws e.2.2.2
def spCounts : Sp := fun vs H Q _ => ∃ (ex : List Addr) (R U : Int) (ws : List Way) (bv : V) (wl : Addr) (es : List WE), vs = [bv, .ref wl] ∧ Rep ex H (bookPD R U ws) bv ∧ BookOk R U ws ∧ H wl = some (.lst (es.map fun e => V.ref e.1)) ∧ (∀ e ∈ es, WEok ws H e) ∧
  ∀ (t : Addr) (cs : List Int) (H' : Hp), Kp [] H H' → H t = none → H' t = some (.tup (cs.map V.int)) → cs.length = ws.length → Q (.ref t) H'
def spBentC : Sp := fun vs H Q _ => ∃ (p c ca : Addr) (cs : List Int), vs = [.ref p, .ref ca] ∧ Jar H p c ∧ ca ∉ [p, c] ∧ H ca = some (.tup (cs.map V.int)) ∧ cs.length ≤ 60 ∧
  ∀ (t : Addr) (ds : List Int) (H' : Hp), Jar H' p c → Kp [p, c] H H' → H t = none → H' t = some (.tup (ds.map V.int)) → ds.length = cs.length → Q (.ref t) H'
end My

namespace My
open PySem PySem.Spec PyProof.Rows L2
def TOk (ws : List Way) (p c : Addr) (H : Hp) (t : Addr) : Prop := t ∉ [p, c] ∧ ∃ cs : List Int, H t = some (.tup (cs.map V.int)) ∧ cs.length = ws.length
theorem TOk.kp {ws : List Way} {p c t : Addr} {H H' : Hp} (h : TOk ws p c H t) (k : Kp [p, c] H H') : TOk ws p c H' t := by
  obtain ⟨n, cs, h1, h2⟩ := h
  exact ⟨n, cs, k _ _ h1 n, h2⟩
theorem TOk.upd {ws : List Way} {p c t l : Addr} {H : Hp} {xs : List V} {o : HO} (h : TOk ws p c H t) (hl : H l = some (.lst xs)) : TOk ws p c (upd H l o) t := by
  obtain ⟨n, cs, h1, h2⟩ := h
  have : t ≠ l := by rintro rfl; rw [h1] at hl; cases hl
  exact ⟨n, cs, by rw [upd_ne this]; exact h1, h2⟩
structure SmI (ws : List Way) (p c : Addr) (H0 H : Hp) (ls : Addr) (ts : List Addr) : Prop where
  k : Kp [p, c] H0 H
  j : Jar H p c
  f : H0 ls = none
  n : ls ∉ [p, c]
  l : H ls = some (.lst (ts.map V.ref))
  t : ∀ t ∈ ts, TOk ws p c H t
theorem SmI.kp {ws : List Way} {p c ls : Addr} {H0 H H' : Hp} {ts : List Addr} (I : SmI ws p c H0 H ls ts) (k : Kp [p, c] H H') (J : Jar H' p c) : SmI ws p c H0 H' ls ts :=
  ⟨I.k.trans k, J, I.f, I.n, k _ _ I.l I.n, fun t ht => (I.t t ht).kp k⟩
structure WkI (ws : List Way) (p c : Addr) (H0 H : Hp) (ls : Addr) (ts : List Addr) (wl : Addr) (es : List WE) : Prop where
  s : SmI ws p c H0 H ls ts
  fw : H0 wl = none
  nw : wl ∉ [p, c]
  ne : wl ≠ ls
  w : H wl = some (.lst (es.map fun e => V.ref e.1))
  e : ∀ e ∈ es, WEok ws H e ∧ e.1 ∉ [p, c] ∧ e.2.2.1 ∉ [p, c] ∧ e.2.2.1 ≠ wl
theorem WkI.kp {ws : List Way} {p c ls wl : Addr} {H0 H H' : Hp} {ts : List Addr} {es : List WE} (I : WkI ws p c H0 H ls ts wl es) (k : Kp [p, c] H H') (J : Jar H' p c) : WkI ws p c H0 H' ls ts wl es :=
  ⟨I.s.kp k J, I.fw, I.nw, I.ne, k _ _ I.w I.nw, fun e he => by
    obtain ⟨⟨h1, h2, h3⟩, n1, n2, n3⟩ := I.e e he
    exact ⟨⟨k _ _ h1 n1, k _ _ h2 n2, h3⟩, n1, n2, n3⟩⟩
theorem WkI.add {ws : List Way} {p c ls wl : Addr} {H0 H : Hp} {ts : List Addr} {es : List WE} (I : WkI ws p c H0 H ls ts wl es) {e : WE} (h : WEok ws H e) (n1 : e.1 ∉ [p, c]) (n2 : e.2.2.1 ∉ [p, c]) (n3 : e.2.2.1 ≠ wl) :
    WkI ws p c H0 (upd H wl (.lst ((es ++ [e]).map fun e => V.ref e.1))) ls ts wl (es ++ [e]) := by
  refine ⟨⟨fun b o q n => ?_, I.s.j.upd I.nw, I.s.f, I.s.n, by rw [upd_ne I.ne.symm]; exact I.s.l, fun t ht => (I.s.t t ht).upd I.w⟩, I.fw, I.nw, I.ne, upd_same, fun e' he => ?_⟩
  · rw [upd_ne (ne_of_none q I.fw)]; exact I.s.k _ _ q n
  · have key : ∀ e : WE, WEok ws H e → e.2.2.1 ≠ wl → WEok ws (upd H wl (.lst ((es ++ [e]).map fun e => V.ref e.1))) e ∧ ∀ o, WEok ws (upd H wl o) e := fun e h n => by
      obtain ⟨h1, h2, h3⟩ := h
      have : e.1 ≠ wl := by intro z; rw [z, I.w] at h1; cases h1
      exact ⟨⟨by rw [upd_ne this]; exact h1, by rw [upd_ne n]; exact h2, h3⟩, fun o => ⟨by rw [upd_ne this]; exact h1, by rw [upd_ne n]; exact h2, h3⟩⟩
    rcases List.mem_append.mp he with he | he
    · obtain ⟨g, g1, g2, g3⟩ := I.e e' he
      exact ⟨(key e' g g3).2 _, g1, g2, g3⟩
    · obtain rfl := List.mem_singleton.mp he
      exact ⟨(key e' h n3).2 _, n1, n2, n3⟩
theorem SmI.add {ws : List Way} {p c ls t : Addr} {H0 H : Hp} {ts : List Addr} (I : SmI ws p c H0 H ls ts) (h : TOk ws p c H t) : SmI ws p c H0 (upd H ls (.lst ((ts ++ [t]).map V.ref))) ls (ts ++ [t]) := by
  refine ⟨fun b o q n => ?_, I.j.upd I.n, I.f, I.n, upd_same, fun x hx => ?_⟩
  · rw [upd_ne (ne_of_none q I.f)]; exact I.k _ _ q n
  · rcases List.mem_append.mp hx with hx | hx
    · exact (I.t x hx).upd I.l
    · rw [List.mem_singleton.mp hx]; exact h.upd I.l
theorem repTn {K : PySem.W.Frag} {H : Hp} {t0 : Addr} {k nz : Int} {Q : VK} (h0 : H t0 = none) (hk : 0 ≤ k) (hk2 : k ≤ 1000) (q : ∀ t H', Kp [] H H' → H t = none → H' t = some (.tup ((List.replicate k.toNat nz).map V.int)) → Q (.ref t) H') :
    rRepT K (.ref t0) (.int k) (upd H t0 (.tup [.int nz])) Q := by
  by_cases h1 : 1 ≤ k
  · exact repT1 h0 h1 hk2 q
  · have e : k = 0 := by omega
    subst e
    exact ⟨t0, 0, _, rfl, rfl, SqT.of upd_same, by simp, by omega, by rw [sizeLine_eq]; simp, fun z => absurd z (by decide), fun _ t ht => q t _ ((Kp.new h0 _).trans (Kp.new ht _)) (Kp.free (Kp.new (ex := []) h0 _) ht (by simp)) upd_same⟩
theorem at_snoc {α : Type} (xs : List α) (x : α) : atI (xs ++ [x]) (-1) = some x := by
  unfold atI ixN
  rw [List.length_append, List.length_singleton, if_neg (by omega), if_pos (by omega)]
  show (xs ++ [x])[(-1 + ((xs.length + 1 : Nat) : Int)).toNat]? = some x
  rw [show (-1 + ((xs.length + 1 : Nat) : Int)).toNat = xs.length by omega]
  simp
theorem mul97 : IntMulOk (10 ^ 50) (10 ^ 47) := by unfold IntMulOk; decide +kernel
end My

namespace My
open PySem PySem.Spec PyProof.Rows L2
def top (i : Nat) : Stmt := PySem.Challenge.pw_fallsum_k20_what_is_a_round.main.body.getD i (.Pass ⟨0, 0, 0, 0⟩)
abbrev s_is_whole : Stmt := top 1
abbrev s_is_tuple_of : Stmt := top 2
abbrev s_are_numbers : Stmt := top 3
abbrev s_is_balanced : Stmt := top 5
abbrev s_is_round : Stmt := top 6
abbrev s_law_mix : Stmt := top 8
abbrev s_law_jar : Stmt := top 9
abbrev s_law_pick : Stmt := top 10
abbrev s_law_gain : Stmt := top 11
abbrev s_law_book : Stmt := top 12
abbrev s_law_from : Stmt := top 13
abbrev s_law_walk : Stmt := top 14
abbrev s_law_back : Stmt := top 15
abbrev s_law_closed : Stmt := top 16
abbrev s_law_counts : Stmt := top 17
abbrev s_law_is_round : Stmt := top 19
abbrev s_law_bent : Stmt := top 20
abbrev s_law : Stmt := top 21
structure Txt (mg : Str → Option Value) : Prop where
  b_isinstance : mg "isinstance" = none
  b_int : mg "int" = none
  b_bool : mg "bool" = none
  b_str : mg "str" = none
  b_tuple : mg "tuple" = none
  b_len : mg "len" = none
  b_all : mg "all" = none
  b_sum : mg "sum" = none
  b_range : mg "range" = none
  b_list : mg "list" = none
  b_zip : mg "zip" = none
  b_enumerate : mg "enumerate" = none
  b_any : mg "any" = none
section
variable {P : Program} {w : World} {K : PySem.W.Frag} {mg : Str → Option Value} {base : Heap}
theorem sc_is_whole : FnScope ["thing"] ["thing"] (defScope s_is_whole) := ⟨rfl, rfl, rfl, by decide +kernel, rfl, by decide +kernel, by decide +kernel⟩
theorem ok_is_whole (T : Txt mg) (D : Def K mg "is_whole" s_is_whole ["thing"]) : Cal P w K mg base "is_whole" 1 ["thing"] spWhole := by
  refine D.cal fun f fd F => F.ok sc_is_whole (fun vs H Q E h => ?_) (fun cdv A outer s H vs Q E hr h => ?_)
  · obtain ⟨ex, d, v, rfl, _⟩ := h
    rfl
  obtain ⟨ex, d, v, rfl, r, q⟩ := h
  refine ⟨_, (@pss_one _ _ _ (@ps_ret _ _ _ _ (pe_and (pe_callB call_isD rfl T.b_isinstance boot_isinstance (pa_name (pv 0) (pa_name (pe_bltn rfl T.b_int boot_int (v := .ty "int") rfl) pa_nil))) (pe_one (pe_not (pe_callB call_isD rfl T.b_isinstance boot_isinstance (pa_name (pv 0) (pa_name (pe_bltn rfl T.b_bool boot_bool (v := .ty "bool") rfl) pa_nil)))))))), ?_⟩
  refine ⟨_, rfl, ex, d, _, _, rfl, r, isT_int, _, rfl, ?_⟩
  refine ite_b (fun c => ?_) (fun c => ?_)
  · refine ⟨_, rfl, ex, d, _, _, rfl, r, isT_bool, _, rfl, ?_⟩
    have e : (!instD d "bool") = wholeD d := by cases d <;> simp_all [instD, tyName, wholeD]
    rw [e]; exact q
  · have e : wholeD d = false := by cases d <;> simp_all [instD, tyName, wholeD]
    rw [e] at q; exact q

theorem sc_is_tuple_of : FnScope ["thing", "many"] ["thing", "many"] (defScope s_is_tuple_of) := ⟨rfl, rfl, rfl, by decide +kernel, rfl, by decide +kernel, by decide +kernel⟩
theorem ok_is_tuple_of (T : Txt mg) (D : Def K mg "is_tuple_of" s_is_tuple_of ["thing", "many"]) : Cal P w K mg base "is_tuple_of" 1 ["thing", "many"] spTup := by
  refine D.cal fun f fd F => F.ok sc_is_tuple_of (fun vs H Q E h => ?_) (fun cdv A outer s H vs Q E hr h => ?_)
  · obtain ⟨ex, d, v, n, rfl, _⟩ := h
    rfl
  obtain ⟨ex, d, v, n, rfl, r, q⟩ := h
  refine ⟨_, (@pss_one _ _ _ (@ps_ret _ _ _ _ (pe_and (pe_callB call_isD rfl T.b_isinstance boot_isinstance (pa_name (pv 0) (pa_name (pe_bltn rfl T.b_tuple boot_tuple (v := .ty "tuple") rfl) pa_nil))) (pe_one (pe_cmpR op_eq (pe_callB call_len_seq rfl T.b_len PySem.boot_len (pa_name (pv 0) pa_nil)) (pv 1) (nomark _)))))), ?_⟩
  refine ⟨_, rfl, ex, d, _, _, rfl, r, isT_tuple, _, rfl, ?_⟩
  refine ite_b (fun c => ?_) (fun c => ?_)
  · obtain ⟨xs, rfl⟩ := instD_tuple c
    cases r with
    | tuple e n' z rs =>
      refine ⟨_, rfl, _, _, rfl, .inr (SqT.of e), _, rfl, rfl, ?_⟩
      have hl := rs.length
      have e : decide (V.int (↑(List.length ‹List V›)) = V.int n) = tupD (.tuple xs) n := by show _ = decide ((xs.length : Int) = n); rw [hl]; simp
      rw [e]; exact q
  · have e : tupD d n = false := by cases d <;> first | rfl | exact absurd rfl (instD_notuple c _)
    rw [e] at q; exact q

theorem sc_are_numbers : FnScope ["thing", "many"] ["thing", "many"] (defScope s_are_numbers) := ⟨rfl, rfl, rfl, by decide +kernel, rfl, by decide +kernel, by decide +kernel⟩
theorem ok_are_numbers (T : Txt mg) (D : Def K mg "are_numbers" s_are_numbers ["thing", "many"]) (c_is_tuple_of : Cal P w K mg base "is_tuple_of" 1 ["thing", "many"] spTup) (c_is_whole : Cal P w K mg base "is_whole" 1 ["thing"] spWhole) : Cal P w K mg base "are_numbers" 2 ["thing", "many"] spNums := by
  refine D.cal fun f fd F => F.ok sc_are_numbers (fun vs H Q E h => ?_) (fun cdv A outer s H vs Q E hr h => ?_)
  · obtain ⟨ex, d, v, n, rfl, _⟩ := h
    rfl
  obtain ⟨ex, d, v, n, rfl, r, q⟩ := h
  refine ⟨_, (@pss_one _ _ _ (@ps_ret _ _ _ _ (pe_and (pe_c c_is_tuple_of (hr.mono (by decide)) rfl (pa_name (pv 0) (pa_name (pv 1) pa_nil))) (pe_one (pe_callB call_all rfl T.b_all boot_all (pa_comp (pe_comp (sc := (defScope s_are_numbers)) (N := ["thing", "many"]) (N' := ["part"]) (k := 1) (idx := []) rfl (by exact ⟨rfl, by decide +kernel, by decide +kernel, by decide +kernel, by decide +kernel, by decide +kernel, rfl, rfl⟩) rfl rfl (pi_tup (pv 0)) (fun _ _ _ _ => (pg_name (i := 0) (show (["part"] : List Str).Nodup by decide +kernel) rfl (Or.inl rfl) (Or.inr rfl))) (fun _ _ _ _ => pts_nil) (fun _ _ _ _ => (pe_and (pe_c c_is_whole (hr.mono (by decide)) rfl (pa_name (pv 0) pa_nil)) (pe_one (pe_cmpR op_ge (pv 0) pe_int (nomark _)))))) pa_nil)))))), ?_⟩
  refine ⟨_, rfl, _, rfl, ex, d, _, _, rfl, r, _, rfl, ite_b (fun cc => ?_) (fun cc => ?_)⟩
  · obtain ⟨ds, rfl, hlen⟩ := tupD_tup cc
    obtain ⟨a, xs, rfl, ha, _, za, rs⟩ := rep_tup r
    have hl := rs.length
    refine ⟨_, rfl, a, rfl, ⟨_, SqT.of ha⟩, fun l hl0 => ?_⟩
    refine comp1_tup (K := K) (fun i => .bl (nnD (ds.getD i .none))) (SqT.of ha) za hl0 ?_ ?_
    · intro i x H1 M hx k1 hM
      obtain ⟨d, ed, rd⟩ := rs.getV hx
      have eg : ds.getD i .none = d := by rw [List.getD_eq_getElem?_getD, ed]; rfl
      have hm := hM H1 .refl
      rw [eg] at hm
      refine ⟨_, rfl, ex, d, _, rfl, rd.keep k1.of, _, rfl, ite_b (fun c2 => ?_) (fun c2 => ?_)⟩
      · obtain ⟨j, rfl⟩ := wholeD_int c2
        cases rd
        exact ⟨_, rfl, _, _, rfl, rfl, hm⟩
      · have e : nnD d = false := by cases d <;> first | rfl | cases c2
        rw [e] at hm; exact hm
    · intro H1 k1 hl1
      rw [← hl, map_bl] at hl1
      refine ⟨rfl, l, _, rfl, SqL.of hl1, ?_⟩
      rw [all_range nnD ds .none]
      have := q H1 k1
      have e : numsD (.tuple ds) n = ds.all nnD := by
        show (decide ((ds.length : Int) = n) && ds.all nnD) = _
        rw [decide_eq_true hlen, Bool.true_and]
      rw [e] at this
      exact this
  · have := q H .refl
    rw [numsD_not cc] at this
    exact this

theorem sc_is_balanced : FnScope ["book", "counts", "rooms", "purses", "ways", "more", "a", "b", "gains", "count"] ["book", "counts"] (defScope s_is_balanced) := ⟨rfl, rfl, rfl, by decide +kernel, rfl, by decide +kernel, by decide +kernel⟩
theorem ok_is_balanced (T : Txt mg) (D : Def K mg "is_balanced" s_is_balanced ["book", "counts"]) : Cal P w K mg base "is_balanced" 1 ["book", "counts"] spBal := by
  refine D.cal fun f fd F => F.ok sc_is_balanced (fun vs H Q E h => ?_) (fun cdv A outer s H vs Q E hr h => ?_)
  · obtain ⟨ex, R, U, ws, bv, ca, cs, rfl, _⟩ := h
    rfl
  obtain ⟨ex, R, U, ws, bv, ca, cs, rfl, rb, ok, hca, hcl, q⟩ := h
  refine ⟨_, (@pss_cons _ _ _ _ _ (ps_asg (pv 0) (pg_trio (K' := K) (i := 2) (j := 3) (m := 4) rfl sc_is_balanced.nd ⟨rfl, (Or.inl rfl), (Or.inl rfl)⟩ ⟨rfl, (Or.inl rfl), (Or.inl rfl)⟩ ⟨rfl, (Or.inl rfl), (Or.inl rfl)⟩ rfl))
      (@pss_cons _ _ _ _ _ (ps_set (i := 5) sc_is_balanced.nd rfl (Or.inl rfl) (pe_op op_rep (@PEs.out _ _ _ (pes_lst (pas_const pes_int pas_nil))) (pv 2)))
      (@pss_cons _ _ _ _ _ (ps_for PassesOwn.never rfl (pi_zip rfl T.b_zip (pa_name (pv 4) (pa_name (pv 1) pa_nil))) (pg_tup (n := 2) rfl (pgs_cons (pg_trio (K' := K) (i := 6) (j := 7) (m := 8) rfl sc_is_balanced.nd ⟨rfl, (Or.inl rfl), (Or.inl rfl)⟩ ⟨rfl, (Or.inl rfl), (Or.inl rfl)⟩ ⟨rfl, (Or.inl rfl), (Or.inl rfl)⟩ rfl) (pgs_cons (pg_name (i := 9) sc_is_balanced.nd rfl (Or.inl rfl) (Or.inl rfl)) pgs_nil)))
      (@pss_cons _ _ _ _ _ (ps_augS (pv 5) (pv 6) get_list (pv 9) ip_sub set_list)
      (@pss_one _ _ _ (ps_augS (pv 5) (pv 7) get_list (pv 9) ip_add set_list))))
      (@pss_one _ _ _ (@ps_ret _ _ _ _ (pe_not (pe_callB (call_anyL rfl) rfl T.b_any boot_any (pa_name (pv 5) pa_nil)))))))), ?_⟩
  have hs : sizeLine = 16777216 := sizeLine_eq
  have r0 := ok.r0
  have r1 := ok.r1
  have wz := ok.len
  obtain ⟨ba, wa, vs, B⟩ := rep_book rb
  have eb := B.e
  subst eb
  have vl := B.len
  refine seq_by (fun σ' H' => σ' = [some (.ref ba), some (.ref ca), some (.int R), some (.int U), some (.ref wa), none, none, none, none, none] ∧ H' = H) (fun N hN => ?_) ?_
  · exact ⟨_, rfl, ba, _, rfl, SqT.of B.b, rfl, _, _, rfl, _, _, rfl, _, _, rfl, rfl, hN _ _ ⟨rfl, rfl⟩⟩
  rintro _ H ⟨rfl, rfl⟩
  refine seq_by (fun σ' H' => ∃ lm, σ' = [some (.ref ba), some (.ref ca), some (.int R), some (.int U), some (.ref wa), some (.ref lm), none, none, none, none] ∧ Kp [] H H' ∧ H lm = none ∧ H' lm = some (.lst (((List.range R.toNat).map fun r => moreI ws cs 0 (r : Nat)).map V.int))) (fun N hN => ?_) ?_
  · refine ⟨small4 (Nat.le_of_ble_eq_true rfl), fun t ht => ⟨_, rfl, t, R, _, rfl, rfl, upd_same, by omega, by omega, by simp; omega, fun l hl => hN _ _ ⟨l, rfl, (Kp.new ht _).trans (Kp.new hl _), Kp.free (Kp.new (ex := []) ht _) hl (by simp), ?_⟩⟩⟩
    rw [upd_same, rep0]
    have e : ((List.range R.toNat).map fun r => moreI ws cs 0 (r : Nat)) = List.replicate R.toNat (0 : Int) := by
      rw [show (fun r : Nat => moreI ws cs 0 (r : Int)) = fun _ => (0 : Int) from rfl, List.map_const', List.length_range]
    rw [e]
  rintro _ H1 ⟨lm, rfl, k1, fl, h1⟩
  refine seq_by (fun σ' H' => ∃ o1 o2 o3 o4, σ' = [some (.ref ba), some (.ref ca), some (.int R), some (.int U), some (.ref wa), some (.ref lm), o1, o2, o3, o4] ∧ Kp [] H H' ∧ H' lm = some (.lst (((List.range R.toNat).map fun r => moreI ws cs ws.length (r : Nat)).map V.int))) (fun N hN => ?_) ?_
  · refine ⟨_, rfl, _, rfl, true, true, wa, ca, _, _, rfl, SqT.of (k1 _ _ B.w (by simp)), SqT.of (k1 _ _ hca (by simp)), ?_⟩
    refine for_zip (K := K) (b := true) (b' := true) (xs := vs) (xs' := cs.map V.int) ws.length (by rw [List.length_map]; omega) (fun i σ' H' => ∃ o1 o2 o3 o4, σ' = [some (.ref ba), some (.ref ca), some (.int R), some (.int U), some (.ref wa), some (.ref lm), o1, o2, o3, o4] ∧ Kp [] H H' ∧ H' lm = some (.lst (((List.range R.toNat).map fun r => moreI ws cs i (r : Nat)).map V.int)))
      ⟨_, _, _, _, rfl, k1, h1⟩ (fun i σ' H' _ ⟨_, _, _, _, _, k', _⟩ => ⟨SqT.of (k' _ _ B.w (by simp)), SqT.of (k' _ _ hca (by simp))⟩) ?_ (fun σ' H' h => hN _ _ h)
    rintro i x x' σ' H2 t hi hx hx' ⟨o1, o2, o3, o4, rfl, k2, h2⟩ ht
    have k3 : Kp [] H (upd H2 t (.tup [x, x'])) := k2.trans (Kp.new ht _)
    have h3 : upd H2 t (.tup [x, x']) lm = some (.lst (((List.range R.toNat).map fun r => moreI ws cs i (r : Nat)).map V.int)) := by rw [upd_ne (ne_of_none h2 ht)]; exact h2
    have h3t : upd H2 t (.tup [x, x']) t = some (.tup [x, x']) := upd_same
    generalize upd H2 t (.tup [x, x']) = H3 at k3 h3 h3t
    rw [List.getElem?_map, List.getElem?_eq_getElem (by omega)] at hx'
    cases hx'
    obtain ⟨t1, g, rfl, ht1, hg1, _, hm⟩ := way_ix B.r hx
    have wok := ok.ways _ hm
    have a0 := wok.a0
    have a1 := wok.a1
    have b0 := wok.b0
    have b1 := wok.b1
    have hc : cs.getD i 0 = cs[i] := by rw [List.getD_eq_getElem?_getD, List.getElem?_eq_getElem (by omega)]; rfl
    refine ⟨t, _, rfl, SqT.of h3t, rfl, _, _, rfl, ⟨t1, _, rfl, SqT.of (k3 _ _ ht1 (by simp)), rfl, _, _, rfl, _, _, rfl, _, _, rfl, rfl, _, _, rfl, rfl, ?_⟩⟩
    refine seq_by (fun σ' H' => σ' = [some (.ref ba), some (.ref ca), some (.int R), some (.int U), some (.ref wa), some (.ref lm), some (.int (wayAt ws (i : Nat)).a), some (.int (wayAt ws (i : Nat)).b), some (.ref g), some (.int cs[i])] ∧ Kp [] H H' ∧ H' lm = some (.lst (((List.range R.toNat).map fun r => moreI ws cs i (r : Nat) - (if (wayAt ws (i : Nat)).a = ((r : Nat) : Int) then cs.getD i 0 else 0)).map V.int))) (fun N' hN' => ?_) ?_
    · refine ⟨_, rfl, _, rfl, lm, _, _, _, rfl, rfl, a0, SqL.of h3, get_more (fun r => moreI ws cs i r) _ _ a0 (by omega), _, rfl, _, _, rfl, rfl, lm, _, _, (wayAt ws (i : Nat)).a.toNat, rfl, rfl, h3, ixN_at (by omega) (by rw [List.length_map, List.length_map, List.length_range]; omega), hN' _ _ ⟨rfl, ?_, ?_⟩⟩
      · exact fun b o e n => by rw [upd_ne (ne_of_none e fl)]; exact k3 _ _ e n
      · rw [upd_same, set_more (fun r => moreI ws cs i r) _ _ _ (-cs[i]) a0 (Int.sub_eq_add_neg)]
        congr 2
        apply congrArg
        apply List.map_congr_left
        intro r _
        rw [hc]
        by_cases e : (wayAt ws (i : Nat)).a = (r : Int)
        · rw [if_pos e, if_pos e]; exact Int.sub_eq_add_neg.symm
        · rw [if_neg e, if_neg e]; omega
    rintro _ H4 ⟨rfl, k4, h4⟩
    refine ⟨_, rfl, _, rfl, lm, _, _, _, rfl, rfl, b0, SqL.of h4, get_more (fun r => moreI ws cs i r - (if (wayAt ws (i : Nat)).a = r then cs.getD i 0 else 0)) _ _ b0 (by omega), _, rfl, _, _, rfl, rfl, lm, _, _, (wayAt ws (i : Nat)).b.toNat, rfl, rfl, h4, ixN_at (by omega) (by rw [List.length_map, List.length_map, List.length_range]; omega), _, _, _, _, rfl, ?_, ?_⟩
    · exact fun b o e n => by rw [upd_ne (ne_of_none e fl)]; exact k4 _ _ e n
    · rw [upd_same, set_more (fun r => moreI ws cs i r - (if (wayAt ws (i : Nat)).a = r then cs.getD i 0 else 0)) _ _ _ cs[i] b0 rfl]
      congr 2
      apply congrArg
      apply List.map_congr_left
      intro r _
      rw [moreI, hc]
  rintro _ H2 ⟨o1, o2, o3, o4, rfl, k2, h2⟩
  refine ⟨_, rfl, lm, _, rfl, SqL.of h2, ?_⟩
  have := q H2 k2
  unfold balB at this
  rw [← any_range (fun r => moreI ws cs ws.length (r : Nat))] at this
  exact ⟨_, rfl, this⟩
theorem sc_is_round : FnScope ["book", "counts"] ["book", "counts"] (defScope s_is_round) := ⟨rfl, rfl, rfl, by decide +kernel, rfl, by decide +kernel, by decide +kernel⟩
theorem ok_is_round (T : Txt mg) (D : Def K mg "is_round" s_is_round ["book", "counts"]) (c_are_numbers : Cal P w K mg base "are_numbers" 2 ["thing", "many"] spNums) (c_is_balanced : Cal P w K mg base "is_balanced" 1 ["book", "counts"] spBal) : Cal P w K mg base "is_round" 3 ["book", "counts"] spRound := by
  refine D.cal fun f fd F => F.ok sc_is_round (fun vs H Q E h => ?_) (fun cdv A outer s H vs Q E hr h => ?_)
  · obtain ⟨ex, R, U, ws, bv, ca, cs, rfl, _⟩ := h
    rfl
  obtain ⟨ex, R, U, ws, bv, ca, cs, rfl, rb, ok, hca, nca, hcl, q⟩ := h
  refine ⟨_, (@pss_one _ _ _ (@ps_ret _ _ _ _ (pe_and (pe_c c_are_numbers (hr.mono (by decide)) rfl (pa_name (pv 1) (pa_call (pe_callB call_len_seq rfl T.b_len PySem.boot_len (pa_sub (pe_ix ix_tup (pv 0) pe_int (fun _ _ => rfl)) pa_nil)) pa_nil))) (pe_and (pe_callB (call_anyT rfl) rfl T.b_any boot_any (pa_name (pv 1) pa_nil)) (pe_one (pe_c c_is_balanced (hr.mono (by decide)) rfl (pa_name (pv 0) (pa_name (pv 1) pa_nil)))))))), ?_⟩
  have hs : sizeLine = 16777216 := sizeLine_eq
  have wz := ok.len
  obtain ⟨ba, wa, vs, B⟩ := rep_book rb
  have eb := B.e
  subst eb
  have vl := B.len
  unfold roundB at q
  refine ⟨_, rfl, _, rfl, ba, _, _, _, rfl, rfl, SqT.of B.b, at2 _ _ _, wa, _, rfl, .inr (SqT.of B.w), ex, _, _, _, rfl, Rep.tints hca nca (by omega), fun H1 k1 => ?_⟩
  rw [nums_cs cs _ (by omega)]
  refine ⟨_, rfl, ite_b (fun cc => ?_) (fun cc => ?_)⟩
  · rw [cc] at q
    refine ⟨_, rfl, ca, cs, rfl, SqT.of (k1 _ _ hca (by simp)), _, rfl, ite_b (fun c2 => ?_) (fun c2 => ?_)⟩
    · rw [c2] at q
      exact ⟨_, rfl, _, rfl, ex, R, U, ws, _, ca, cs, rfl, rb.keep k1.of, ok, k1 _ _ hca (by simp), hcl, fun H2 k2 => q H2 (k1.trans k2)⟩
    · rw [c2] at q
      exact q H1 k1
  · rw [cc] at q
    exact q H1 k1

theorem sc_law_is_round : FnScope ["book", "counts", "room", "here", "there"] ["book", "counts"] (defScope s_law_is_round) := ⟨rfl, rfl, rfl, by decide +kernel, rfl, by decide +kernel, by decide +kernel⟩
theorem ok_law_is_round (T : Txt mg) (D : Def K mg "_law_is_round" s_law_is_round ["book", "counts"]) : Cal P w K mg base "_law_is_round" 1 ["book", "counts"] spRound := by
  refine D.cal fun f fd F => F.ok sc_law_is_round (fun vs H Q E h => ?_) (fun cdv A outer s H vs Q E hr h => ?_)
  · obtain ⟨ex, R, U, ws, bv, ca, cs, rfl, _⟩ := h
    rfl
  obtain ⟨ex, R, U, ws, bv, ca, cs, rfl, rb, ok, hca, nca, hcl, q⟩ := h
  refine ⟨_, (@pss_cons _ _ _ _ _ (ps_if (PW.pt (pw_or (pt_cmpR (op_neD hr.units) (pe_comp (sc := (defScope s_law_is_round)) (N := ["book", "counts", "room", "here", "there"]) (N' := ["many"]) (k := 1) (idx := []) rfl (by exact ⟨rfl, by decide +kernel, by decide +kernel, by decide +kernel, by decide +kernel, by decide +kernel, rfl, rfl⟩) rfl rfl (pi_tup (pv 1)) (fun _ _ _ _ => (pg_name (i := 0) (show (["many"] : List Str).Nodup by decide +kernel) rfl (Or.inl rfl) (Or.inr rfl))) (fun _ _ _ _ => pts_one (pt_cmpR op_lt (pv 0) pe_int (nomark _))) (fun _ _ _ _ => (pv 0))) (@PEs.out _ _ _ (pes_lst pas_nil)) (nomark _)) (pw_or1 (pt_cmpR (op_eqD hr.units) (pe_comp (sc := (defScope s_law_is_round)) (N := ["book", "counts", "room", "here", "there"]) (N' := ["many"]) (k := 1) (idx := []) rfl (by exact ⟨rfl, by decide +kernel, by decide +kernel, by decide +kernel, by decide +kernel, by decide +kernel, rfl, rfl⟩) rfl rfl (pi_tup (pv 1)) (fun _ _ _ _ => (pg_name (i := 0) (show (["many"] : List Str).Nodup by decide +kernel) rfl (Or.inl rfl) (Or.inr rfl))) (fun _ _ _ _ => pts_one (pt_cmpR op_gt (pv 0) pe_int (nomark _))) (fun _ _ _ _ => (pv 0))) (@PEs.out _ _ _ (pes_lst pas_nil)) (nomark _))))) (@pss_one _ _ _ (@ps_ret _ _ _ _ pe_bl)) pss_nil)
      (@pss_cons _ _ _ _ _ (ps_for PassesOwn.never rfl (pi_range1 rfl T.b_range (pa_sub (pe_ix ix_tup (pv 0) pe_int (fun _ _ => rfl)) pa_nil)) (pg_name (i := 2) sc_law_is_round.nd rfl (Or.inr rfl) (Or.inl rfl))
      (@pss_cons _ _ _ _ _ (ps_setcomp (i := 3) (sc := (defScope s_law_is_round)) (N := ["book", "counts", "room", "here", "there"]) (N' := ["many", "way", "room"]) (k := 2) (idx := [2]) rfl sc_law_is_round.nd rfl rfl (by exact ⟨rfl, by decide +kernel, by decide +kernel, by decide +kernel, by decide +kernel, by decide +kernel, rfl, rfl⟩) rfl rfl (pi_zip rfl T.b_zip (pa_name (pv 1) (pa_sub (pe_ix ix_tup (pv 0) pe_int (fun _ _ => rfl)) pa_nil))) (fun _ _ _ _ => (pg_pair (K' := K) (i := 0) (j := 1) rfl (show (["many", "way", "room"] : List Str).Nodup by decide +kernel) ⟨rfl, (Or.inl rfl), (Or.inr rfl)⟩ ⟨rfl, (Or.inl rfl), (Or.inr rfl)⟩ rfl)) (fun _ _ _ _ => pts_one (pt_cmpR op_eq (pe_ix (ix_tupK (K' := K) rfl) (pv 1) pe_int (fun _ _ => rfl)) (pv 2) (nomark _))) (fun _ _ _ _ => (pv 0)))
      (@pss_cons _ _ _ _ _ (ps_setcomp (i := 4) (sc := (defScope s_law_is_round)) (N := ["book", "counts", "room", "here", "there"]) (N' := ["many", "way", "room"]) (k := 2) (idx := [2]) rfl sc_law_is_round.nd rfl rfl (by exact ⟨rfl, by decide +kernel, by decide +kernel, by decide +kernel, by decide +kernel, by decide +kernel, rfl, rfl⟩) rfl rfl (pi_zip rfl T.b_zip (pa_name (pv 1) (pa_sub (pe_ix ix_tup (pv 0) pe_int (fun _ _ => rfl)) pa_nil))) (fun _ _ _ _ => (pg_pair (K' := K) (i := 0) (j := 1) rfl (show (["many", "way", "room"] : List Str).Nodup by decide +kernel) ⟨rfl, (Or.inl rfl), (Or.inr rfl)⟩ ⟨rfl, (Or.inl rfl), (Or.inr rfl)⟩ rfl)) (fun _ _ _ _ => pts_one (pt_cmpR op_eq (pe_ix (ix_tupK (K' := K) rfl) (pv 1) pe_int (fun _ _ => rfl)) (pv 2) (nomark _))) (fun _ _ _ _ => (pv 0)))
      (@pss_one _ _ _ (ps_if (pt_cmpR op_ne (pe_callB call_sum rfl T.b_sum boot_sum (pa_name (pv 3) pa_nil)) (pe_callB call_sum rfl T.b_sum boot_sum (pa_name (pv 4) pa_nil)) (nomark _)) (@pss_one _ _ _ (@ps_ret _ _ _ _ pe_bl)) pss_nil)))))
      (@pss_one _ _ _ (@ps_ret _ _ _ _ pe_bl)))), ?_⟩
  have hs : sizeLine = 16777216 := sizeLine_eq
  have r0 := ok.r0
  have r1 := ok.r1
  have wz := ok.len
  obtain ⟨ba, wa, vs, B⟩ := rep_book rb
  have eb := B.e
  subst eb
  have vl := B.len
  refine seq_by (fun σ' H' => σ' = [some (.ref ba), some (.ref ca), none, none, none] ∧ Kp [] H H' ∧ cs.all (fun c => decide (0 ≤ c)) = true ∧ cs.any (fun c => decide (c ≠ 0)) = true) (fun N hN => ?_) ?_
  · refine ⟨_, rfl, ca, rfl, ⟨_, SqT.of hca⟩, fun l hl => ?_⟩
    refine comp1_tupF (K := K) (fun i => decide (cs.getD i 0 < 0)) (fun i => .int (cs.getD i 0)) (SqT.of hca) (by rw [List.length_map]; omega) hl ?_ ?_ ?_
    · intro i x H1 M hx k1 hM
      rw [List.getElem?_map] at hx
      cases hn : cs[i]? with
      | none => rw [hn] at hx; cases hx
      | some c =>
        rw [hn] at hx
        cases hx
        have := hM H1 .refl
        rw [List.getD_eq_getElem?_getD, hn] at this
        exact ⟨_, rfl, _, _, rfl, rfl, _, rfl, this⟩
    · intro i x H1 M _ hx k1 hM
      rw [List.getElem?_map] at hx
      cases hn : cs[i]? with
      | none => rw [hn] at hx; cases hx
      | some c =>
        rw [hn] at hx
        cases hx
        have := hM H1 .refl
        rw [List.getD_eq_getElem?_getD, hn] at this
        exact ⟨_, rfl, this⟩
    intro H1 k1 h1
    rw [List.length_map] at h1
    have h1 : H1 l = some (.lst ((pickI cs fun i => decide (cs.getD i 0 < 0)).map V.int)) := by rw [h1]; unfold pickI; rw [List.map_map]; rfl
    have z1 := pick_len cs fun i => decide (cs.getD i 0 < 0)
    refine ⟨small4 (Nat.le_of_ble_eq_true rfl), fun t ht => ?_⟩
    have k2 := k1.trans (Kp.new ht (.lst []))
    refine ⟨[], .list ((pickI cs fun i => decide (cs.getD i 0 < 0)).map PyData.int), .list [], Rep.lints (Kp.new (ex := []) ht _ _ _ h1 (by simp)) (by simp) (by omega), .list upd_same (by simp) (by simp) .nil, by rw [PyData.canLay0]; exact canLay_ints _, rfl, Nat.le_trans (Nat.min_le_right _ _) (by decide), _, rfl, ?_⟩
    generalize upd H1 t (.lst []) = H2 at k2
    refine ite_b (fun cc => ?_) (fun cc => ?_)
    · rw [eqv_ints_nil] at cc
      have e : roundB R ws cs = false := by
        cases ha : cs.all (fun c => decide (0 ≤ c)) with
        | false => unfold roundB; rw [ha]; rfl
        | true => rw [pick_neg.mpr ha] at cc; cases cc
      have := q H2 k2
      rw [e] at this
      exact this
    · rw [eqv_ints_nil] at cc
      have ha : cs.all (fun c => decide (0 ≤ c)) = true := pick_neg.mp (by
        cases h : pickI cs fun i => decide (cs.getD i 0 < 0) with
        | nil => rfl
        | cons _ _ => rw [h] at cc; cases cc)
      have hca2 := k2 _ _ hca (by simp)
      refine ⟨_, rfl, ca, rfl, ⟨_, SqT.of hca2⟩, fun l hl => ?_⟩
      refine comp1_tupF (K := K) (fun i => decide (0 < cs.getD i 0)) (fun i => .int (cs.getD i 0)) (SqT.of hca2) (by rw [List.length_map]; omega) hl ?_ ?_ ?_
      · intro i x H3 M hx k3 hM
        rw [List.getElem?_map] at hx
        cases hn : cs[i]? with
        | none => rw [hn] at hx; cases hx
        | some c =>
          rw [hn] at hx
          cases hx
          have := hM H3 .refl
          rw [List.getD_eq_getElem?_getD, hn] at this
          exact ⟨_, rfl, _, _, rfl, rfl, _, rfl, this⟩
      · intro i x H3 M _ hx k3 hM
        rw [List.getElem?_map] at hx
        cases hn : cs[i]? with
        | none => rw [hn] at hx; cases hx
        | some c =>
          rw [hn] at hx
          cases hx
          have := hM H3 .refl
          rw [List.getD_eq_getElem?_getD, hn] at this
          exact ⟨_, rfl, this⟩
      intro H3 k3 h3
      rw [List.length_map] at h3
      have h3 : H3 l = some (.lst ((pickI cs fun i => decide (0 < cs.getD i 0)).map V.int)) := by rw [h3]; unfold pickI; rw [List.map_map]; rfl
      have z3 := pick_len cs fun i => decide (0 < cs.getD i 0)
      refine ⟨small4 (Nat.le_of_ble_eq_true rfl), fun t ht => ?_⟩
      have k4 := k2.trans (k3.trans (Kp.new ht (.lst [])))
      refine ⟨[], .list ((pickI cs fun i => decide (0 < cs.getD i 0)).map PyData.int), .list [], Rep.lints (Kp.new (ex := []) ht _ _ _ h3 (by simp)) (by simp) (by omega), .list upd_same (by simp) (by simp) .nil, by rw [PyData.canLay0]; exact canLay_ints _, rfl, Nat.le_trans (Nat.min_le_right _ _) (by decide), _, rfl, ?_⟩
      generalize upd H3 t (.lst []) = H4 at k4
      refine ite_b (fun c2 => ?_) (fun c2 => ?_)
      · rw [eqv_ints_nil] at c2
        have hy : cs.any (fun c => decide (c ≠ 0)) = false := (pick_pos ha).mp (by
          cases h : pickI cs fun i => decide (0 < cs.getD i 0) with
          | nil => rfl
          | cons _ _ => rw [h] at c2; cases c2)
        have := q H4 k4
        unfold roundB at this
        rw [hy, ha] at this
        exact this
      · rw [eqv_ints_nil] at c2
        refine hN _ _ ⟨rfl, k4, ha, ?_⟩
        cases hy : cs.any (fun c => decide (c ≠ 0)) with
        | true => rfl
        | false => rw [(pick_pos ha).mpr hy] at c2; cases c2
  rintro _ H1 ⟨rfl, k1, hall, hany⟩
  have qe : roundB R ws cs = balB R ws cs := by unfold roundB; rw [hall, hany]; rfl
  rw [qe] at q
  refine seq_by (fun σ' H' => Kp [] H H' ∧ balB R ws cs = true) (fun N hN => ?_) ?_
  · refine ⟨_, rfl, ba, _, _, _, rfl, rfl, SqT.of (k1 _ _ B.b (by simp)), at0 _ _ _, R, rfl, by omega, by omega, ?_⟩
    refine for_range (n := R.toNat) (fun j σ H' => ∃ o2 o3 o4, σ = [some (.ref ba), some (.ref ca), o2, o3, o4] ∧ Kp [] H H' ∧ ∀ r : Nat, r < j → moreI ws cs ws.length (r : Nat) = 0)
      ⟨_, _, _, rfl, k1, fun r hr => absurd hr (Nat.not_lt_zero _)⟩ ?_ ?_
    · rintro j σ H2 hj ⟨o2, o3, o4, rfl, k2, hall2⟩
      refine seq_by (fun σ' H' => ∃ l3 o4', σ' = [some (.ref ba), some (.ref ca), some (.int (0 + (j : Int))), some (.ref l3), o4'] ∧ Kp [] H2 H' ∧ H2 l3 = none ∧ H' l3 = some (.lst ((flowI ws cs (·.a) ws.length (0 + (j : Int))).map V.int))) (fun N' hN' => ?_) ?_
      · refine ⟨_, rfl, _, rfl, ba, _, _, _, rfl, rfl, SqT.of (k2 _ _ B.b (by simp)), at2 _ _ _, true, true, ca, wa, _, _, rfl, SqT.of (k2 _ _ hca (by simp)), SqT.of (k2 _ _ B.w (by simp)), fun l hl => ?_⟩
        refine comp2_zipF (K := K) (b := true) (b' := true) (fun i => decide ((wayAt ws (i : Nat)).a = (0 + (j : Int)))) (fun i => .int (cs.getD i 0)) (SqT.of (k2 _ _ hca (by simp))) (SqT.of (k2 _ _ B.w (by simp))) ws.length (by rw [List.length_map]; omega) (by omega) hl ?_ ?_ ?_
        · intro i x y H5 M hi hx hy k5 hM
          obtain ⟨t1, g, rfl, ht1, _⟩ := way_ix B.r hy
          have := hM H5 .refl
          have e : decide (V.int (wayAt ws (i : Nat)).a = V.int (0 + (j : Int))) = decide ((wayAt ws (i : Nat)).a = 0 + (j : Int)) := by simp
          rw [← e] at this
          exact ⟨_, rfl, t1, _, _, _, rfl, rfl, SqT.of (k5 _ _ (k2 _ _ ht1 (by simp)) (by simp)), at0 _ _ _, _, rfl, rfl, _, rfl, this⟩
        · intro i x y H5 M _ hi hx hy k5 hM
          rw [List.getElem?_map, List.getElem?_eq_getElem (by omega)] at hx
          cases hx
          have := hM H5 .refl
          rw [getD_at (by omega)] at this
          exact ⟨_, rfl, this⟩
        · intro H5 k5 h5
          exact hN' _ _ ⟨l, _, rfl, k5, hl, by rw [h5]; unfold flowI; rw [List.map_map]; rfl⟩
      rintro _ H3 ⟨l3, o4', rfl, k3, f3, h3⟩
      have k03 := k2.trans k3
      refine seq_by (fun σ' H' => ∃ l4, σ' = [some (.ref ba), some (.ref ca), some (.int (0 + (j : Int))), some (.ref l3), some (.ref l4)] ∧ Kp [] H3 H' ∧ H3 l4 = none ∧ H' l4 = some (.lst ((flowI ws cs (·.b) ws.length (0 + (j : Int))).map V.int))) (fun N' hN' => ?_) ?_
      · refine ⟨_, rfl, _, rfl, ba, _, _, _, rfl, rfl, SqT.of (k03 _ _ B.b (by simp)), at2 _ _ _, true, true, ca, wa, _, _, rfl, SqT.of (k03 _ _ hca (by simp)), SqT.of (k03 _ _ B.w (by simp)), fun l hl => ?_⟩
        refine comp2_zipF (K := K) (b := true) (b' := true) (fun i => decide ((wayAt ws (i : Nat)).b = (0 + (j : Int)))) (fun i => .int (cs.getD i 0)) (SqT.of (k03 _ _ hca (by simp))) (SqT.of (k03 _ _ B.w (by simp))) ws.length (by rw [List.length_map]; omega) (by omega) hl ?_ ?_ ?_
        · intro i x y H5 M hi hx hy k5 hM
          obtain ⟨t1, g, rfl, ht1, _⟩ := way_ix B.r hy
          have := hM H5 .refl
          have e : decide (V.int (wayAt ws (i : Nat)).b = V.int (0 + (j : Int))) = decide ((wayAt ws (i : Nat)).b = 0 + (j : Int)) := by simp
          rw [← e] at this
          exact ⟨_, rfl, t1, _, _, _, rfl, rfl, SqT.of (k5 _ _ (k03 _ _ ht1 (by simp)) (by simp)), at1 _ _ _, _, rfl, rfl, _, rfl, this⟩
        · intro i x y H5 M _ hi hx hy k5 hM
          rw [List.getElem?_map, List.getElem?_eq_getElem (by omega)] at hx
          cases hx
          have := hM H5 .refl
          rw [getD_at (by omega)] at this
          exact ⟨_, rfl, this⟩
        · intro H5 k5 h5
          exact hN' _ _ ⟨l, rfl, k5, hl, by rw [h5]; unfold flowI; rw [List.map_map]; rfl⟩
      rintro _ H4 ⟨l4, rfl, k4, f4, h4⟩
      have mf := more_flow ws cs (j : Int) ws.length
      rw [Int.zero_add] at h3 h4
      refine ⟨_, rfl, rfl, l3, _, rfl, SqL.of (k4 _ _ h3 (by simp)), _, rfl, rfl, l4, _, rfl, SqL.of h4, rfl, _, rfl, ite_b (fun cc => ?_) (fun cc => ?_)⟩
      · have e : balB R ws cs = false := by
          cases hb : balB R ws cs with
          | false => rfl
          | true =>
            unfold balB at hb
            rw [List.all_eq_true] at hb
            have h0 := of_decide_eq_true (hb j (List.mem_range.mpr hj))
            rw [mf] at h0
            have h1 : (flowI ws cs (·.a) ws.length (j : Int)).sum = (flowI ws cs (·.b) ws.length (j : Int)).sum := by omega
            rw [h1] at cc
            simp at cc
        have := q H4 (k03.trans k4)
        rw [e] at this
        exact this
      · refine ⟨_, _, _, rfl, k03.trans k4, fun r hr => ?_⟩
        rcases Nat.lt_or_ge r j with h | h
        · exact hall2 r h
        · have e : r = j := by omega
          subst e
          rw [mf]
          have : (flowI ws cs (·.a) ws.length (r : Int)).sum = (flowI ws cs (·.b) ws.length (r : Int)).sum := by simpa using cc
          omega
    · rintro σ H2 ⟨o2, o3, o4, rfl, k2, hall2⟩
      refine hN _ _ ⟨k2, ?_⟩
      unfold balB
      rw [List.all_eq_true]
      intro r hr
      exact decide_eq_true (hall2 r (List.mem_range.mp hr))
  rintro σ H2 ⟨k2, e⟩
  have := q H2 k2
  rw [e] at this
  exact this

theorem sc_law_mix : FnScope ["one"] ["one"] (defScope s_law_mix) := ⟨rfl, rfl, rfl, by decide +kernel, rfl, by decide +kernel, by decide +kernel⟩
theorem ok_law_mix (T : Txt mg) (D : Def K mg "_law_mix" s_law_mix ["one"]) : Cal P w K mg base "_law_mix" 1 ["one"] spMix := by
  refine D.cal fun f fd F => F.ok sc_law_mix (fun vs H Q E h => ?_) (fun cdv A outer s H vs Q E hr h => ?_)
  · obtain ⟨n, rfl, _⟩ := h
    rfl
  obtain ⟨n, rfl, h0, h1, q⟩ := h
  refine ⟨_, (@pss_cons _ _ _ _ _ (ps_set (i := 0) sc_law_mix.nd rfl (Or.inl rfl) (pe_op op_mod (pe_op op_mul (pe_op op_xor (pv 0) (pe_op op_fdivB (pv 0) pe_int)) pe_int) pe_int))
      (@pss_cons _ _ _ _ _ (ps_set (i := 0) sc_law_mix.nd rfl (Or.inl rfl) (pe_op op_mod (pe_op op_mul (pe_op op_xor (pv 0) (pe_op op_fdivB (pv 0) pe_int)) pe_int) pe_int))
      (@pss_one _ _ _ (@ps_ret _ _ _ _ (pe_op op_xor (pv 0) (pe_op op_fdivB (pv 0) pe_int)))))), ?_⟩
  have m : ∀ z : Int, 0 ≤ z % 18446744073709551616 ∧ z % 18446744073709551616 < 18446744073709551616 := fun z => ⟨Int.emod_nonneg _ (by decide), Int.emod_lt_of_pos _ (by decide)⟩
  have xb : ∀ z : Int, (0 ≤ z ∧ z < 18446744073709551616) → 0 ≤ Builtin.bitXor z (z / 2147483648) ∧ Builtin.bitXor z (z / 2147483648) < 2 ^ 64 := fun z hz => xor_bound (by omega) (by omega) (by omega) (by omega)
  refine ⟨_, rfl, _, rfl, _, _, rfl, rfl, cdivB_of (by decide) (by decide +kernel), _, _, rfl, rfl, _, _, rfl, rfl, .inr ⟨by decide, by decide⟩, _, _, rfl, rfl, (show (0 : Int) < 18446744073709551616 by decide), ?_⟩
  refine ⟨_, rfl, _, rfl, _, _, rfl, rfl, cdivB_of (by decide) (by decide +kernel), _, _, rfl, rfl, _, _, rfl, rfl, .inr ⟨by decide, by decide⟩, _, _, rfl, rfl, (show (0 : Int) < 18446744073709551616 by decide), ?_⟩
  refine ⟨_, rfl, _, rfl, _, _, rfl, rfl, cdivB_of (by decide) (by decide +kernel), _, _, rfl, rfl, ?_⟩
  exact q _ (xb _ (m _)).1 (xb _ (m _)).2
theorem sc_law_jar : FnScope ["script", "seed", "cell"] ["script"] (defScope s_law_jar) := ⟨rfl, rfl, rfl, by decide +kernel, rfl, by decide +kernel, by decide +kernel⟩
theorem ok_law_jar (T : Txt mg) (D : Def K mg "_law_jar" s_law_jar ["script"]) (c__law_mix : Cal P w K mg base "_law_mix" 1 ["one"] spMix) : Cal P w K mg base "_law_jar" 2 ["script"] (spJar K) := by
  refine D.cal fun f fd F => F.ok sc_law_jar (fun vs H Q E h => ?_) (fun cdv A outer s H vs Q E hr h => ?_)
  · obtain ⟨a, ns, rfl, _⟩ := h
    rfl
  obtain ⟨a, ns, rfl, hS, hlen, q⟩ := h
  refine ⟨_, (@pss_cons _ _ _ _ _ (ps_set (i := 1) sc_law_jar.nd rfl (Or.inl rfl) pe_int)
      (@pss_cons _ _ _ _ _ (ps_for PassesOwn.never rfl (pi_list (pe_slice sl_list (pv 0) po_none (po_some pe_int))) (pg_name (i := 2) sc_law_jar.nd rfl (Or.inl rfl) (Or.inl rfl))
      (@pss_one _ _ _ (ps_set (i := 1) sc_law_jar.nd rfl (Or.inl rfl) (pe_c c__law_mix (hr.mono (by decide)) rfl (pa_binop (pe_op op_mod (pe_op op_add (pe_op op_mul (pv 1) pe_int) (pv 2)) pe_int) pa_nil)))))
      (@pss_one _ _ _ (@ps_ret _ _ _ _ (pe_disp (pps_cons pe_str (pe_callTy call_list_of rfl T.b_list boot_list (pa_sub (pe_slice sl_list (pv 0) po_none (po_some pe_int)) pa_nil)) (pps_cons pe_str pe_int (pps_cons pe_str (pv 1) (pps_cons pe_str pe_int pps_nil)))) rfl rfl (by simp) (by simp)))))), ?_⟩
  obtain ⟨ms, ems, lms⟩ := cutV_ints ns none (some 63)
  refine seq_by (fun σ' H' => ∃ (x : Option V) (sd : Int), σ' = [some (.ref a), some (.int sd), x] ∧ Kp [] H H' ∧ 0 ≤ sd ∧ sd < 2 ^ 64) (fun N hN => hN _ _ ⟨none, 2545678901234567, rfl, .refl, by decide, by decide⟩) ?_
  rintro σ1 H1 ⟨x1, sd1, rfl, k1, b1, b2⟩
  have hS1 : SqL K H1 a (ns.map V.int) := (show Same H H1 from fun b o e => k1 b o e (by simp)).seq hS
  refine seq_by (fun σ' H' => ∃ (x : Option V) (sd : Int), σ' = [some (.ref a), some (.int sd), x] ∧ Kp [] H H' ∧ 0 ≤ sd ∧ sd < 2 ^ 64) (fun N hN => ?_) ?_
  · refine ⟨_, rfl, _, rfl, a, _, rfl, hS1, fun p hp => ?_⟩
    rw [ems]
    refine ⟨p, rfl, ⟨_, SqL.of upd_same⟩, for_list (K := K) (a := p) (xs := ms.map V.int) (fun i σ H2 => ∃ (x : Option V) (sd : Int), σ = [some (.ref a), some (.int sd), x] ∧ Kp [] (upd H1 p (.lst (ms.map V.int))) H2 ∧ 0 ≤ sd ∧ sd < 2 ^ 64)
      ⟨x1, sd1, rfl, .refl, b1, b2⟩ (fun i σ H2 _ ⟨_, _, _, k2, _⟩ => SqL.of (k2 _ _ upd_same (by simp))) ?_ ?_⟩
    · rintro i y σ H2 hi ⟨x2, sd2, rfl, k2, c1, c2⟩
      obtain ⟨z, rfl⟩ : ∃ z, y = V.int z := by
        rw [List.getElem?_map] at hi
        cases e : ms[i]? with
        | none => rw [e] at hi; cases hi
        | some z => rw [e] at hi; exact ⟨z, (Option.some.inj hi).symm⟩
      refine ⟨_, rfl, _, _, rfl, rfl, .inr ⟨by decide, by decide⟩, _, rfl, _, _, rfl, rfl, _, _, rfl, rfl, (show (0 : Int) < 18446744073709551616 by decide), _, rfl, Int.emod_nonneg _ (by decide), Int.emod_lt_of_pos _ (by decide), fun r r0 r1 => ?_⟩
      exact ⟨_, r, rfl, k2, r0, r1⟩
    · rintro σ H2 ⟨x2, sd2, rfl, k2, c1, c2⟩
      exact hN _ _ ⟨x2, sd2, rfl, k1.trans ((Kp.new hp _).trans k2), c1, c2⟩
  · rintro σ2 H2 ⟨x2, sd2, rfl, k2, c1, c2⟩
    have hS2 : SqL K H2 a (ns.map V.int) := (show Same H H2 from fun b o e => k2 b o e (by simp)).seq hS
    intro p hp
    have kp : Kp [] H2 (upd H2 p (.dK [])) := Kp.new hp _
    refine ⟨_, rfl, _, rfl, a, _, rfl, (show Same H2 _ from fun b o e => kp b o e (by simp)).seq hS2, fun l1 hl1 => ?_⟩
    rw [ems]
    refine ⟨l1, _, rfl, .inl (SqL.of upd_same), fun l2 hl2 => ?_⟩
    have n1 : l1 ≠ p := fun z => by rw [z, upd_same] at hl1; cases hl1
    have n2 : l2 ≠ p := fun z => by rw [z, upd_ne (Ne.symm n1), upd_same] at hl2; cases hl2
    refine ⟨_, rfl, ?_⟩
    refine ⟨by rw [upd_ne (Ne.symm n2), upd_ne (Ne.symm n1), upd_same], [(Sum.inr "cells", V.ref l2), (Sum.inr "rest", V.int 0), (Sum.inr "seed", V.int sd2), (Sum.inr "turn", V.int 0)], rfl, (show 4 ≤ 15 by decide), ?_⟩
    have k3 : Kp [] H2 (upd (upd (upd H2 p (.dK [])) l1 (.lst (ms.map V.int))) l2 (.lst (ms.map V.int))) := kp.trans ((Kp.new hl1 _).trans (Kp.new hl2 _))
    have hl2' : H2 l2 = none := by
      rw [upd_ne (fun z => by rw [z, upd_same] at hl2; cases hl2), upd_ne n2] at hl2; exact hl2
    refine q p l2 _ (k2.trans (fun b o e _ => ?_)) ?_ ?_ ⟨ms, 0, sd2, 0, ?_, ?_, by omega, c1, c2⟩
    · rw [upd_ne (ne_of_none e hp)]; exact k3 b o e (by simp)
    · exact (show Same H H2 from fun b o e => k2 b o e (by simp)).free hp
    · exact (show Same H H2 from fun b o e => k2 b o e (by simp)).free hl2'
    · rw [upd_same, ← jar_made]
    · rw [upd_ne n2, upd_same]
theorem sc_law_pick : FnScope ["jar", "many", "cell", "one", "found"] ["jar", "many"] (defScope s_law_pick) := ⟨rfl, rfl, rfl, by decide +kernel, rfl, by decide +kernel, by decide +kernel⟩
theorem ok_law_pick (T : Txt mg) (D : Def K mg "_law_pick" s_law_pick ["jar", "many"]) (c__law_mix : Cal P w K mg base "_law_mix" 1 ["one"] spMix) : Cal P w K mg base "_law_pick" 2 ["jar", "many"] spPick := by
  refine D.cal fun f fd F => F.ok sc_law_pick (fun vs H Q E h => ?_) (fun cdv A outer s H vs Q E hr h => ?_)
  · obtain ⟨p, c, n, rfl, _⟩ := h
    rfl
  obtain ⟨p, c, n, rfl, J, h0, h1, q⟩ := h
  refine ⟨_, (@pss_cons _ _ _ _ _ (ps_if (pt_cmpR op_lt (pe_dget (hu_of hr) (pv 0) pe_str (fun _ _ => rfl)) (pv 1) (nomark _)) (@pss_cons _ _ _ _ _ (ps_dput (hu_of hr) (pv 0) pe_str (pe_op op_add (pe_dget (hu_of hr) (pv 0) pe_str (fun _ _ => rfl)) pe_int) rfl)
      (@pss_one _ _ _ (ps_if (pt_cmpR (op_neD hr.units) (pe_dget (hu_of hr) (pv 0) pe_str (fun _ _ => rfl)) (@PEs.out _ _ _ (pes_lst pas_nil)) (nomark _)) (@pss_cons _ _ _ _ _ (ps_set (i := 2) sc_law_pick.nd rfl (Or.inl rfl) (pe_bm PySem.F.plainAttrs_list PySem.F.slot_list_pop PySem.F.type_list_pop mt_popAt (pe_dget (hu_of hr) (pv 0) pe_str (fun _ _ => rfl)) (pa_const pe_int pa_nil)))
      (@pss_cons _ _ _ _ _ (ps_dput (hu_of hr) (pv 0) pe_str (pv 2) rfl)
      (@pss_one _ _ _ (ps_if (pt_cmpR op_lt (pv 2) (pe_op op_pow pe_int pe_int) (nomark _)) (@pss_cons _ _ _ _ _ (ps_set (i := 3) sc_law_pick.nd rfl (Or.inl rfl) (pe_c c__law_mix (hr.mono (by decide)) rfl (pa_binop (pe_op op_mod (pe_op op_add (pe_op op_mul (pv 2) pe_int) (pe_dget (hu_of hr) (pv 0) pe_str (fun _ _ => rfl))) pe_int) pa_nil)))
      (@pss_one _ _ _ (ps_dput (hu_of hr) (pv 0) pe_str (pe_op op_add (pe_op op_mul (pv 3) pe_int) (pe_c c__law_mix (hr.mono (by decide)) rfl (pa_binop (pe_op op_xor (pv 3) pe_int) pa_nil))) rfl))) pss_nil)))) (@pss_cons _ _ _ _ _ (ps_dput (hu_of hr) (pv 0) pe_str (pe_c c__law_mix (hr.mono (by decide)) rfl (pa_binop (pe_op op_mod (pe_op op_add (pe_dget (hu_of hr) (pv 0) pe_str (fun _ _ => rfl)) pe_int) pe_int) pa_nil)) rfl)
      (@pss_one _ _ _ (ps_dput (hu_of hr) (pv 0) pe_str (pe_dget (hu_of hr) (pv 0) pe_str (fun _ _ => rfl)) rfl)))))) pss_nil)
      (@pss_cons _ _ _ _ _ (ps_set (i := 4) sc_law_pick.nd rfl (Or.inl rfl) (pe_op op_mod (pe_dget (hu_of hr) (pv 0) pe_str (fun _ _ => rfl)) (pv 1)))
      (@pss_cons _ _ _ _ _ (ps_dput (hu_of hr) (pv 0) pe_str (pe_op op_fdivB (pe_dget (hu_of hr) (pv 0) pe_str (fun _ _ => rfl)) (pv 1)) rfl)
      (@pss_one _ _ _ (@ps_ret _ _ _ _ (pv 4)))))), ?_⟩
  have npc := J.ne
  refine seq_by (fun σ' H' => ∃ x y : Option V, σ' = [some (.ref p), some (.int n), x, y, none] ∧ Jar H' p c ∧ Kp [p, c] H H') (fun N hN => ?_) ?_
  · obtain ⟨ns, r, sd, tn, X, hl, s0, s1⟩ := J.x
    refine ⟨_, rfl, p, _, rfl, X.rest, _, rfl, _, _, rfl, rfl, _, rfl, ?_⟩
    refine ite_b (fun cc => ?_) (fun cc => hN _ _ ⟨none, none, rfl, J, .refl⟩)
    -- turn
    refine ⟨_, rfl, p, _, rfl, X.turn, _, _, rfl, rfl, _, rfl, p, _, rfl, X.pTurn _, ?_⟩
    have X1 := X.put r sd (tn + 1)
    have k1 : Kp [p, c] H (upd H p (.dK (jarKV c r sd (tn + 1)))) := Kp.at (by simp) _
    generalize upd H p (.dK (jarKV c r sd (tn + 1))) = H1 at X1 k1 ⊢
    refine ⟨_, rfl, p, _, rfl, X1.cells, (by decide), fun l hl1 => ?_⟩
    have X2 : JarX (upd H1 l (.lst [])) p c ns r sd (tn + 1) := X1.new hl1
    have k2 : Kp [p, c] H (upd H1 l (.lst [])) := k1.trans (Kp.new hl1 _)
    refine ⟨[], .list (ns.map PyData.int), .list [], .list X2.l (by simp) (by rw [List.length_map]; exact Nat.le_trans hl (by decide)) (Reps.ints ns), .list upd_same (by simp) (by simp) .nil, canLay_ints ns, rfl, Nat.le_trans (Nat.min_le_right _ _) (by decide), _, rfl, ?_⟩
    rw [eqv_nil]
    generalize upd H1 l (.lst []) = H2 at X2 k2 ⊢
    cases ns with
    | nil =>
      refine iteF ?_
      refine ⟨_, rfl, p, _, rfl, X2.seed, _, _, rfl, rfl, _, _, rfl, rfl, (show (0 : Int) < 18446744073709551616 by decide), _, rfl, Int.emod_nonneg _ (by decide), Int.emod_lt_of_pos _ (by decide), fun m m0 m1 => ?_⟩
      refine ⟨_, rfl, p, _, rfl, X2.pSeed m, ?_⟩
      have X3 := X2.put r m (tn + 1)
      refine ⟨_, rfl, p, _, rfl, X3.seed, _, rfl, p, _, rfl, X3.pRest m, ?_⟩
      exact hN _ _ ⟨none, none, rfl, (X3.put m m (tn + 1)).jar hl m0 m1, k2.trans ((Kp.at (by simp) _).trans (Kp.at (by simp) _))⟩
    | cons n0 ns =>
      refine iteT ?_
      refine ⟨_, rfl, p, _, rfl, X2.cells, .inl ⟨rfl, _, SqL.of X2.l⟩, c, _, 0, 0, V.int n0, rfl, rfl, X2.l, by decide, by decide, by rw [List.length_map]; exact seqIndex_0 _, rfl, ?_⟩
      have X3 : JarX (upd H2 c (.lst (List.eraseIdx ((n0 :: ns).map V.int) 0))) p c ns r sd (tn + 1) := X2.cut ns
      have k3 : Kp [p, c] H (upd H2 c (.lst (List.eraseIdx ((n0 :: ns).map V.int) 0))) := k2.trans (Kp.at (by simp) _)
      generalize upd H2 c (.lst (List.eraseIdx ((n0 :: ns).map V.int) 0)) = H3 at X3 k3 ⊢
      have hl' : ns.length ≤ 63 := by rw [List.length_cons] at hl; omega
      refine ⟨_, rfl, _, rfl, p, _, rfl, X3.pRest n0, ?_⟩
      have X4 := X3.put n0 sd (tn + 1)
      have k4 : Kp [p, c] H (upd H3 p (.dK (jarKV c n0 sd (tn + 1)))) := k3.trans (Kp.at (by simp) _)
      generalize upd H3 p (.dK (jarKV c n0 sd (tn + 1))) = H4 at X4 k4 ⊢
      refine ⟨_, rfl, _, _, rfl, rfl, ⟨by decide, by decide, by decide⟩, _, _, rfl, rfl, _, rfl, ?_⟩
      refine ite_b (fun cc => ?_) (fun cc => hN _ _ ⟨_, none, rfl, X4.jar hl' s0 s1, k4⟩)
      refine ⟨_, rfl, _, _, rfl, rfl, .inr ⟨by decide, by decide⟩, _, rfl, p, _, rfl, X4.turn, _, _, rfl, rfl, _, _, rfl, rfl, (show (0 : Int) < 18446744073709551616 by decide), _, rfl, Int.emod_nonneg _ (by decide), Int.emod_lt_of_pos _ (by decide), fun m m0 m1 => ?_⟩
      refine ⟨_, rfl, _, _, rfl, rfl, .inl ⟨by omega, by omega⟩, _, rfl, _, _, rfl, rfl, _, rfl, (xor_bound m0 m1 (by decide) (by decide)).1, (xor_bound m0 m1 (by decide) (by decide)).2, fun m' m'0 m'1 => ?_⟩
      refine ⟨_, _, rfl, rfl, _, rfl, p, _, rfl, X4.pRest _, ?_⟩
      exact hN _ _ ⟨_, _, rfl, (X4.put _ sd (tn + 1)).jar hl' s0 s1, k4.trans (Kp.at (by simp) _)⟩
  · rintro σ1 H1 ⟨x, y, rfl, J1, k1⟩
    obtain ⟨ns, r, sd, tn, X, hl, s0, s1⟩ := J1.x
    refine ⟨_, rfl, p, _, rfl, X.rest, _, rfl, _, _, rfl, rfl, h0, ?_⟩
    refine ⟨_, rfl, p, _, rfl, X.rest, _, rfl, _, _, rfl, rfl, cdivB_of h0 h1, _, rfl, p, _, rfl, X.pRest _, ?_⟩
    refine ⟨_, rfl, ?_⟩
    exact q _ _ (Int.emod_nonneg _ (by omega)) (Int.emod_lt_of_pos _ h0) ((X.put _ sd tn).jar hl s0 s1) (k1.trans (Kp.at (by simp) _))

theorem sc_law_gain : FnScope ["jar", "way"] ["jar"] (defScope s_law_gain) := ⟨rfl, rfl, rfl, by decide +kernel, rfl, by decide +kernel, by decide +kernel⟩
theorem ok_law_gain (T : Txt mg) (D : Def K mg "_law_gain" s_law_gain ["jar"]) (c__law_pick : Cal P w K mg base "_law_pick" 2 ["jar", "many"] spPick) : Cal P w K mg base "_law_gain" 3 ["jar"] spGain := by
  refine D.cal fun f fd F => F.ok sc_law_gain (fun vs H Q E h => ?_) (fun cdv A outer s H vs Q E hr h => ?_)
  · obtain ⟨p, c, rfl, _⟩ := h
    rfl
  obtain ⟨p, c, rfl, J, q⟩ := h
  refine ⟨_, (@pss_cons _ _ _ _ _ (ps_set (i := 1) sc_law_gain.nd rfl (Or.inl rfl) (pe_c c__law_pick (hr.mono (by decide)) rfl (pa_name (pv 0) (pa_const pe_int pa_nil))))
      (@pss_cons _ _ _ _ _ (ps_if (pt_cmpR op_lt (pv 1) pe_int (nomark _)) (@pss_one _ _ _ (@ps_ret _ _ _ _ (pe_ix ix_list (@PEs.out _ _ _ (pes_lst (pas_const pes_int (pas_const pes_int (pas_unary (pes_of (pe_un un_neg pe_int)) (pas_const pes_int (pas_unary (pes_of (pe_un un_neg pe_int)) pas_nil))))))) (pv 1) (fun _ _ => rfl)))) pss_nil)
      (@pss_one _ _ _ (@ps_ret _ _ _ _ (pe_ifExp (pt_cmpR op_eq (pv 1) pe_int (nomark _)) (pe_op op_sub (pe_c c__law_pick (hr.mono (by decide)) rfl (pa_name (pv 0) (pa_const pe_int pa_nil))) pe_int) (pe_op op_sub (pe_c c__law_pick (hr.mono (by decide)) rfl (pa_name (pv 0) (pa_const pe_int pa_nil))) pe_int)))))), ?_⟩
  refine seq_by (fun σ' H' => ∃ r : Int, σ' = [some (.ref p), some (.int r)] ∧ (0 ≤ r ∧ r < 7) ∧ Jar H' p c ∧ Kp [p, c] H H') (fun N hN => ?_) ?_
  · exact ⟨_, rfl, p, c, 7, rfl, J, by decide, by decide +kernel, fun r H1 r0 r1 J1 k1 => hN _ _ ⟨r, rfl, ⟨r0, r1⟩, J1, k1⟩⟩
  rintro _ H1 ⟨r, rfl, ⟨r0, r1⟩, J1, k1⟩
  refine seq_by (fun σ' H' => σ' = [some (.ref p), some (.int r)] ∧ H' = H1) (fun N hN => ?_) ?_
  · refine ⟨_, rfl, _, _, rfl, rfl, _, rfl, ite_b (fun cc => ?_) (fun cc => hN _ _ ⟨rfl, rfl⟩)⟩
    have cc : r < 5 := by simpa using cc
    refine ⟨_, rfl, _, rfl, (small4 (Nat.le_of_ble_eq_true rfl)), fun l hl => ?_⟩
    obtain ⟨n, hn, hb⟩ := at_P (P := fun n => -99 ≤ n ∧ n ≤ 99) [0, 1, -1, 2, -2] (by simp) r0 (show r < 5 from cc)
    exact ⟨_, rfl, l, _, _, _, rfl, rfl, SqL.of upd_same, hn, q _ _ hb.1 hb.2 (J1.new hl) (k1.trans (Kp.new hl _))⟩
  rintro _ _ ⟨rfl, rfl⟩
  refine ⟨_, rfl, rfl, _, rfl, ite_b (fun cc => ?_) (fun cc => ?_)⟩
  · exact ⟨_, rfl, p, c, 7, rfl, J1, by decide, by decide +kernel, fun r2 H2 b0 b1 J2 k2 => ⟨_, _, rfl, rfl, q _ _ (by omega) (by omega) J2 (k1.trans k2)⟩⟩
  · exact ⟨_, rfl, p, c, 199, rfl, J1, by decide, by decide +kernel, fun r2 H2 b0 b1 J2 k2 => ⟨_, _, rfl, rfl, q _ _ (by omega) (by omega) J2 (k1.trans k2)⟩⟩
theorem sc_law_book : FnScope ["jar", "most_rooms", "most_ways", "rooms", "purses", "ways", "k", "first", "last"] ["jar", "most_rooms", "most_ways"] (defScope s_law_book) := ⟨rfl, rfl, rfl, by decide +kernel, rfl, by decide +kernel, by decide +kernel⟩
theorem ok_law_book (T : Txt mg) (D : Def K mg "_law_book" s_law_book ["jar", "most_rooms", "most_ways"]) (c__law_pick : Cal P w K mg base "_law_pick" 2 ["jar", "many"] spPick) (c__law_gain : Cal P w K mg base "_law_gain" 3 ["jar"] spGain) : Cal P w K mg base "_law_book" 4 ["jar", "most_rooms", "most_ways"] spBookD := by
  refine D.cal fun f fd F => F.ok sc_law_book (fun vs H Q E h => ?_) (fun cdv A outer s H vs Q E hr h => ?_)
  · obtain ⟨p, c, mr, mw, rfl, _⟩ := h
    rfl
  obtain ⟨p, c, mr, mw, rfl, J, ⟨mr0, mr1⟩, ⟨mw0, mw1⟩, q⟩ := h
  refine ⟨_, (@pss_cons _ _ _ _ _ (ps_set (i := 3) sc_law_book.nd rfl (Or.inl rfl) (pe_op op_add pe_int (pe_c c__law_pick (hr.mono (by decide)) rfl (pa_name (pv 0) (pa_name (pv 1) pa_nil)))))
      (@pss_cons _ _ _ _ _ (ps_set (i := 4) sc_law_book.nd rfl (Or.inl rfl) (pe_ix ix_list (@PEs.out _ _ _ (pes_lst (pas_const pes_int (pas_const pes_int (pas_const pes_int (pas_const pes_int (pas_const pes_int (pas_const pes_int pas_nil)))))))) (pe_c c__law_pick (hr.mono (by decide)) rfl (pa_name (pv 0) (pa_const pe_int pa_nil))) (fun _ _ => rfl)))
      (@pss_cons _ _ _ _ _ (@ps_setD _ _ 5 _ _ _ _ sc_law_book.nd rfl (Or.inl rfl) (pes_lst pas_nil) rfl (Or.inl rfl))
      (@pss_cons _ _ _ _ _ (ps_for PassesOwn.never rfl (pi_range1 rfl T.b_range (pa_call (pe_c c__law_pick (hr.mono (by decide)) rfl (pa_name (pv 0) (pa_binop (pe_op op_add (pv 2) pe_int) pa_nil))) pa_nil)) (pg_name (i := 6) sc_law_book.nd rfl (Or.inl rfl) (Or.inl rfl))
      (@pss_cons _ _ _ _ _ (ps_set (i := 7) sc_law_book.nd rfl (Or.inl rfl) (pe_c c__law_pick (hr.mono (by decide)) rfl (pa_name (pv 0) (pa_name (pv 3) pa_nil))))
      (@pss_cons _ _ _ _ _ (ps_set (i := 8) sc_law_book.nd rfl (Or.inl rfl) (pe_c c__law_pick (hr.mono (by decide)) rfl (pa_name (pv 0) (pa_name (pv 3) pa_nil))))
      (@pss_one _ _ _ (ps_expr (pe_bm PySem.F.plainAttrs_list PySem.F.slot_list_append PySem.F.type_list_append mt_append (pv 5) (pa_tuple (@PEs.out _ _ _ (pes_tup (pas_name (pes_of (pv 7)) (pas_name (pes_of (pv 8)) (pas_call (pes_of (pe_callTy call_tuple_of rfl T.b_tuple boot_tuple (pa_comp (pe_comp (sc := (defScope s_law_book)) (N := ["jar", "most_rooms", "most_ways", "rooms", "purses", "ways", "k", "first", "last"]) (N' := ["p", "jar"]) (k := 1) (idx := [0]) rfl (by exact ⟨rfl, by decide +kernel, by decide +kernel, by decide +kernel, by decide +kernel, by decide +kernel, rfl, rfl⟩) rfl rfl (pi_range1 rfl T.b_range (pa_name (pv 4) pa_nil)) (fun _ _ _ _ => (pg_name (i := 0) (show (["p", "jar"] : List Str).Nodup by decide +kernel) rfl (Or.inl rfl) (Or.inr rfl))) (fun _ _ _ _ => pts_nil) (fun _ _ _ _ => (pe_c c__law_gain (hr.mono (by decide)) rfl (pa_name (pv 1) pa_nil)))) pa_nil))) pas_nil))))) pa_nil)))))))
      (@pss_one _ _ _ (@ps_ret _ _ _ _ (@PEs.out _ _ _ (pes_tup (pas_name (pes_of (pv 3)) (pas_name (pes_of (pv 4)) (pas_call (pes_of (pe_callTy call_tuple_of rfl T.b_tuple boot_tuple (pa_name (pv 5) pa_nil))) pas_nil))))))))))), ?_⟩
  have hs : sizeLine = 16777216 := sizeLine_eq
  refine seq_by (fun σ' H' => ∃ R : Int, σ' = [some (.ref p), some (.int mr), some (.int mw), some (.int R), none, none, none, none, none] ∧ (1 ≤ R ∧ R ≤ 12) ∧ Jar H' p c ∧ Kp [p, c] H H') (fun N hN => ?_) ?_
  · exact ⟨_, rfl, _, rfl, p, c, mr, rfl, J, by omega, small9000 (by omega), fun r H1 r0 r1 J1 k1 => ⟨_, _, rfl, rfl, hN _ _ ⟨_, rfl, by omega, J1, k1⟩⟩⟩
  rintro _ H1 ⟨R, rfl, ⟨R0, R1⟩, J1, k1⟩
  refine seq_by (fun σ' H' => ∃ U : Int, σ' = [some (.ref p), some (.int mr), some (.int mw), some (.int R), some (.int U), none, none, none, none] ∧ (1 ≤ U ∧ U ≤ 6) ∧ Jar H' p c ∧ Kp [p, c] H H') (fun N hN => ?_) ?_
  · refine ⟨(small4 (Nat.le_of_ble_eq_true rfl)), fun l hl => ⟨_, rfl, p, c, 6, rfl, J1.new hl, by decide, by decide +kernel, fun i H3 i0 i1 J3 k3 => ?_⟩⟩
    obtain ⟨n, hn, hb⟩ := at_P (P := fun n => 1 ≤ n ∧ n ≤ 6) [1, 2, 2, 3, 4, 6] (by simp) i0 i1
    refine ⟨l, _, _, _, rfl, rfl, SqL.of (k3 _ _ upd_same (J1.fresh hl)), hn, ?_⟩
    exact hN _ _ ⟨n, rfl, hb, J3, k1.trans ((Kp.new hl _).trans k3)⟩
  rintro _ H2 ⟨U, rfl, ⟨U0, U1⟩, J2, k2⟩
  refine seq_by (fun σ' H' => ∃ l : Addr, H2 l = none ∧ σ' = [some (.ref p), some (.int mr), some (.int mw), some (.int R), some (.int U), some (.ref l), none, none, none] ∧ H' = upd H2 l (.lst [])) (fun N hN => ⟨(small4 (Nat.le_of_ble_eq_true rfl)), fun l hl => hN _ _ ⟨l, hl, rfl, rfl⟩⟩) ?_
  rintro _ _ ⟨l, hl, rfl, rfl⟩
  have nl := J2.fresh hl
  refine seq_by (fun σ' H' => ∃ (ys : List V) (ws : List Way) (o6 o7 o8 : Option V), σ' = [some (.ref p), some (.int mr), some (.int mw), some (.int R), some (.int U), some (.ref l), o6, o7, o8] ∧ Jar H' p c ∧ Kp [p, c] H H' ∧ H' l = some (.lst ys) ∧ Reps [p, c, l] H' (ws.map wayPD) ys ∧ (ws.length : Int) ≤ mw ∧ ∀ w ∈ ws, WayOk R U w) (fun N hN => ?_) ?_
  · refine ⟨_, rfl, _, rfl, _, _, rfl, rfl, p, c, mw + 1, rfl, J2.new hl, by omega, small9000 (by omega), fun n H4 n0 n1 J4 k4 => ⟨n, rfl, by omega, by omega, ?_⟩⟩
    have k4' : Kp [p, c] H H4 := k2.trans ((Kp.new hl _).trans k4)
    refine for_range (n := n.toNat) (fun i σ H' => ∃ (ys : List V) (ws : List Way) (o6 o7 o8 : Option V), σ = [some (.ref p), some (.int mr), some (.int mw), some (.int R), some (.int U), some (.ref l), o6, o7, o8] ∧ Jar H' p c ∧ Kp [p, c] H H' ∧ H' l = some (.lst ys) ∧ Reps [p, c, l] H' (ws.map wayPD) ys ∧ ws.length = i ∧ ∀ w ∈ ws, WayOk R U w)
      ⟨[], [], _, _, _, rfl, J4, k4', k4 _ _ upd_same nl, .nil, rfl, by simp⟩ ?_ ?_
    · rintro i σ H5 hi ⟨ys, ws, o6, o7, o8, rfl, J5, k5, hl5, rs, hlen, hw⟩
      have hylen := rs.length
      rw [List.length_map] at hylen
      refine ⟨_, rfl, _, rfl, p, c, R, rfl, J5, by omega, small9000 (by omega), fun a Ha a0 a1 Ja ka => ⟨_, rfl, _, rfl, p, c, R, rfl, Ja, by omega, small9000 (by omega), fun b Hb b0 b1 Jb kb => ?_⟩⟩
      have hlb : Hb l = some (.lst ys) := kb _ _ (ka _ _ hl5 nl) nl
      refine ⟨_, rfl, .inl ⟨rfl, _, SqL.of hlb⟩, _, rfl, _, rfl, _, rfl, U, rfl, by omega, by omega, fun l2 h2 => ?_⟩
      have nl2 := Jb.fresh h2
      refine comp1_rngP (fun j zs H' => Jar H' p c ∧ Kp [p, c] Hb H' ∧ ∃ ns : List Int, zs = ns.map V.int ∧ ns.length = j ∧ ∀ x ∈ ns, -99 ≤ x ∧ x ≤ 99) ⟨Jb.new h2, Kp.new h2 _, [], rfl, rfl, by simp⟩ upd_same ?_ ?_
      · rintro j H6 zs N' hj ⟨J6, k6, ns, rfl, hjl, hb⟩ hl6 hN'
        refine ⟨_, rfl, p, c, rfl, J6, fun r H7 r0 r1 J7 k7 => hN' _ _ (k7 _ _ hl6 nl2) (by rw [List.length_map]; omega) ⟨J7.upd nl2, fun b' o e n' => ?_, ns ++ [r], by simp, by simp [hjl], ?_⟩⟩
        · rw [upd_ne (ne_of_none e h2)]; exact k7 _ _ (k6 _ _ e n') n'
        · intro x hx
          rcases List.mem_append.mp hx with hx | hx
          · exact hb x hx
          · rw [List.mem_singleton.mp hx]; exact ⟨r0, r1⟩
      · rintro H6 zs ⟨J6, k6, ns, rfl, hjl, hb⟩ hl6
        have hl7 : H6 l = some (.lst ys) := k6 _ _ hlb nl
        refine ⟨l2, _, rfl, .inl ⟨SqL.of hl6, fun t1 h1 => ⟨(small4 (Nat.le_of_ble_eq_true rfl)), fun t2 h3 => ?_⟩⟩⟩
        have J7 := J6.new h1 (o := .tup (ns.map V.int))
        have hl8 := Kp.new (ex := []) h1 (.tup (ns.map V.int)) _ _ hl7 (by simp)
        have hl9 := Kp.new (ex := []) h3 (.tup [.int a, .int b, .ref t1]) _ _ hl8 (by simp)
        have r1 := Rep.newT (ex := [p, c, l]) (Reps.ints ns) h1 (not_mem3 J6 hl7 h1) (by rw [List.length_map]; omega)
        have r2 := Rep.newT (.cons (.int a) (.cons (.int b) (.cons r1 .nil))) h3 (not_mem3 J7 hl8 h3) (small4 (Nat.le_of_ble_eq_true rfl))
        have kk : Kp [p, c, l] H5 (upd (upd (upd H6 t1 (.tup (ns.map V.int))) t2 (.tup [.int a, .int b, .ref t1])) l (.lst (ys ++ [.ref t2]))) :=
          (ka.mono (by simp)).trans ((kb.mono (by simp)).trans ((k6.mono (by simp)).trans ((Kp.new h1 _).trans ((Kp.new h3 _).trans (Kp.at (by simp) _)))))
        refine ⟨l, ys, .ref t2, rfl, rfl, hl9, by omega, ?_⟩
        refine ⟨_, ws ++ [⟨a, b, ns⟩], _, _, _, rfl, (J7.new h3).upd nl, fun b' o e n' => ?_, upd_same, ?_, by simp [hlen], ?_⟩
        · have e1 : b' ≠ l := by
            intro z
            have := k2 b' o e n'
            rw [z, hl] at this; cases this
          rw [upd_ne e1]
          exact Kp.new (ex := []) h3 _ _ _ (Kp.new (ex := []) h1 _ _ _ (k6 _ _ (kb _ _ (ka _ _ (k5 _ _ e n') n') n') n') (by simp)) (by simp)
        · rw [List.map_append]
          exact (rs.keep kk).append (.cons (r2.keep (Kp.at (by simp) _)) .nil)
        · intro x hx
          rcases List.mem_append.mp hx with hx | hx
          · exact hw x hx
          · rw [List.mem_singleton.mp hx]
            exact ⟨a0, a1, b0, b1, by show (ns.length : Int) = U; omega, hb⟩
    · rintro σ H5 ⟨ys, ws, o6, o7, o8, rfl, J5, k5, hl5, rs, hlen, hw⟩
      exact hN _ _ ⟨ys, ws, o6, o7, o8, rfl, J5, k5, hl5, rs, by omega, hw⟩
  rintro _ H5 ⟨ys, ws, o6, o7, o8, rfl, J5, k5, hl5, rs, hlen, hw⟩
  have hylen := rs.length
  rw [List.length_map] at hylen
  refine ⟨_, rfl, _, rfl, _, rfl, l, ys, rfl, .inl ⟨SqL.of hl5, fun t1 h1 => ⟨(small4 (Nat.le_of_ble_eq_true rfl)), fun t2 h2 => ?_⟩⟩⟩
  have r1 := Rep.newT (Reps.mono (ex := [p, c]) (by simp) rs) h1 (J5.fresh h1) (by omega)
  have r2 := Rep.newT (.cons (.int R) (.cons (.int U) (.cons r1 .nil))) h2 ((J5.new h1).fresh h2) (small4 (Nat.le_of_ble_eq_true rfl))
  exact q R U ws _ _ ⟨R0, R1, U0, U1, by omega, hw⟩ hlen ((J5.new h1).new h2) (k5.trans ((Kp.new h1 _).trans (Kp.new h2 _))) r2

theorem sc_law_from : FnScope ["book", "room"] ["book", "room"] (defScope s_law_from) := ⟨rfl, rfl, rfl, by decide +kernel, rfl, by decide +kernel, by decide +kernel⟩
theorem ok_law_from (T : Txt mg) (D : Def K mg "_law_from" s_law_from ["book", "room"]) : Cal P w K mg base "_law_from" 1 ["book", "room"] spFrom := by
  refine D.cal fun f fd F => F.ok sc_law_from (fun vs H Q E h => ?_) (fun cdv A outer s H vs Q E hr h => ?_)
  · obtain ⟨ex, R, U, ws, bv, room, rfl, _⟩ := h
    rfl
  obtain ⟨ex, R, U, ws, bv, room, rfl, rb, q⟩ := h
  refine ⟨_, (@pss_one _ _ _ (@ps_ret _ _ _ _ (pe_comp (sc := (defScope s_law_from)) (N := ["book", "room"]) (N' := ["k", "way", "room"]) (k := 2) (idx := [1]) rfl (by exact ⟨rfl, by decide +kernel, by decide +kernel, by decide +kernel, by decide +kernel, by decide +kernel, rfl, rfl⟩) rfl rfl (pi_enum rfl T.b_enumerate (pa_sub (pe_ix ix_tup (pv 0) pe_int (fun _ _ => rfl)) pa_nil)) (fun _ _ _ _ => (pg_pair (K' := K) (i := 0) (j := 1) rfl (show (["k", "way", "room"] : List Str).Nodup by decide +kernel) ⟨rfl, (Or.inl rfl), (Or.inr rfl)⟩ ⟨rfl, (Or.inl rfl), (Or.inr rfl)⟩ rfl)) (fun _ _ _ _ => pts_one (pt_cmpR op_eq (pe_ix (ix_tupK (K' := K) rfl) (pv 1) pe_int (fun _ _ => rfl)) (pv 2) (nomark _))) (fun _ _ _ _ => (pv 0))))), ?_⟩
  obtain ⟨ba, wa, vs, B⟩ := rep_book rb
  have eb := B.e
  subst eb
  refine ⟨_, rfl, ba, _, _, _, rfl, rfl, SqT.of B.b, at2 _ _ _, true, wa, vs, rfl, SqT.of B.w, fun l hl => ?_⟩
  refine comp2_enum (fun i => decide ((wayAt ws (i : Nat)).a = room)) (fun i => .int (i : Nat)) (SqT.of B.w) B.z hl ?_ ?_ ?_
  · intro i x H1 M hx k1 hM
    obtain ⟨t, g, rfl, ht, hg, _, _⟩ := way_ix B.r hx
    refine ⟨_, rfl, t, _, _, _, rfl, rfl, SqT.of (k1 _ _ ht (by simp)), at0 _ _ _, _, rfl, rfl, _, rfl, ?_⟩
    have := hM H1 .refl
    have e : decide (V.int (wayAt ws (i : Nat)).a = V.int room) = decide ((wayAt ws (i : Nat)).a = room) := by simp
    rw [e]; exact this
  · intro i x H1 M hi hx k1 hM
    exact ⟨_, rfl, hM H1 .refl⟩
  · intro H1 k1 hl1
    refine q l H1 k1 hl ?_
    rw [hl1, B.len]
    unfold fromI
    rw [List.map_map]
    rfl

theorem sc_law_walk : FnScope ["jar", "book", "most", "walk", "turn", "some"] ["jar", "book", "most"] (defScope s_law_walk) := ⟨rfl, rfl, rfl, by decide +kernel, rfl, by decide +kernel, by decide +kernel⟩
theorem ok_law_walk (T : Txt mg) (D : Def K mg "_law_walk" s_law_walk ["jar", "book", "most"]) (c__law_pick : Cal P w K mg base "_law_pick" 2 ["jar", "many"] spPick) (c__law_from : Cal P w K mg base "_law_from" 1 ["book", "room"] spFrom) : Cal P w K mg base "_law_walk" 3 ["jar", "book", "most"] spWalkD := by
  refine D.cal fun f fd F => F.ok sc_law_walk (fun vs H Q E h => ?_) (fun cdv A outer s H vs Q E hr h => ?_)
  · obtain ⟨p, c, R, U, ws, bv, most, rfl, _⟩ := h
    rfl
  obtain ⟨p, c, R, U, ws, bv, most, rfl, J, rb, ok, ⟨m0, m1⟩, q⟩ := h
  refine ⟨_, (@pss_cons _ _ _ _ _ (@ps_setD _ _ 3 _ _ _ _ sc_law_walk.nd rfl (Or.inl rfl) (pes_lst pas_nil) rfl (Or.inl rfl))
      (@pss_cons _ _ _ _ _ (ps_if (pt_cmpR (op_neD hr.units) (pe_ix ix_tup (pv 1) pe_int (fun _ _ => rfl)) (@PEs.out _ _ _ (pes_tup pas_nil)) (nomark _)) (@pss_one _ _ _ (@ps_setD _ _ 3 _ _ _ _ sc_law_walk.nd rfl (Or.inl rfl) (pes_lst (pas_call (pes_of (pe_c c__law_pick (hr.mono (by decide)) rfl (pa_name (pv 0) (pa_call (pe_callB call_len_seq rfl T.b_len PySem.boot_len (pa_sub (pe_ix ix_tup (pv 1) pe_int (fun _ _ => rfl)) pa_nil)) pa_nil)))) pas_nil)) rfl (Or.inl rfl))) pss_nil)
      (@pss_cons _ _ _ _ _ (ps_for PassesOwn.never rfl (pi_range1 rfl T.b_range (pa_call (pe_c c__law_pick (hr.mono (by decide)) rfl (pa_name (pv 0) (pa_name (pv 2) pa_nil))) pa_nil)) (pg_name (i := 4) sc_law_walk.nd rfl (Or.inl rfl) (Or.inl rfl))
      (@pss_cons _ _ _ _ _ (ps_set (i := 5) sc_law_walk.nd rfl (Or.inl rfl) (pe_ifExp (pt_cmpR (op_eqD hr.units) (pv 3) (@PEs.out _ _ _ (pes_lst pas_nil)) (nomark _)) (@PEs.out _ _ _ (pes_lst pas_nil)) (pe_c c__law_from (hr.mono (by decide)) rfl (pa_name (pv 1) (pa_sub (pe_ix ix_tup (pe_ix ix_tup (pe_ix ix_tup (pv 1) pe_int (fun _ _ => rfl)) (pe_ix ix_list (pv 3) (pe_un un_neg pe_int) (fun _ _ => rfl)) (fun _ _ => rfl)) pe_int (fun _ _ => rfl)) pa_nil)))))
      (@pss_one _ _ _ (ps_if (pt_cmpR (op_neD hr.units) (pv 5) (@PEs.out _ _ _ (pes_lst pas_nil)) (nomark _)) (@pss_one _ _ _ (ps_expr (pe_bm PySem.F.plainAttrs_list PySem.F.slot_list_append PySem.F.type_list_append mt_append (pv 3) (pa_sub (pe_ix ix_list (pv 5) (pe_c c__law_pick (hr.mono (by decide)) rfl (pa_name (pv 0) (pa_call (pe_callB call_len_seq rfl T.b_len PySem.boot_len (pa_name (pv 5) pa_nil)) pa_nil))) (fun _ _ => rfl)) pa_nil)))) pss_nil))))
      (@pss_one _ _ _ (@ps_ret _ _ _ _ (pv 3)))))), ?_⟩
  have hs : sizeLine = 16777216 := sizeLine_eq
  obtain ⟨ba, wa, vs, B⟩ := rep_book rb
  have eb := B.e
  subst eb
  have hln := ok.len
  refine seq_by (fun σ' H' => ∃ l, H l = none ∧ σ' = [some (.ref p), some (.ref ba), some (.int most), some (.ref l), none, none] ∧ H' = upd H l (.lst [])) (fun N hN => ⟨small4 (Nat.le_of_ble_eq_true rfl), fun l hl => hN _ _ ⟨l, hl, rfl, rfl⟩⟩) ?_
  rintro _ _ ⟨l0, hl0, rfl, rfl⟩
  have B1 := B.keep (Kp.new hl0 (.lst []))
  refine seq_by (fun σ' H' => ∃ l ns, σ' = [some (.ref p), some (.ref ba), some (.int most), some (.ref l), none, none] ∧ WI p c ws H H' l ns 1) (fun N hN => ?_) ?_
  · refine ⟨_, rfl, ba, _, _, _, rfl, rfl, SqT.of B1.b, at2 _ _ _, small4 (Nat.le_of_ble_eq_true rfl), fun t ht => ?_⟩
    have B2 := B1.keep (Kp.new ht (.tup []))
    have J2 := (J.new hl0 (o := .lst [])).new ht (o := .tup [])
    have k2 : Kp [p, c] H (upd (upd H l0 (.lst [])) t (.tup [])) := (Kp.new hl0 _).trans (Kp.new ht _)
    refine ⟨[p, c], .tuple (ws.map wayPD), .tuple [], .tuple B2.w B2.nw B2.z B2.r, .tuple upd_same ((J.new hl0).fresh ht) (by simp) .nil, by rw [PyData.canLay0]; exact canLay_ways ws, rfl, Nat.le_trans (Nat.min_le_right _ _) (by decide), _, rfl, ite_b (fun cc => ?_) (fun cc => ?_)⟩
    · rw [eqv_ways_nil] at cc
      have hne : ws ≠ [] := by rintro rfl; simp at cc
      have hpos : 0 < ws.length := List.length_pos_iff.mpr hne
      refine ⟨_, rfl, _, rfl, ba, _, _, _, rfl, rfl, SqT.of B2.b, at2 _ _ _, wa, _, rfl, .inr (SqT.of B2.w), p, c, _, rfl, J2, by rw [B2.len]; omega, small9000 (by rw [B2.len]; omega), fun r H3 r0 r1 J3 k3 => ?_⟩
      rw [B2.len] at r1
      refine ⟨small4 (Nat.le_of_ble_eq_true rfl), fun l hl => hN _ _ ⟨l, [r], rfl, J3.new hl, (k2.trans k3).trans (Kp.new hl _), Kp.free (k2.trans k3) hl (J3.fresh hl), J3.fresh hl, upd_same, ?_, trivial, by simp, by simp⟩⟩
      intro k hk
      rw [List.mem_singleton.mp hk]
      exact ⟨r0, r1⟩
    · rw [eqv_ways_nil] at cc
      have he : ws = [] := by cases ws with
        | nil => rfl
        | cons _ _ => simp at cc
      exact hN _ _ ⟨l0, [], rfl, J2, k2, hl0, J.fresh hl0, by rw [upd_ne (ne_of_none upd_same ht)]; exact upd_same, (fun k hk => by cases hk), trivial, by simp, fun z => absurd he z⟩
  rintro _ H3 ⟨l, ns0, rfl, W0⟩
  refine seq_by (fun σ' H' => ∃ ns o4 o5, σ' = [some (.ref p), some (.ref ba), some (.int most), some (.ref l), o4, o5] ∧ WI p c ws H H' l ns most) (fun N hN => ?_) ?_
  · refine ⟨_, rfl, _, rfl, p, c, most, rfl, W0.j, by omega, small9000 (by omega), fun n H4 n0 n1 J4 k4 => ⟨n, rfl, by omega, by omega, ?_⟩⟩
    refine for_range (n := n.toNat) (fun i σ H' => ∃ ns o4 o5, σ = [some (.ref p), some (.ref ba), some (.int most), some (.ref l), o4, o5] ∧ WI p c ws H H' l ns (i + 1))
      ⟨ns0, _, _, rfl, J4, W0.k.trans k4, W0.n, W0.nl, k4 _ _ W0.l W0.nl, W0.i, W0.c, by have := W0.z; omega, W0.e⟩ ?_ ?_
    · rintro i σ H5 hi ⟨ns, o4, o5, rfl, W⟩
      have hz := W.z
      have B5 := B.keep W.k
      refine seq_by (fun σ' H' => ∃ l5 ms o4, σ' = [some (.ref p), some (.ref ba), some (.int most), some (.ref l), o4, some (.ref l5)] ∧ Kp [] H5 H' ∧ H5 l5 = none ∧ H' l5 = some (.lst (ms.map V.int)) ∧ ms.length ≤ 60 ∧ InW ws ms ∧ (ms ≠ [] → ns ≠ []) ∧ ∀ m ∈ ms, (wayAt ws (lastI ns)).b = (wayAt ws m).a) (fun N hN => ?_) ?_
      · refine ⟨_, rfl, small4 (Nat.le_of_ble_eq_true rfl), fun t ht => ?_⟩
        have k6 : Kp [] H5 (upd H5 t (.lst [])) := Kp.new ht _
        refine ⟨[p, c], .list (ns.map PyData.int), .list [], Rep.lints (k6 _ _ W.l (by simp)) W.nl (by omega), .list upd_same (W.j.fresh ht) (by simp) .nil, by rw [PyData.canLay0]; exact canLay_ints ns, rfl, Nat.le_trans (Nat.min_le_right _ _) (by decide), _, rfl, ite_b (fun cc => ?_) (fun cc => ?_)⟩
        · rw [eqv_ints_nil] at cc
          exact ⟨small4 (Nat.le_of_ble_eq_true rfl), fun l5 hl5 => hN _ _ ⟨l5, [], _, rfl, k6.trans (Kp.new hl5 _), Kp.free k6 hl5 (by simp), upd_same, by simp, (fun k hk => by cases hk), (fun z => absurd rfl z), fun k hk => by cases hk⟩⟩
        · rw [eqv_ints_nil] at cc
          have hne : ns ≠ [] := by rintro rfl; simp at cc
          have il := W.i _ (lastI_mem hne)
          have B6 := B5.keep k6.of
          obtain ⟨t1, g1, e1, ht1, _⟩ := way_at B6.r il.1 il.2
          have el : atI (ns.map V.int) (-1) = some (.int (lastI ns)) := by rw [lastI_eq hne]; exact at_lastI hne
          refine ⟨_, rfl, _, rfl, ba, _, _, _, rfl, rfl, SqT.of B6.b, at2 _ _ _, _, rfl, _, rfl, l, _, _, _, rfl, rfl, SqL.of (k6 _ _ W.l (by simp)), el, wa, _, _, _, rfl, rfl, SqT.of B6.w, e1, t1, _, _, _, rfl, rfl, SqT.of ht1, at1 _ _ _, [p, c], R, U, ws, _, _, rfl, B6.rep, fun l5 H6 k7 hl5 h5 => ?_⟩
          have hlen := fromI_len ws (wayAt ws (lastI ns)).b
          exact hN _ _ ⟨l5, _, _, rfl, k6.trans k7, Kp.free k6 hl5 (by simp), h5, by omega, fun k hk => ⟨(fromI_mem hk).1, (fromI_mem hk).2.1⟩, fun _ => hne, fun k hk => (fromI_mem hk).2.2.symm⟩
      rintro _ H6 ⟨l5, ms, o4, rfl, k6, n5, h5, z5, i5, e5, c5⟩
      have hl6 := k6 _ _ W.l (by simp)
      have J6 := W.j.keep k6
      refine ⟨_, rfl, small4 (Nat.le_of_ble_eq_true rfl), fun t ht => ?_⟩
      have k7 : Kp [] H6 (upd H6 t (.lst [])) := Kp.new ht _
      have h57 := k7 _ _ h5 (by simp)
      have W7 : WI p c ws H (upd H6 t (.lst [])) l ns (i + 1) := ⟨J6.keep k7, W.k.trans (k6.trans k7).of, W.n, W.nl, k7 _ _ hl6 (by simp), W.i, W.c, W.z, W.e⟩
      refine ⟨[p, c], .list (ms.map PyData.int), .list [], Rep.lints h57 (W.j.fresh n5) (by omega), .list upd_same (J6.fresh ht) (by simp) .nil, by rw [PyData.canLay0]; exact canLay_ints ms, rfl, Nat.le_trans (Nat.min_le_right _ _) (by decide), _, rfl, ite_b (fun cc => ?_) (fun cc => ?_)⟩
      · rw [eqv_ints_nil] at cc
        have hne : ms ≠ [] := by rintro rfl; simp at cc
        have hpos : 0 < ms.length := List.length_pos_iff.mpr hne
        refine ⟨_, rfl, .inl ⟨rfl, _, SqL.of W7.l⟩, _, rfl, _, rfl, _, rfl, l5, _, rfl, .inl (SqL.of h57), p, c, _, rfl, W7.j, by rw [List.length_map]; omega, small9000 (by rw [List.length_map]; omega), fun r H8 r0 r1 J8 k8 => ?_⟩
        rw [List.length_map] at r1
        obtain ⟨m, hm, em⟩ := at_map ms r0 r1
        have n5' : l5 ∉ [p, c] := W.j.fresh n5
        refine ⟨l5, _, _, _, rfl, rfl, SqL.of (k8 _ _ h57 n5'), em, l, _, _, rfl, rfl, k8 _ _ W7.l W7.nl, by rw [List.length_map]; omega, ?_⟩
        refine ⟨ns ++ [m], _, _, rfl, J8.upd W.nl, fun b o e n => ?_, W.n, W.nl, by rw [upd_same, List.map_append]; rfl, ?_, W.c.add fun _ => c5 m hm, by simp; omega, by simp⟩
        · rw [upd_ne (ne_of_none e W.n)]; exact k8 _ _ (W7.k _ _ e n) n
        · intro k hk
          rcases List.mem_append.mp hk with hk | hk
          · exact W.i k hk
          · rw [List.mem_singleton.mp hk]; exact i5 m hm
      · exact ⟨ns, _, _, rfl, W7.j, W7.k, W7.n, W7.nl, W7.l, W7.i, W7.c, by have := W7.z; push_cast; omega, W7.e⟩
    · rintro σ H5 ⟨ns, o4, o5, rfl, W⟩
      exact hN _ _ ⟨ns, _, _, rfl, W.j, W.k, W.n, W.nl, W.l, W.i, W.c, by have := W.z; omega, W.e⟩
  rintro _ H5 ⟨ns, o4, o5, rfl, W⟩
  exact ⟨_, rfl, q ns l H5 W.i W.c W.z W.e W.j W.k W.n W.l⟩

theorem sc_law_back : FnScope ["book", "first", "last", "known", "waiting", "here", "k", "there"] ["book", "first", "last"] (defScope s_law_back) := ⟨rfl, rfl, rfl, by decide +kernel, rfl, by decide +kernel, by decide +kernel⟩
theorem ok_law_back (T : Txt mg) (D : Def K mg "_law_back" s_law_back ["book", "first", "last"]) (c__law_from : Cal P w K mg base "_law_from" 1 ["book", "room"] spFrom) : Cal P w K mg base "_law_back" 2 ["book", "first", "last"] spBack := by
  refine D.cal fun f fd F => F.ok sc_law_back (fun vs H Q E h => ?_) (fun cdv A outer s H vs Q E hr h => ?_)
  · obtain ⟨ex, R, U, ws, bv, first, last, rfl, _⟩ := h
    rfl
  obtain ⟨ex, R, U, ws, bv, first, last, rfl, rb, ok, hfi, q0, q1⟩ := h
  refine ⟨_, (@pss_cons _ _ _ _ _ (ps_set (i := 3) sc_law_back.nd rfl (Or.inl rfl) (pe_disp (pps_cons (pv 1) (@PEs.out _ _ _ (pes_lst pas_nil)) pps_nil) rfl rfl (by simp) (by simp)))
      (@pss_cons _ _ _ _ _ (@ps_setD _ _ 4 _ _ _ _ sc_law_back.nd rfl (Or.inl rfl) (pes_lst (pas_name (pes_of (pv 1)) pas_nil)) rfl (Or.inl rfl))
      (@pss_cons _ _ _ _ _ (ps_while PassesOwn.never (pt_cmpR (op_neD hr.units) (pv 4) (@PEs.out _ _ _ (pes_lst pas_nil)) (nomark _))
      (@pss_cons _ _ _ _ _ (ps_set (i := 5) sc_law_back.nd rfl (Or.inl rfl) (pe_bm PySem.F.plainAttrs_list PySem.F.slot_list_pop PySem.F.type_list_pop mt_popAt (pv 4) (pa_const pe_int pa_nil)))
      (@pss_one _ _ _ (ps_for PassesOwn.never rfl (pi_list (pe_c c__law_from (hr.mono (by decide)) rfl (pa_name (pv 0) (pa_name (pv 5) pa_nil)))) (pg_name (i := 6) sc_law_back.nd rfl (Or.inl rfl) (Or.inl rfl))
      (@pss_cons _ _ _ _ _ (ps_set (i := 7) sc_law_back.nd rfl (Or.inl rfl) (pe_ix ix_tup (pe_ix ix_tup (pe_ix ix_tup (pv 0) pe_int (fun _ _ => rfl)) (pv 6) (fun _ _ => rfl)) pe_int (fun _ _ => rfl)))
      (@pss_one _ _ _ (ps_if (pt_cmp (pc_dnotin (hu_of hr) (pv 7) (pv 3))) (@pss_cons _ _ _ _ _ (ps_dput (hu_of hr) (pv 3) (pv 7) (pe_op op_cat (pe_dget (hu_of hr) (pv 3) (pv 5) (fun _ _ => rfl)) (@PEs.out _ _ _ (pes_lst (pas_name (pes_of (pv 6)) pas_nil)))) rfl)
      (@pss_one _ _ _ (ps_expr (pe_bm PySem.F.plainAttrs_list PySem.F.slot_list_append PySem.F.type_list_append mt_append (pv 4) (pa_name (pv 7) pa_nil))))) pss_nil)))))))
      (@pss_one _ _ _ (@ps_ret _ _ _ _ (pe_dget2 (hu_of hr) (pv 3) (pv 2) pe_non ⟨rfl, rfl, rfl, rfl⟩)))))), ?_⟩
  have hs : sizeLine = 16777216 := sizeLine_eq
  have r0 := ok.r0
  have r1 := ok.r1
  have wz := ok.len
  obtain ⟨ba, wa, vs, B⟩ := rep_book rb
  have eb := B.e
  subst eb
  refine seq_by (fun σ' H' => ∃ (kd l0 : Addr), σ' = [some (.ref ba), some (.int first), some (.int last), some (.ref kd), none, none, none, none] ∧ Kp [] H H' ∧ H kd = none ∧ H l0 = none ∧ l0 ≠ kd ∧ H' l0 = some (.lst []) ∧ H' kd = some (.dK [(Sum.inl first, V.ref l0)])) (fun N hN => ?_) ?_
  · refine fun p hp => ⟨_, rfl, small4 (Nat.le_of_ble_eq_true rfl), fun l hl => ⟨(by rw [upd_ne (ne_of_none upd_same hl)]; exact upd_same), [(Sum.inl first, V.ref l)], rfl, by simp, ?_⟩⟩
    have hne : l ≠ p := fun z => by rw [z, upd_same] at hl; cases hl
    have hH : H l = none := by rw [upd_ne hne] at hl; exact hl
    refine hN _ _ ⟨p, l, rfl, ?_, hp, hH, hne, by rw [upd_ne hne, upd_same], by rw [upd_same]; rfl⟩
    exact fun b o e n => by rw [upd_ne (ne_of_none e hp), upd_ne (ne_of_none e hH), upd_ne (ne_of_none e hp)]; exact e
  rintro _ H1 ⟨kd, l0, rfl, k1, fkd, fl0, ne0, hl0, hkd⟩
  refine seq_by (fun σ' H' => ∃ (wl : Addr), σ' = [some (.ref ba), some (.int first), some (.int last), some (.ref kd), some (.ref wl), none, none, none] ∧ BkI R ws first kd wl H H' [(first, l0, [])] [first]) (fun N hN => ?_) ?_
  · refine ⟨_, rfl, small4 (Nat.le_of_ble_eq_true rfl), fun l hl => hN _ _ ⟨l, rfl, ?_⟩⟩
    have hH : H l = none := Kp.free k1 hl (by simp)
    have n1 : kd ≠ l := ne_of_none hkd hl
    have n2 : l0 ≠ l := ne_of_none hl0 hl
    refine ⟨k1.trans (Kp.new hl _), fkd, hH, n1, by rw [upd_ne n1]; exact hkd, upd_same, ?_, by simp, by simp⟩
    intro e he
    obtain rfl := List.mem_singleton.mp he
    exact ⟨by rw [upd_ne n2]; exact hl0, fl0, ne0, n2, rfl, by simp, hfi⟩
  rintro _ H2 ⟨wl, rfl, I2⟩
  refine seq_by (fun σ' H' => ∃ (ks : List KE) (ms : List Int) (o1 o2 o3 : Option V), σ' = [some (.ref ba), some (.int first), some (.int last), some (.ref kd), some (.ref wl), o1, o2, o3] ∧ BkI R ws first kd wl H H' ks ms) (fun N hN => ?_) ?_
  · refine ⟨fun m σ H' => ∃ (ks : List KE) (ms : List Int) (o1 o2 o3 : Option V), σ = [some (.ref ba), some (.int first), some (.int last), some (.ref kd), some (.ref wl), o1, o2, o3] ∧ BkI R ws first kd wl H H' ks ms ∧ m = 2 * (R.toNat - ks.length) + ms.length ∧ m ≤ 40, ⟨_, _, _, _, _, _, rfl, I2, rfl, by simp; omega⟩, ?_⟩
    rintro m σ H3 ⟨ks, ms, o1, o2, o3, rfl, I, rfl, mz⟩
    have lz := I.len (by omega)
    refine ⟨_, rfl, small4 (Nat.le_of_ble_eq_true rfl), fun t ht => ?_⟩
    have I4 := I.kp (Kp.new ht (.lst []))
    refine ⟨[], .list (ms.map PyData.int), .list [], Rep.lints I4.w (by simp) (by omega), .list upd_same (by simp) (by simp) .nil, by rw [PyData.canLay0]; exact canLay_ints ms, rfl, Nat.le_trans (Nat.min_le_right _ _) (by decide), _, rfl, ite_b (fun cc => ?_) (fun cc => ?_)⟩
    · rw [eqv_ints_nil] at cc
      cases hms : ms with
      | nil => rw [hms] at cc; simp at cc
      | cons here rest =>
        subst hms
        clear cc
        generalize upd H3 t (.lst []) = H4 at I4
        have hk4 := I4.wk here List.mem_cons_self
        obtain ⟨eh, heh, rfl, hvh⟩ := ke_some hk4
        refine ⟨_, fun σ' H' h => h, ?_⟩
        refine seq_by (fun σ' H' => σ' = [some (.ref ba), some (.int first), some (.int last), some (.ref kd), some (.ref wl), some (.int eh.1), o2, o3] ∧ BkI R ws first kd wl H H' ks rest) (fun N' hN' => ?_) ?_
        · exact ⟨_, rfl, .inl ⟨rfl, _, SqL.of I4.w⟩, wl, _, 0, 0, .int eh.1, rfl, rfl, I4.w, by omega, by omega, by simp [seqIndex?], rfl, hN' _ _ ⟨rfl, I4.setw rfl fun m hm => I4.wk m (List.mem_cons_of_mem _ hm)⟩⟩
        rintro _ H5 ⟨rfl, I5⟩
        have B5 := B.keep I5.k.of
        refine ⟨_, rfl, _, rfl, ex, R, U, ws, _, _, rfl, B5.rep, fun l5 H6 k6 hl5 h5 => ⟨l5, rfl, ⟨_, SqL.of h5⟩, ?_⟩⟩
        have I6 := I5.kp k6
        have n5k : l5 ≠ kd := (ne_of_none I5.d hl5).symm
        have n5w : l5 ≠ wl := (ne_of_none I5.w hl5).symm
        rw [List.length_cons] at mz
        refine for_list (K := K) (xs := (fromI ws eh.1).map V.int) (fun j σ H' => ∃ (kt : List KE) (mt : List Int) (o2 o3 : Option V), σ = [some (.ref ba), some (.int first), some (.int last), some (.ref kd), some (.ref wl), some (.int eh.1), o2, o3] ∧ BkI R ws first kd wl H H' kt mt ∧ eh.1 ∈ kt.map (·.1) ∧ 2 * (R.toNat - kt.length) + mt.length ≤ 2 * (R.toNat - ks.length) + rest.length ∧ H' l5 = some (.lst ((fromI ws eh.1).map V.int)))
          ⟨ks, rest, _, _, rfl, I6, hk4, Nat.le_refl _, h5⟩ (fun j σ H' _ ⟨_, _, _, _, _, _, _, _, h⟩ => SqL.of h) ?_ (fun σ H' ⟨kt, mt, _, _, e, I', _, z', _⟩ => ⟨_, by rw [List.length_cons]; exact Nat.lt_succ_of_le z', kt, mt, _, _, _, e, I', rfl, by omega⟩)
        rintro j x σ H7 hx ⟨kt, mt, o2, o3, rfl, I7, hkt, zt, h57⟩
        rw [List.getElem?_map] at hx
        cases hn : (fromI ws eh.1)[j]? with
        | none => rw [hn] at hx; cases hx
        | some k =>
          rw [hn] at hx
          obtain rfl : V.int k = x := Option.some.inj hx
          have ik := fromI_mem (List.mem_of_getElem? hn)
          have B7 := B.keep (I7.k.of (ex := ex))
          have z7 := I7.len (by omega)
          obtain ⟨t1, g1, e1, ht1, hg1, hm⟩ := way_at B7.r ik.1 ik.2.1
          have wok := ok.ways _ hm
          refine seq_by (fun σ' H' => σ' = [some (.ref ba), some (.int first), some (.int last), some (.ref kd), some (.ref wl), some (.int eh.1), some (.int k), some (.int (wayAt ws k).b)] ∧ H' = H7) (fun N' hN' => ⟨_, rfl, ba, _, _, _, rfl, rfl, SqT.of B7.b, at2 _ _ _, _, rfl, wa, _, _, _, rfl, rfl, SqT.of B7.w, e1, t1, _, _, _, rfl, rfl, SqT.of ht1, at1 _ _ _, hN' _ _ ⟨rfl, rfl⟩⟩) ?_
          rintro _ H7 ⟨rfl, rfl⟩
          refine ⟨_, rfl, _, rfl, kd, _, rfl, DGet.k (k := Sum.inl (wayAt ws k).b) I7.d, _, rfl, ite_b (fun cc => ?_) (fun cc => ?_)⟩
          · have hnew : (wayAt ws k).b ∉ kt.map (·.1) := fun h => by
              obtain ⟨e, _, _, hv⟩ := ke_some h
              rw [hv] at cc
              simp at cc
            obtain ⟨e7, he7, ee7, hv7⟩ := ke_some hkt
            obtain ⟨p1, p2, p3, p4, p5, p6, p7⟩ := I7.p e7 he7
            refine seq_by (fun σ' H' => σ' = [some (.ref ba), some (.int first), some (.int last), some (.ref kd), some (.ref wl), some (.int eh.1), some (.int k), some (.int (wayAt ws k).b)] ∧ (∃ a ns, BkI R ws first kd wl H H' (kt ++ [((wayAt ws k).b, a, ns)]) mt) ∧ H' l5 = some (.lst ((fromI ws eh.1).map V.int))) (fun N' hN' => ?_) ?_
            · refine ⟨_, rfl, _, rfl, kd, _, rfl, by have := DGet.k (k := Sum.inl eh.1) I7.d; rw [hv7] at this; exact this, _, rfl, small4 (Nat.le_of_ble_eq_true rfl), fun t ht => ?_⟩
              have I8 := I7.kp (Kp.new ht (.lst [.int k]))
              obtain ⟨p1', _⟩ := I8.p e7 he7
              refine ⟨_, t, _, _, rfl, rfl, p1', upd_same, by rw [List.length_map]; simp only [List.length_singleton]; omega, fun a ha => ⟨_, rfl, _, rfl, kd, _, rfl, DPut.k (k := Sum.inl (wayAt ws k).b) (I8.kp (Kp.new ha _)).d (by rw [List.length_map]; omega), hN' _ _ ⟨rfl, ⟨a, e7.2.2 ++ [k], ?_⟩, ?_⟩⟩⟩
              · have I9 := I8.kp (Kp.new ha (.lst (e7.2.2.map V.int ++ [.int k])))
                refine I9.add hnew (by rw [upd_same, List.map_append]; rfl) (Kp.free I8.k ha (by simp)) (ne_of_none I8.d ha).symm (ne_of_none I8.w ha).symm (p5.app ⟨⟨ik.1, ik.2.1⟩, by rw [ik.2.2, ee7], rfl⟩) (by rw [List.length_append]; exact p6) ⟨wok.b0, wok.b1⟩
              · have n1 : l5 ≠ t := ne_of_none h57 ht
                have h8 : upd H7 t (.lst [.int k]) l5 = some (.lst ((fromI ws eh.1).map V.int)) := by rw [upd_ne n1]; exact h57
                rw [upd_ne n5k, upd_ne (ne_of_none h8 ha)]; exact h8
            · rintro _ H8 ⟨rfl, ⟨a, ns, I8⟩, h58⟩
              have z8 := I8.len (by omega)
              rw [List.length_append, List.length_singleton] at z8
              refine ⟨_, rfl, .inl ⟨rfl, _, SqL.of I8.w⟩, _, rfl, wl, _, _, rfl, rfl, I8.w, by rw [List.length_map]; omega, kt ++ [((wayAt ws k).b, a, ns)], mt ++ [(wayAt ws k).b], _, _, rfl, I8.setw (by rw [List.map_append]; rfl) fun m hm => ?_, by rw [List.map_append]; exact List.mem_append_left _ hkt, by rw [List.length_append, List.length_append, List.length_singleton, List.length_singleton]; omega, by rw [upd_ne n5w]; exact h58⟩
              rcases List.mem_append.mp hm with hm | hm
              · exact I8.wk m hm
              · rw [List.mem_singleton.mp hm, List.map_append]
                exact List.mem_append_right _ (List.mem_singleton.mpr rfl)
          · exact ⟨kt, mt, _, _, rfl, I7, hkt, zt, h57⟩
    · exact hN _ _ ⟨ks, ms, _, _, _, rfl, I4⟩
  rintro _ H3 ⟨ks, ms, o1, o2, o3, rfl, I3⟩
  have lz := I3.len (by omega)
  refine ⟨_, rfl, kd, rfl, .inl ⟨_, .inl I3.d⟩, _, rfl, ?_⟩
  by_cases hm : last ∈ ks.map (·.1)
  · obtain ⟨e, he, rfl, hv⟩ := ke_some hm
    obtain ⟨h1, h2, _, _, h3, h4, _⟩ := I3.p e he
    refine ⟨_, DGet.k (k := Sum.inl e.1) I3.d, ?_⟩
    rw [hv]
    exact q1 _ _ _ I3.k h2 h1 h3 (by omega)
  · refine ⟨_, DGet.k (k := Sum.inl last) I3.d, ?_⟩
    rw [(ke_none hm).1]
    exact q0 _ I3.k

theorem sc_law_closed : FnScope ["jar", "book", "most", "walk", "back"] ["jar", "book", "most"] (defScope s_law_closed) := ⟨rfl, rfl, rfl, by decide +kernel, rfl, by decide +kernel, by decide +kernel⟩
theorem ok_law_closed (T : Txt mg) (D : Def K mg "_law_closed" s_law_closed ["jar", "book", "most"]) (c__law_walk : Cal P w K mg base "_law_walk" 3 ["jar", "book", "most"] spWalkD) (c__law_back : Cal P w K mg base "_law_back" 2 ["book", "first", "last"] spBack) : Cal P w K mg base "_law_closed" 4 ["jar", "book", "most"] spClosed := by
  refine D.cal fun f fd F => F.ok sc_law_closed (fun vs H Q E h => ?_) (fun cdv A outer s H vs Q E hr h => ?_)
  · obtain ⟨p, c, R, U, ws, bv, most, rfl, _⟩ := h
    rfl
  obtain ⟨p, c, R, U, ws, bv, most, rfl, J, rb, ok, hmost, q⟩ := h
  refine ⟨_, (@pss_cons _ _ _ _ _ (ps_set (i := 3) sc_law_closed.nd rfl (Or.inl rfl) (pe_c c__law_walk (hr.mono (by decide)) rfl (pa_name (pv 0) (pa_name (pv 1) (pa_name (pv 2) pa_nil)))))
      (@pss_cons _ _ _ _ _ (ps_if (pt_cmpR (op_eqD hr.units) (pv 3) (@PEs.out _ _ _ (pes_lst pas_nil)) (nomark _)) (@pss_one _ _ _ (@ps_ret _ _ _ _ (@PEs.out _ _ _ (pes_lst pas_nil)))) pss_nil)
      (@pss_cons _ _ _ _ _ (ps_set (i := 4) sc_law_closed.nd rfl (Or.inl rfl) (pe_c c__law_back (hr.mono (by decide)) rfl (pa_name (pv 1) (pa_sub (pe_ix ix_tup (pe_ix ix_tup (pe_ix ix_tup (pv 1) pe_int (fun _ _ => rfl)) (pe_ix ix_list (pv 3) (pe_un un_neg pe_int) (fun _ _ => rfl)) (fun _ _ => rfl)) pe_int (fun _ _ => rfl)) (pa_sub (pe_ix ix_tup (pe_ix ix_tup (pe_ix ix_tup (pv 1) pe_int (fun _ _ => rfl)) (pe_ix ix_list (pv 3) pe_int (fun _ _ => rfl)) (fun _ _ => rfl)) pe_int (fun _ _ => rfl)) pa_nil)))))
      (@pss_one _ _ _ (@ps_ret _ _ _ _ (pe_ifExp (pt_cmpR op_isN (pv 4) pe_non (nomark _)) (@PEs.out _ _ _ (pes_lst pas_nil)) (pe_op op_cat (pv 3) (pv 4)))))))), ?_⟩
  have hs : sizeLine = 16777216 := sizeLine_eq
  obtain ⟨ba, wa, vs, B⟩ := rep_book rb
  have eb := B.e
  subst eb
  refine seq_by (fun σ' H' => ∃ l ns, σ' = [some (.ref p), some (.ref ba), some (.int most), some (.ref l), none] ∧ InW ws ns ∧ Chain ws ns ∧ (ns.length : Int) ≤ most ∧ Jar H' p c ∧ Kp [p, c] H H' ∧ H l = none ∧ H' l = some (.lst (ns.map V.int))) (fun N hN => ⟨_, rfl, _, rfl, _, rfl, p, c, R, U, ws, _, most, rfl, J, rb, ok, hmost, fun ns l H1 h1 h2 h3 _ J1 k1 f1 hl1 => hN _ _ ⟨l, ns, rfl, h1, h2, h3, J1, k1, f1, hl1⟩⟩) ?_
  rintro _ H1 ⟨l, ns, rfl, hin, hch, hz, J1, k1, f1, h1⟩
  have nl : l ∉ [p, c] := J.fresh f1
  refine seq_by (fun σ' H' => σ' = [some (.ref p), some (.ref ba), some (.int most), some (.ref l), none] ∧ ns ≠ [] ∧ Kp [] H1 H') (fun N hN => ?_) ?_
  · refine ⟨_, rfl, small4 (Nat.le_of_ble_eq_true rfl), fun t ht => ?_⟩
    have k2 : Kp [] H1 (upd H1 t (.lst [])) := Kp.new ht _
    refine ⟨[], .list (ns.map PyData.int), .list [], Rep.lints (k2 _ _ h1 (by simp)) (by simp) (by omega), .list upd_same (by simp) (by simp) .nil, by rw [PyData.canLay0]; exact canLay_ints ns, rfl, Nat.le_trans (Nat.min_le_right _ _) (by decide), _, rfl, ite_b (fun cc => ?_) (fun cc => ?_)⟩
    · rw [eqv_ints_nil] at cc
      refine ⟨small4 (Nat.le_of_ble_eq_true rfl), fun l2 hl2 => q [] l2 _ (fun k hk => by cases hk) (.inl rfl) (by simp; omega) ((J1.keep k2).new hl2) (k1.trans (k2.trans (Kp.new hl2 _)).of) (Kp.free (k1.trans k2.of) hl2 ((J1.keep k2).fresh hl2)) upd_same⟩
    · rw [eqv_ints_nil] at cc
      exact hN _ _ ⟨rfl, (by rintro rfl; cases cc), k2⟩
  rintro _ H2 ⟨rfl, hne, k2⟩
  have J2 := J1.keep k2
  have k02 := k1.trans k2.of
  have h2 := k2 _ _ h1 (by simp)
  have B2 := B.keep k02
  have il := hin _ (lastI_mem hne)
  obtain ⟨k0, rest, rfl⟩ : ∃ k0 rest, ns = k0 :: rest := by
    cases ns with
    | nil => exact absurd rfl hne
    | cons a b => exact ⟨a, b, rfl⟩
  have i0 := hin k0 List.mem_cons_self
  obtain ⟨t1, g1, e1, ht1, _, hm1⟩ := way_at B2.r il.1 il.2
  obtain ⟨t2, g2, e2, ht2, _, hm2⟩ := way_at B2.r i0.1 i0.2
  have el : atI ((k0 :: rest).map V.int) (-1) = some (.int (lastI (k0 :: rest))) := by rw [lastI_eq hne]; exact at_lastI hne
  have pth := chain_pth hch hin
  have atz : atI ((k0 :: rest).map V.int) 0 = some (.int k0) := by unfold atI; rw [ixN_at (Int.le_refl 0) (by rw [List.length_map, List.length_cons]; omega)]; rfl
  refine seq_by (fun σ' H' => Jar H' p c ∧ Kp [p, c] H H' ∧ H' l = some (.lst ((k0 :: rest).map V.int)) ∧ (σ' = [some (.ref p), some (.ref ba), some (.int most), some (.ref l), some .non] ∨ ∃ (lb : Addr) (bs : List Int), σ' = [some (.ref p), some (.ref ba), some (.int most), some (.ref l), some (.ref lb)] ∧ H' lb = some (.lst (bs.map V.int)) ∧ Pth ws (wayAt ws (lastI (k0 :: rest))).b bs (wayAt ws k0).a ∧ bs.length ≤ 12)) (fun N hN => ?_) ?_
  · refine ⟨_, rfl, _, rfl, ba, _, _, _, rfl, rfl, SqT.of B2.b, at2 _ _ _, _, rfl, _, rfl, l, _, _, _, rfl, rfl, SqL.of h2, el, wa, _, _, _, rfl, rfl, SqT.of B2.w, e1, t1, _, _, _, rfl, rfl, SqT.of ht1, at1 _ _ _, _, rfl, ba, _, _, _, rfl, rfl, SqT.of B2.b, at2 _ _ _, _, rfl, l, _, _, _, rfl, rfl, SqL.of h2, atz, wa, _, _, _, rfl, rfl, SqT.of B2.w, e2, t2, _, _, _, rfl, rfl, SqT.of ht2, at0 _ _ _, [p, c], R, U, ws, _, _, _, rfl, B2.rep, ok, ⟨(ok.ways _ hm1).b0, (ok.ways _ hm1).b1⟩, fun H3 k3 => hN _ _ ⟨J2.keep k3, k02.trans k3.of, k3 _ _ h2 (by simp), .inl rfl⟩, fun lb bs H3 k3 _ hlb hp hz => hN _ _ ⟨J2.keep k3, k02.trans k3.of, k3 _ _ h2 (by simp), .inr ⟨lb, bs, rfl, hlb, hp, hz⟩⟩⟩
  rintro _ H3 ⟨J3, k3, h3, rfl | ⟨lb, bs, rfl, hlb, hp, hbz⟩⟩
  · refine ⟨_, rfl, rfl, _, rfl, small4 (Nat.le_of_ble_eq_true rfl), fun l2 hl2 => ?_⟩
    exact q [] l2 _ (fun k hk => by cases hk) (.inl rfl) (by simp; omega) (J3.new hl2) (k3.trans (Kp.new hl2 _)) (Kp.free k3 hl2 (J3.fresh hl2)) upd_same
  · refine ⟨_, rfl, rfl, _, rfl, _, rfl, _, rfl, l, lb, _, _, rfl, rfl, h3, hlb, by rw [List.length_map, List.length_map]; omega, fun l2 hl2 => ?_⟩
    have pp := pth.app hp
    exact q _ l2 _ pp.inW (.inr ⟨_, pp⟩) (by rw [List.length_append]; omega) (J3.new hl2) (k3.trans (Kp.new hl2 _)) (Kp.free k3 hl2 (J3.fresh hl2)) (by rw [upd_same, List.map_append])

theorem sc_law_counts : FnScope ["book", "walks", "found", "many", "walk", "k"] ["book", "walks"] (defScope s_law_counts) := ⟨rfl, rfl, rfl, by decide +kernel, rfl, by decide +kernel, by decide +kernel⟩
theorem ok_law_counts (T : Txt mg) (D : Def K mg "_law_counts" s_law_counts ["book", "walks"]) : Cal P w K mg base "_law_counts" 1 ["book", "walks"] spCounts := by
  refine D.cal fun f fd F => F.ok sc_law_counts (fun vs H Q E h => ?_) (fun cdv A outer s H vs Q E hr h => ?_)
  · obtain ⟨ex, R, U, ws, bv, wl, es, rfl, _⟩ := h
    rfl
  obtain ⟨ex, R, U, ws, bv, wl, es, rfl, rb, ok, hwl, hes, q⟩ := h
  refine ⟨_, (@pss_cons _ _ _ _ _ (ps_set (i := 2) sc_law_counts.nd rfl (Or.inl rfl) (pe_op op_rep (@PEs.out _ _ _ (pes_lst (pas_const pes_int pas_nil))) (pe_callB call_len_seq rfl T.b_len PySem.boot_len (pa_sub (pe_ix ix_tup (pv 0) pe_int (fun _ _ => rfl)) pa_nil))))
      (@pss_cons _ _ _ _ _ (ps_for PassesOwn.never rfl (pi_list (pv 1)) (pg_pair (K' := K) (i := 3) (j := 4) rfl sc_law_counts.nd ⟨rfl, (Or.inl rfl), (Or.inl rfl)⟩ ⟨rfl, (Or.inl rfl), (Or.inl rfl)⟩ rfl)
      (@pss_one _ _ _ (ps_for PassesOwn.never rfl (pi_list (pv 4)) (pg_name (i := 5) sc_law_counts.nd rfl (Or.inl rfl) (Or.inl rfl))
      (@pss_one _ _ _ (ps_asg (pe_op op_add (pe_ix ix_list (pv 2) (pv 5) (fun _ _ => rfl)) (pv 3)) (pg_sub (pv 2) (pv 5) set_list (fun v => assign_sub_name _ _ _ _ _ v)))))))
      (@pss_one _ _ _ (@ps_ret _ _ _ _ (pe_callTy call_tuple_of rfl T.b_tuple boot_tuple (pa_name (pv 2) pa_nil)))))), ?_⟩
  have hs : sizeLine = 16777216 := sizeLine_eq
  have wz := ok.len
  obtain ⟨ba, wa, vs, B⟩ := rep_book rb
  have eb := B.e
  subst eb
  have vl := B.len
  refine seq_by (fun σ' H' => ∃ (l : Addr) (xs : List Int), σ' = [some (.ref ba), some (.ref wl), some (.ref l), none, none, none] ∧ Kp [] H H' ∧ H l = none ∧ H' l = some (.lst (xs.map V.int)) ∧ xs.length = ws.length) (fun N hN => ?_) ?_
  · refine ⟨small4 (Nat.le_of_ble_eq_true rfl), fun t ht => ?_⟩
    have k1 : Kp [] H (upd H t (.lst [.int 0])) := Kp.new ht _
    refine ⟨_, rfl, ba, _, _, _, rfl, rfl, SqT.of (k1 _ _ B.b (by simp)), at2 _ _ _, wa, _, rfl, .inr (SqT.of (k1 _ _ B.w (by simp))), t, _, _, rfl, rfl, upd_same, by omega, by omega, by simp; omega, fun l hl => hN _ _ ⟨l, _, rfl, k1.trans (Kp.new hl _), Kp.free k1 hl (by simp), by rw [upd_same, rep0], by rw [List.length_replicate]; omega⟩⟩
  rintro _ H1 ⟨l, xs0, rfl, k1, fl, h1, z1⟩
  refine seq_by (fun σ' H' => ∃ (xs : List Int) (o1 o2 o3 : Option V), σ' = [some (.ref ba), some (.ref wl), some (.ref l), o1, o2, o3] ∧ Kp [] H H' ∧ H' l = some (.lst (xs.map V.int)) ∧ xs.length = ws.length) (fun N hN => ?_) ?_
  · refine ⟨_, rfl, wl, rfl, ⟨_, SqL.of (k1 _ _ hwl (by simp))⟩, ?_⟩
    refine for_list (K := K) (xs := es.map fun e => V.ref e.1) (fun j σ H' => ∃ (xs : List Int) (o1 o2 o3 : Option V), σ = [some (.ref ba), some (.ref wl), some (.ref l), o1, o2, o3] ∧ Kp [] H H' ∧ H' l = some (.lst (xs.map V.int)) ∧ xs.length = ws.length)
      ⟨xs0, _, _, _, rfl, k1, h1, z1⟩ (fun j σ H' _ ⟨_, _, _, _, _, k', _⟩ => SqL.of (k' _ _ hwl (by simp))) ?_ (fun σ H' h => hN _ _ h)
    rintro j x σ H2 hx ⟨xs, o1, o2, o3, rfl, k2, h2, z2⟩
    rw [List.getElem?_map] at hx
    cases hn : es[j]? with
    | none => rw [hn] at hx; cases hx
    | some e =>
      rw [hn] at hx
      cases hx
      obtain ⟨e1, e2, e3⟩ := hes e (List.mem_of_getElem? hn)
      refine ⟨e.1, _, rfl, SqT.of (k2 _ _ e1 (by simp)), rfl, _, _, rfl, _, _, rfl, rfl, ?_⟩
      refine ⟨_, rfl, e.2.2.1, rfl, ⟨_, SqL.of (k2 _ _ e2 (by simp))⟩, ?_⟩
      refine for_list (K := K) (xs := e.2.2.2.map V.int) (fun j σ H' => ∃ (xs : List Int) (o3 : Option V), σ = [some (.ref ba), some (.ref wl), some (.ref l), some (.int e.2.1), some (.ref e.2.2.1), o3] ∧ Kp [] H H' ∧ H' l = some (.lst (xs.map V.int)) ∧ xs.length = ws.length)
        ⟨xs, _, rfl, k2, h2, z2⟩ (fun j σ H' _ ⟨_, _, _, k', _⟩ => SqL.of (k' _ _ e2 (by simp))) ?_ (fun σ H' ⟨xs, o3, h1, h2, h3, h4⟩ => ⟨xs, _, _, _, h1, h2, h3, h4⟩)
      rintro i x σ H3 hx ⟨xs, o3, rfl, k3, h3, z3⟩
      rw [List.getElem?_map] at hx
      cases hn : e.2.2.2[i]? with
      | none => rw [hn] at hx; cases hx
      | some k =>
        rw [hn] at hx
        cases hx
        have ik := e3 k (List.mem_of_getElem? hn)
        obtain ⟨m, hm, em⟩ := at_map xs ik.1 (by omega)
        refine ⟨_, rfl, _, rfl, l, _, _, _, rfl, rfl, SqL.of h3, em, _, rfl, _, _, rfl, rfl, _, rfl, _, rfl, l, _, _, k.toNat, rfl, rfl, h3, ixN_at ik.1 (by rw [List.length_map]; omega), xs.set k.toNat (m + e.2.1), _, rfl, ?_, ?_, by rw [List.length_set]; exact z3⟩
        · exact fun b o e n => by rw [upd_ne (ne_of_none e fl)]; exact k3 _ _ e n
        · rw [upd_same, List.map_set]
  rintro _ H2 ⟨xs, o1, o2, o3, rfl, k2, h2, z2⟩
  exact ⟨_, rfl, l, _, rfl, .inl ⟨SqL.of h2, fun t ht => q t xs _ (k2.trans (Kp.new ht _)) (Kp.free k2 ht (by simp)) upd_same z2⟩⟩

theorem sc_law_bent : FnScope ["jar", "counts", "found", "at", "other", "way", "one"] ["jar", "counts"] (defScope s_law_bent) := ⟨rfl, rfl, rfl, by decide +kernel, rfl, by decide +kernel, by decide +kernel⟩
theorem ok_law_bent (T : Txt mg) (D : Def K mg "_law_bent" s_law_bent ["jar", "counts"]) (c__law_pick : Cal P w K mg base "_law_pick" 2 ["jar", "many"] spPick) : Cal P w K mg base "_law_bent" 3 ["jar", "counts"] spBentC := by
  refine D.cal fun f fd F => F.ok sc_law_bent (fun vs H Q E h => ?_) (fun cdv A outer s H vs Q E hr h => ?_)
  · obtain ⟨p, c, ca, cs, rfl, _⟩ := h
    rfl
  obtain ⟨p, c, ca, cs, rfl, J, nca, hca, hz, q⟩ := h
  refine ⟨_, (@pss_cons _ _ _ _ _ (ps_set (i := 2) sc_law_bent.nd rfl (Or.inl rfl) (pe_callTy call_list_of rfl T.b_list boot_list (pa_name (pv 1) pa_nil)))
      (@pss_cons _ _ _ _ _ (ps_if (pt_cmpR (op_eqD hr.units) (pv 2) (@PEs.out _ _ _ (pes_lst pas_nil)) (nomark _)) (@pss_one _ _ _ (@ps_ret _ _ _ _ (@PEs.out _ _ _ (pes_tup pas_nil)))) pss_nil)
      (@pss_cons _ _ _ _ _ (ps_set (i := 3) sc_law_bent.nd rfl (Or.inr rfl) (pe_c c__law_pick (hr.mono (by decide)) rfl (pa_name (pv 0) (pa_call (pe_callB call_len_seq rfl T.b_len PySem.boot_len (pa_name (pv 2) pa_nil)) pa_nil))))
      (@pss_cons _ _ _ _ _ (ps_set (i := 4) sc_law_bent.nd rfl (Or.inl rfl) (pe_c c__law_pick (hr.mono (by decide)) rfl (pa_name (pv 0) (pa_call (pe_callB call_len_seq rfl T.b_len PySem.boot_len (pa_name (pv 2) pa_nil)) pa_nil))))
      (@pss_cons _ _ _ _ _ (ps_set (i := 5) sc_law_bent.nd rfl (Or.inl rfl) (pe_c c__law_pick (hr.mono (by decide)) rfl (pa_name (pv 0) (pa_const pe_int pa_nil))))
      (@pss_cons _ _ _ _ _ (ps_if (pt_cmpR op_lt (pv 5) pe_int (nomark _)) (@pss_one _ _ _ (ps_asg (pe_op op_add (pe_ix ix_list (pv 2) (pv 3) (fun _ _ => rfl)) (pe_ix ix_list (@PEs.out _ _ _ (pes_lst (pas_const pes_int (pas_unary (pes_of (pe_un un_neg pe_int)) pas_nil)))) (pv 5) (fun _ _ => rfl))) (pg_sub (pv 2) (pv 3) set_list (fun v => assign_sub_name _ _ _ _ _ v)))) (@pss_one _ _ _ (ps_if (pt_cmpR op_eq (pv 5) pe_int (nomark _)) (@pss_cons _ _ _ _ _ (ps_set (i := 6) sc_law_bent.nd rfl (Or.inl rfl) (pe_ix ix_list (pv 2) (pv 3) (fun _ _ => rfl)))
      (@pss_cons _ _ _ _ _ (ps_asg (pe_ix ix_list (pv 2) (pv 4) (fun _ _ => rfl)) (pg_sub (pv 2) (pv 3) set_list (fun v => assign_sub_name _ _ _ _ _ v)))
      (@pss_one _ _ _ (ps_asg (pv 6) (pg_sub (pv 2) (pv 4) set_list (fun v => assign_sub_name _ _ _ _ _ v)))))) (@pss_one _ _ _ (ps_if (pt_cmpR op_eq (pv 5) pe_int (nomark _)) (@pss_one _ _ _ (ps_setcomp (i := 2) (sc := (defScope s_law_bent)) (N := ["jar", "counts", "found", "at", "other", "way", "one"]) (N' := ["many"]) (k := 1) (idx := []) rfl sc_law_bent.nd rfl rfl (by exact ⟨rfl, by decide +kernel, by decide +kernel, by decide +kernel, by decide +kernel, by decide +kernel, rfl, rfl⟩) rfl rfl (pi_list (pv 2)) (fun _ _ _ _ => (pg_name (i := 0) (show (["many"] : List Str).Nodup by decide +kernel) rfl (Or.inl rfl) (Or.inr rfl))) (fun _ _ _ _ => pts_nil) (fun _ _ _ _ => (pe_op op_sub pe_int (pv 0))))) (@pss_one _ _ _ (ps_if (pt_cmpR op_eq (pv 5) pe_int (nomark _)) (@pss_one _ _ _ (ps_setcomp (i := 2) (sc := (defScope s_law_bent)) (N := ["jar", "counts", "found", "at", "other", "way", "one"]) (N' := ["k", "at"]) (k := 1) (idx := [3]) rfl sc_law_bent.nd rfl rfl (by exact ⟨rfl, by decide +kernel, by decide +kernel, by decide +kernel, by decide +kernel, by decide +kernel, rfl, rfl⟩) rfl rfl (pi_range1 rfl T.b_range (pa_call (pe_callB call_len_seq rfl T.b_len PySem.boot_len (pa_name (pv 2) pa_nil)) pa_nil)) (fun _ _ _ _ => (pg_name (i := 0) (show (["k", "at"] : List Str).Nodup by decide +kernel) rfl (Or.inl rfl) (Or.inr rfl))) (fun _ _ _ _ => pts_nil) (fun _ _ _ _ => (pe_callTy call_int1 rfl T.b_int boot_int (pa_cmp (pe_cmpR op_eq (pv 0) (pv 1) (nomark _)) pa_nil))))) (@pss_one _ _ _ (ps_if (pt_cmpR op_eq (pv 5) pe_int (nomark _)) (@pss_one _ _ _ (ps_setcomp (i := 2) (sc := (defScope s_law_bent)) (N := ["jar", "counts", "found", "at", "other", "way", "one"]) (N' := ["many"]) (k := 1) (idx := []) rfl sc_law_bent.nd rfl rfl (by exact ⟨rfl, by decide +kernel, by decide +kernel, by decide +kernel, by decide +kernel, by decide +kernel, rfl, rfl⟩) rfl rfl (pi_list (pv 2)) (fun _ _ _ _ => (pg_name (i := 0) (show (["many"] : List Str).Nodup by decide +kernel) rfl (Or.inl rfl) (Or.inr rfl))) (fun _ _ _ _ => pts_nil) (fun _ _ _ _ => (pe_op op_sub (pv 0) pe_int)))) (@pss_one _ _ _ (ps_if (pt_cmpR op_eq (pv 5) pe_int (nomark _)) (@pss_one _ _ _ (ps_setcomp (i := 2) (sc := (defScope s_law_bent)) (N := ["jar", "counts", "found", "at", "other", "way", "one"]) (N' := ["many", "jar"]) (k := 1) (idx := [0]) rfl sc_law_bent.nd rfl rfl (by exact ⟨rfl, by decide +kernel, by decide +kernel, by decide +kernel, by decide +kernel, by decide +kernel, rfl, rfl⟩) rfl rfl (pi_list (pv 2)) (fun _ _ _ _ => (pg_name (i := 0) (show (["many", "jar"] : List Str).Nodup by decide +kernel) rfl (Or.inl rfl) (Or.inr rfl))) (fun _ _ _ _ => pts_nil) (fun _ _ _ _ => (pe_c c__law_pick (hr.mono (by decide)) rfl (pa_name (pv 1) (pa_const pe_int pa_nil)))))) pss_nil)))))))))))
      (@pss_one _ _ _ (@ps_ret _ _ _ _ (pe_callTy call_tuple_of rfl T.b_tuple boot_tuple (pa_name (pv 2) pa_nil)))))))))), ?_⟩
  have hs : sizeLine = 16777216 := sizeLine_eq
  refine seq_by (fun σ' H' => ∃ lf, σ' = [some (.ref p), some (.ref ca), some (.ref lf), none, none, none, none] ∧ Kp [] H H' ∧ H lf = none ∧ H' lf = some (.lst (cs.map V.int))) (fun N hN => ⟨_, rfl, ca, _, rfl, .inr (SqT.of hca), fun l hl => hN _ _ ⟨l, rfl, Kp.new hl _, hl, upd_same⟩⟩) ?_
  rintro _ H1 ⟨lf, rfl, k1, fl, h1⟩
  refine seq_by (fun σ' H' => σ' = [some (.ref p), some (.ref ca), some (.ref lf), none, none, none, none] ∧ Kp [] H1 H' ∧ cs ≠ []) (fun N hN => ?_) ?_
  · refine ⟨_, rfl, small4 (Nat.le_of_ble_eq_true rfl), fun t ht => ?_⟩
    have k2 : Kp [] H1 (upd H1 t (.lst [])) := Kp.new ht _
    refine ⟨[], .list (cs.map PyData.int), .list [], Rep.lints (k2 _ _ h1 (by simp)) (by simp) (by omega), .list upd_same (by simp) (by simp) .nil, by rw [PyData.canLay0]; exact canLay_ints cs, rfl, Nat.le_trans (Nat.min_le_right _ _) (by decide), _, rfl, ite_b (fun cc => ?_) (fun cc => ?_)⟩
    · rw [eqv_ints_nil] at cc
      have e : cs = [] := by cases cs with
        | nil => rfl
        | cons _ _ => cases cc
      have k02 := k1.trans k2
      exact ⟨small4 (Nat.le_of_ble_eq_true rfl), fun l2 hl2 => q l2 [] _ ((J.keep k02).new hl2) (k02.trans (Kp.new hl2 _)).of (Kp.free k02 hl2 (by simp)) upd_same (by rw [e])⟩
    · rw [eqv_ints_nil] at cc
      exact hN _ _ ⟨rfl, k2, by rintro rfl; cases cc⟩
  rintro _ H2 ⟨rfl, k2, hne⟩
  have hpos : 0 < cs.length := List.length_pos_iff.mpr hne
  have k02 := k1.trans k2
  have J2 := J.keep k02
  have nf : lf ∉ [p, c] := J.fresh fl
  refine seq_by (fun σ' H' => ∃ (at' : Int), σ' = [some (.ref p), some (.ref ca), some (.ref lf), some (.int at'), none, none, none] ∧ Jar H' p c ∧ Kp [p, c] H2 H' ∧ 0 ≤ at' ∧ at' < cs.length) (fun N hN => ⟨_, rfl, _, rfl, lf, _, rfl, .inl (SqL.of (k2 _ _ h1 (by simp))), p, c, _, rfl, J2, by rw [List.length_map]; omega, small9000 (by rw [List.length_map]; omega), fun r H3 r0 r1 J3 k3 => hN _ _ ⟨r, rfl, J3, k3, r0, by rw [List.length_map] at r1; exact r1⟩⟩) ?_
  rintro _ H3 ⟨at', rfl, J3, k3, a0, a1⟩
  have h3 := k3 _ _ (k2 _ _ h1 (by simp)) nf
  refine seq_by (fun σ' H' => ∃ (ot : Int), σ' = [some (.ref p), some (.ref ca), some (.ref lf), some (.int at'), some (.int ot), none, none] ∧ Jar H' p c ∧ Kp [p, c] H3 H' ∧ 0 ≤ ot ∧ ot < cs.length) (fun N hN => ⟨_, rfl, _, rfl, lf, _, rfl, .inl (SqL.of h3), p, c, _, rfl, J3, by rw [List.length_map]; omega, small9000 (by rw [List.length_map]; omega), fun r H3 r0 r1 J3 k3 => hN _ _ ⟨r, rfl, J3, k3, r0, by rw [List.length_map] at r1; exact r1⟩⟩) ?_
  rintro _ H4 ⟨ot, rfl, J4, k4, b0, b1⟩
  have h4 := k4 _ _ h3 nf
  refine seq_by (fun σ' H' => ∃ (way : Int), σ' = [some (.ref p), some (.ref ca), some (.ref lf), some (.int at'), some (.int ot), some (.int way), none] ∧ Jar H' p c ∧ Kp [p, c] H4 H' ∧ 0 ≤ way ∧ way < 8) (fun N hN => ⟨_, rfl, p, c, _, rfl, J4, by omega, small9000 (by omega), fun r H3 r0 r1 J3 k3 => hN _ _ ⟨r, rfl, J3, k3, r0, r1⟩⟩) ?_
  rintro _ H5 ⟨way, rfl, J5, k5, w0, w1⟩
  have h5 := k5 _ _ h4 nf
  have k05 : Kp [p, c] H H5 := ((k02.of.trans k3).trans k4).trans k5
  refine seq_by (fun σ' H' => ∃ (l : Addr) (ds : List Int) (o : Option V), σ' = [some (.ref p), some (.ref ca), some (.ref l), some (.int at'), some (.int ot), some (.int way), o] ∧ Jar H' p c ∧ Kp [p, c] H H' ∧ H l = none ∧ H' l = some (.lst (ds.map V.int)) ∧ ds.length = cs.length) (fun N hN => ?_) ?_
  · have setk : ∀ (H' : Hp) (o : HO), Kp [p, c] H H' → Kp [p, c] H (upd H' lf o) := fun H' o k b o' e n => by rw [upd_ne (ne_of_none e fl)]; exact k _ _ e n
    refine ⟨_, rfl, _, _, rfl, rfl, _, rfl, ite_b (fun cc => ?_) (fun cc => ?_)⟩
    · have hw : way < 2 := by simpa using cc
      obtain ⟨m, hm, em⟩ := at_map cs a0 a1
      refine ⟨_, rfl, _, rfl, lf, _, _, _, rfl, rfl, SqL.of h5, em, _, rfl, small4 (Nat.le_of_ble_eq_true rfl), fun t ht => ?_⟩
      obtain ⟨d, hd, ed⟩ := at_map [1, -1] w0 (by simpa using hw)
      have k6 : Kp [] H5 (upd H5 t (.lst ([1, -1].map V.int))) := Kp.new ht _
      refine ⟨_, rfl, t, _, _, _, rfl, rfl, SqL.of upd_same, ed, _, _, rfl, rfl, _, rfl, _, rfl, lf, _, _, at'.toNat, rfl, rfl, k6 _ _ h5 (by simp), ixN_at a0 (by rw [List.length_map]; omega), hN _ _ ⟨lf, cs.set at'.toNat (m + d), _, rfl, (J5.keep k6).upd nf, setk _ _ (k05.trans k6.of), fl, by rw [upd_same, List.map_set], by rw [List.length_set]⟩⟩
    refine ⟨_, rfl, rfl, _, rfl, ite_b (fun cc => ?_) (fun cc => ?_)⟩
    · obtain ⟨m, hm, em⟩ := at_map cs a0 a1
      obtain ⟨m2, hm2, em2⟩ := at_map cs b0 b1
      refine seq_by (fun σ' H' => σ' = [some (.ref p), some (.ref ca), some (.ref lf), some (.int at'), some (.int ot), some (.int way), some (.int m)] ∧ H' = H5) (fun N' hN' => ⟨_, rfl, _, rfl, lf, _, _, _, rfl, rfl, SqL.of h5, em, hN' _ _ ⟨rfl, rfl⟩⟩) ?_
      rintro _ H5 ⟨rfl, rfl⟩
      refine seq_by (fun σ' H' => σ' = [some (.ref p), some (.ref ca), some (.ref lf), some (.int at'), some (.int ot), some (.int way), some (.int m)] ∧ H' = upd H5 lf (.lst ((cs.set at'.toNat m2).map V.int))) (fun N' hN' => ⟨_, rfl, _, rfl, lf, _, _, _, rfl, rfl, SqL.of h5, em2, _, rfl, _, rfl, lf, _, _, at'.toNat, rfl, rfl, h5, ixN_at a0 (by rw [List.length_map]; omega), hN' _ _ ⟨rfl, by rw [List.map_set]⟩⟩) ?_
      rintro _ _ ⟨rfl, rfl⟩
      exact ⟨_, rfl, _, rfl, _, rfl, lf, _, _, ot.toNat, rfl, rfl, upd_same, ixN_at b0 (by rw [List.length_map, List.length_set]; omega), hN _ _ ⟨lf, (cs.set at'.toNat m2).set ot.toNat m, _, rfl, (J5.upd nf).upd nf, setk _ _ (setk _ _ k05), fl, by rw [upd_same, List.map_set, List.map_set, List.map_set], by rw [List.length_set, List.length_set]⟩⟩
    refine ⟨_, rfl, rfl, _, rfl, ite_b (fun cc => ?_) (fun cc => ?_)⟩
    · refine ⟨_, rfl, lf, rfl, ⟨_, SqL.of h5⟩, fun l hl => ?_⟩
      refine comp1_list (K := K) (fun i => .int (0 - cs.getD i 0)) (SqL.of h5) (by rw [List.length_map]; omega) hl ?_ ?_
      · intro i x H6 M hx k6 hM
        rw [List.getElem?_map] at hx
        cases hn : cs[i]? with
        | none => rw [hn] at hx; cases hx
        | some m =>
          rw [hn] at hx
          cases hx
          have := hM H6 .refl
          rw [List.getD_eq_getElem?_getD, hn] at this
          exact ⟨_, rfl, _, _, rfl, rfl, this⟩
      · intro H6 k6 h6
        exact hN _ _ ⟨l, (List.range cs.length).map fun i => 0 - cs.getD i 0, _, rfl, J5.keep k6, k05.trans k6.of, Kp.free k05 hl (J5.fresh hl), by rw [h6, List.length_map, List.map_map]; rfl, by rw [List.length_map, List.length_range]⟩
    refine ⟨_, rfl, rfl, _, rfl, ite_b (fun cc => ?_) (fun cc => ?_)⟩
    · refine ⟨_, rfl, lf, _, rfl, .inl (SqL.of h5), _, rfl, by omega, by rw [List.length_map]; omega, fun l hl => ?_⟩
      refine comp1_rng (n := ((cs.map V.int).length : Int).toNat) (fun i => .int (if decide (0 + (i : Int) = at') then 1 else 0)) (by rw [List.length_map]; omega) hl ?_ ?_
      · intro i H6 M hi k6 hM
        have := hM H6 .refl
        have e : decide (V.int (0 + (i : Int)) = V.int at') = decide (0 + (i : Int) = at') := by simp
        rw [← e] at this
        exact ⟨_, rfl, _, rfl, rfl, .inr ⟨_, rfl, this⟩⟩
      · intro H6 k6 h6
        exact hN _ _ ⟨l, (List.range ((cs.map V.int).length : Int).toNat).map fun (i : Nat) => (if decide (0 + (i : Int) = at') then (1 : Int) else 0), _, rfl, J5.keep k6, k05.trans k6.of, Kp.free k05 hl (J5.fresh hl), by rw [h6, List.map_map]; rfl, by rw [List.length_map, List.length_range, List.length_map]; omega⟩
    refine ⟨_, rfl, rfl, _, rfl, ite_b (fun cc => ?_) (fun cc => ?_)⟩
    · refine ⟨_, rfl, lf, rfl, ⟨_, SqL.of h5⟩, fun l hl => ?_⟩
      refine comp1_list (K := K) (fun i => .int (cs.getD i 0 - 1)) (SqL.of h5) (by rw [List.length_map]; omega) hl ?_ ?_
      · intro i x H6 M hx k6 hM
        rw [List.getElem?_map] at hx
        cases hn : cs[i]? with
        | none => rw [hn] at hx; cases hx
        | some m =>
          rw [hn] at hx
          cases hx
          have := hM H6 .refl
          rw [List.getD_eq_getElem?_getD, hn] at this
          exact ⟨_, rfl, _, _, rfl, rfl, this⟩
      · intro H6 k6 h6
        exact hN _ _ ⟨l, (List.range cs.length).map fun i => cs.getD i 0 - 1, _, rfl, J5.keep k6, k05.trans k6.of, Kp.free k05 hl (J5.fresh hl), by rw [h6, List.length_map, List.map_map]; rfl, by rw [List.length_map, List.length_range]⟩
    refine ⟨_, rfl, rfl, _, rfl, ite_b (fun cc => ?_) (fun cc => ?_)⟩
    · refine ⟨_, rfl, lf, rfl, ⟨_, SqL.of h5⟩, fun l hl => ?_⟩
      have nl : l ∉ [p, c] := J5.fresh hl
      refine comp1_listP (K := K) (xs := cs.map V.int) (fun j zs H' => Jar H' p c ∧ Kp [p, c] H5 H' ∧ ∃ ns : List Int, zs = ns.map V.int ∧ ns.length = j) ⟨J5.new hl, Kp.new hl _, [], rfl, rfl⟩ upd_same (fun i ys H' ⟨_, k', _⟩ => SqL.of (k' _ _ h5 nf)) ?_ ?_
      · rintro i x H6 zs hi hx ⟨J6, k6, ns, rfl, nlen⟩ hl6
        have hi' := hi
        rw [List.length_map] at hi'
        refine ⟨_, rfl, p, c, _, rfl, J6, by omega, small9000 (by omega), fun r H7 r0 r1 J7 k7 => CNext.intro hi (k7 _ _ hl6 nl) (by rw [List.length_map]; omega) ⟨J7.upd nl, Kp.late (k6.trans k7) hl _, ns ++ [r], by simp, by simp [nlen]⟩⟩
      · rintro H6 zs ⟨J6, k6, ns, rfl, nlen⟩ hl6
        exact hN _ _ ⟨l, ns, _, rfl, J6, k05.trans k6, Kp.free k05 hl nl, hl6, by rw [nlen, List.length_map]⟩
    exact hN _ _ ⟨lf, cs, _, rfl, J5, k05, fl, h5, rfl⟩
  rintro _ H6 ⟨l, ds, o, rfl, J6, k6, f6, h6, z6⟩
  refine ⟨_, rfl, l, _, rfl, .inl ⟨SqL.of h6, fun t ht => q t ds _ (J6.new ht) (k6.trans (Kp.new ht _)) (Kp.free k6 ht (J6.fresh ht)) upd_same z6⟩⟩

theorem sc_law : FnScope ["script", "jar", "book", "some", "turn", "walks", "again", "often", "counts", "found"] ["script"] (defScope s_law) := ⟨rfl, rfl, rfl, by decide +kernel, rfl, by decide +kernel, by decide +kernel⟩
theorem ok_law {f : Addr} {fd : FuncData} (T : Txt mg) (F : Fun K "law" "law" s_law f fd) (c__law_jar : Cal P w K mg base "_law_jar" 2 ["script"] (spJar K)) (c__law_pick : Cal P w K mg base "_law_pick" 2 ["jar", "many"] spPick) (c__law_book : Cal P w K mg base "_law_book" 4 ["jar", "most_rooms", "most_ways"] spBookD)
    (c__law_closed : Cal P w K mg base "_law_closed" 4 ["jar", "book", "most"] spClosed) (c__law_counts : Cal P w K mg base "_law_counts" 1 ["book", "walks"] spCounts) (c__law_bent : Cal P w K mg base "_law_bent" 3 ["jar", "counts"] spBentC) (c_is_round : Cal P w K mg base "is_round" 3 ["book", "counts"] spRound) (c__law_is_round : Cal P w K mg base "_law_is_round" 1 ["book", "counts"] spRound) : FnOk P w K mg base CX0 6 f fd ["script"] (spLaw K) := by
  refine F.ok sc_law (fun vs H Q E h => ?_) (fun cdv A outer s H vs Q E hr h => ?_)
  · obtain ⟨a, ns, rfl, _⟩ := h
    rfl
  obtain ⟨a, ns, rfl, hS, hlen, q⟩ := h
  have hs : sizeLine = 16777216 := sizeLine_eq
  refine ⟨_, (@pss_cons _ _ _ _ _ (ps_set (i := 1) sc_law.nd rfl (Or.inl rfl) (pe_c c__law_jar (hr.mono (by decide)) rfl (pa_name (pv 0) pa_nil)))
      (@pss_cons _ _ _ _ _ (ps_set (i := 2) sc_law.nd rfl (Or.inl rfl) (pe_c c__law_book (hr.mono (by decide)) rfl (pa_name (pv 1) (pa_sub (pe_ix ix_list (@PEs.out _ _ _ (pes_lst (pas_const pes_int (pas_const pes_int (pas_const pes_int pas_nil))))) (pe_c c__law_pick (hr.mono (by decide)) rfl (pa_name (pv 1) (pa_const pe_int pa_nil))) (fun _ _ => rfl)) (pa_sub (pe_ix ix_list (@PEs.out _ _ _ (pes_lst (pas_const pes_int (pas_const pes_int pas_nil)))) (pe_c c__law_pick (hr.mono (by decide)) rfl (pa_name (pv 1) (pa_const pe_int pa_nil))) (fun _ _ => rfl)) pa_nil)))))
      (@pss_cons _ _ _ _ _ (@ps_setD _ _ 3 _ _ _ _ sc_law.nd rfl (Or.inl rfl) (pes_lst (pas_binop (pes_of (pe_op op_repT (@PEs.out _ _ _ (pes_tup (pas_const pes_int pas_nil))) (pe_callB call_len_seq rfl T.b_len PySem.boot_len (pa_sub (pe_ix ix_tup (pv 2) pe_int (fun _ _ => rfl)) pa_nil)))) (pas_binop (pes_of (pe_op op_repT (@PEs.out _ _ _ (pes_tup (pas_const pes_int pas_nil))) (pe_callB call_len_seq rfl T.b_len PySem.boot_len (pa_sub (pe_ix ix_tup (pv 2) pe_int (fun _ _ => rfl)) pa_nil)))) pas_nil))) rfl (Or.inl rfl))
      (@pss_cons _ _ _ _ _ (ps_for PassesOwn.never rfl (pi_range1 rfl T.b_range (pa_const pe_int pa_nil)) (pg_name (i := 4) sc_law.nd rfl (Or.inl rfl) (Or.inl rfl))
      (@pss_cons _ _ _ _ _ (@ps_setD _ _ 5 _ _ _ _ sc_law.nd rfl (Or.inl rfl) (pes_lst pas_nil) rfl (Or.inl rfl))
      (@pss_cons _ _ _ _ _ (ps_for PassesOwn.never rfl (pi_range1 rfl T.b_range (pa_binop (pe_op op_add pe_int (pe_c c__law_pick (hr.mono (by decide)) rfl (pa_name (pv 1) (pa_const pe_int pa_nil)))) pa_nil)) (pg_name (i := 6) sc_law.nd rfl (Or.inl rfl) (Or.inl rfl))
      (@pss_cons _ _ _ _ _ (ps_set (i := 7) sc_law.nd rfl (Or.inl rfl) (pe_ix ix_list (@PEs.out _ _ _ (pes_lst (pas_const pes_int (pas_const pes_int (pas_binop (pes_of (pe_op op_mulB (pe_op op_pow pe_int pe_int) (pe_op op_pow pe_int pe_int))) (pas_const pes_int pas_nil)))))) (pe_c c__law_pick (hr.mono (by decide)) rfl (pa_name (pv 1) (pa_const pe_int pa_nil))) (fun _ _ => rfl)))
      (@pss_one _ _ _ (ps_expr (pe_bm PySem.F.plainAttrs_list PySem.F.slot_list_append PySem.F.type_list_append mt_append (pv 5) (pa_tuple (@PEs.out _ _ _ (pes_tup (pas_name (pes_of (pv 7)) (pas_call (pes_of (pe_c c__law_closed (hr.mono (by decide)) rfl (pa_name (pv 1) (pa_name (pv 2) (pa_const pe_int pa_nil))))) pas_nil)))) pa_nil))))))
      (@pss_cons _ _ _ _ _ (ps_expr (pe_bm PySem.F.plainAttrs_list PySem.F.slot_list_append PySem.F.type_list_append mt_append (pv 3) (pa_call (pe_c c__law_counts (hr.mono (by decide)) rfl (pa_name (pv 2) (pa_name (pv 5) pa_nil))) pa_nil)))
      (@pss_one _ _ _ (ps_set (i := 3) sc_law.nd rfl (Or.inl rfl) (pe_op op_cat (pv 3) (@PEs.out _ _ _ (pes_lst (pas_call (pes_of (pe_c c__law_bent (hr.mono (by decide)) rfl (pa_name (pv 1) (pa_sub (pe_ix ix_list (pv 3) (pe_un un_neg pe_int) (fun _ _ => rfl)) pa_nil)))) (pas_call (pes_of (pe_c c__law_bent (hr.mono (by decide)) rfl (pa_name (pv 1) (pa_sub (pe_ix ix_list (pv 3) (pe_un un_neg pe_int) (fun _ _ => rfl)) pa_nil)))) pas_nil)))))))))))
      (@pss_cons _ _ _ _ _ (ps_for PassesOwn.never rfl (pi_list (pv 3)) (pg_name (i := 8) sc_law.nd rfl (Or.inl rfl) (Or.inl rfl))
      (@pss_cons _ _ _ _ _ (ps_set (i := 9) sc_law.nd rfl (Or.inl rfl) (pe_c c_is_round (hr.mono (by decide)) rfl (pa_name (pv 2) (pa_name (pv 8) pa_nil))))
      (@pss_one _ _ _ (ps_if (PW.pt (pw_or (pt_not (pt_val (pe_callB call_isD rfl T.b_isinstance boot_isinstance (pa_name (pv 9) (pa_name (pe_bltn rfl T.b_bool boot_bool (v := .ty "bool") rfl) pa_nil))))) (pw_or1 (pt_cmpR op_ne (pv 9) (pe_c c__law_is_round (hr.mono (by decide)) rfl (pa_name (pv 2) (pa_name (pv 8) pa_nil))) (nomark _))))) (@pss_one _ _ _ (@ps_ret _ _ _ _ pe_bl)) pss_nil))))
      (@pss_one _ _ _ (@ps_ret _ _ _ _ pe_bl))))))), ?_⟩
  refine seq_by (fun σ' H' => ∃ p c, σ' = [some (.ref a), some (.ref p), none, none, none, none, none, none, none, none] ∧ Jar H' p c) (fun N hN => ?_) ?_
  · exact ⟨_, rfl, a, ns, rfl, hS, hlen, fun p c H' _ _ _ J => hN _ _ ⟨p, c, rfl, J⟩⟩
  rintro _ H1 ⟨p, c, rfl, J1⟩
  clear hS hlen
  refine seq_by (fun σ' H' => ∃ R U ws bv, σ' = [some (.ref a), some (.ref p), some bv, none, none, none, none, none, none, none] ∧ Jar H' p c ∧ BookOk R U ws ∧ Rep [p, c] H' (bookPD R U ws) bv) (fun N hN => ?_) ?_
  · refine ⟨_, rfl, small4 (Nat.le_of_ble_eq_true rfl), fun l hl => ⟨_, rfl, p, c, 3, rfl, J1.new hl, by decide, by decide +kernel, fun r H2 r0 r1 J2 k2 => ?_⟩⟩
    obtain ⟨n, hn, hb⟩ := at_P (P := fun n => 1 ≤ n ∧ n ≤ 12) [1, 3, 12] (by simp) r0 r1
    refine ⟨l, _, _, _, rfl, rfl, SqL.of (k2 _ _ upd_same (J1.fresh hl)), hn, small4 (Nat.le_of_ble_eq_true rfl), fun l2 hl2 => ⟨_, rfl, p, c, 2, rfl, J2.new hl2, by decide, by decide +kernel, fun r' H3 r0' r1' J3 k3 => ?_⟩⟩
    obtain ⟨n2, hn2, hb2⟩ := at_P (P := fun n => 0 ≤ n ∧ n ≤ 60) [4, 60] (by simp) r0' r1'
    exact ⟨l2, _, _, _, rfl, rfl, SqL.of (k3 _ _ upd_same (J2.fresh hl2)), hn2, p, c, n, n2, rfl, J3, hb, hb2, fun R U ws v H' ok _ J' _ rb => hN _ _ ⟨R, U, ws, v, rfl, J', ok, rb⟩⟩
  rintro _ H2 ⟨R, U, ws, bv, rfl, J2, ok, rb2⟩
  have wz := ok.len
  obtain ⟨ba, wa, vs, B2⟩ := rep_book rb2
  have eb := B2.e
  subst eb
  have vl := B2.len
  refine seq_by (fun σ' H' => ∃ ls ts, σ' = [some (.ref a), some (.ref p), some (.ref ba), some (.ref ls), none, none, none, none, none, none] ∧ SmI ws p c H2 H' ls ts ∧ ts.length = 2) (fun N hN => ?_) ?_
  · refine ⟨small4 (Nat.le_of_ble_eq_true rfl), fun t ht => ?_⟩
    have k3 : Kp [] H2 (upd H2 t (.tup [.int 0])) := Kp.new ht _
    refine ⟨_, rfl, ba, _, _, _, rfl, rfl, SqT.of (k3 _ _ B2.b (by simp)), at2 _ _ _, wa, _, rfl, .inr (SqT.of (k3 _ _ B2.w (by simp))), repTn ht (by omega) (by omega) fun t1 H3 k3 f3 h3 => ?_⟩
    refine ⟨small4 (Nat.le_of_ble_eq_true rfl), fun t' ht' => ?_⟩
    have k4 : Kp [] H2 (upd H3 t' (.tup [.int 1])) := k3.trans (Kp.new ht' _)
    refine ⟨_, rfl, ba, _, _, _, rfl, rfl, SqT.of (k4 _ _ B2.b (by simp)), at2 _ _ _, wa, _, rfl, .inr (SqT.of (k4 _ _ B2.w (by simp))), repTn ht' (by omega) (by omega) fun t2 H4 k4 f4 h4 => ?_⟩
    refine ⟨small4 (Nat.le_of_ble_eq_true rfl), fun ls hls => ?_⟩
    have k5 : Kp [] H4 (upd H4 ls (.lst [.ref t1, .ref t2])) := Kp.new hls _
    have k24 := k3.trans k4
    have k25 := k24.trans k5
    refine hN _ _ ⟨ls, [t1, t2], rfl, ⟨k25.of, J2.keep k25, Kp.free k24 hls (by simp), (J2.keep k24).fresh hls, upd_same, fun t ht => ?_⟩, rfl⟩
    rcases List.mem_cons.mp ht with rfl | ht
    · exact ⟨J2.fresh f3, _, (k4.trans k5) _ _ h3 (by simp), by rw [List.length_replicate]; omega⟩
    · obtain rfl := List.mem_singleton.mp ht
      exact ⟨(J2.keep k3).fresh f4, _, k5 _ _ h4 (by simp), by rw [List.length_replicate]; omega⟩
  rintro _ H3 ⟨ls0, ts0, rfl, I3, tz0⟩
  refine seq_by (fun σ' H' => ∃ ls ts o4 o5 o6 o7, σ' = [some (.ref a), some (.ref p), some (.ref ba), some (.ref ls), o4, o5, o6, o7, none, none] ∧ SmI ws p c H2 H' ls ts ∧ ts.length ≤ 20) (fun N hN => ?_) ?_
  · refine ⟨3, rfl, by decide, by decide, for_range (n := 3) (fun i σ H' => ∃ ls ts o4 o5 o6 o7, σ = [some (.ref a), some (.ref p), some (.ref ba), some (.ref ls), o4, o5, o6, o7, none, none] ∧ SmI ws p c H2 H' ls ts ∧ ts.length = 2 + 3 * i) ⟨_, _, _, _, _, _, rfl, I3, by omega⟩ ?_ (fun σ H' ⟨ls, ts, o4, o5, o6, o7, e, I, z⟩ => hN _ _ ⟨ls, ts, o4, o5, o6, o7, e, I, by omega⟩)⟩
    rintro i σ H4 hi ⟨ls, ts, o4, o5, o6, o7, rfl, I4, tz⟩
    refine seq_by (fun σ' H' => ∃ wl, σ' = [some (.ref a), some (.ref p), some (.ref ba), some (.ref ls), some (.int (0 + (i : Int))), some (.ref wl), o6, o7, none, none] ∧ WkI ws p c H2 H' ls ts wl []) (fun N hN => ?_) ?_
    · exact ⟨small4 (Nat.le_of_ble_eq_true rfl), fun wl hwl => hN _ _ ⟨wl, rfl, I4.kp (Kp.new hwl _) (I4.j.new hwl), Kp.free I4.k hwl (I4.j.fresh hwl), I4.j.fresh hwl, (ne_of_none I4.l hwl).symm, upd_same, fun e he => by cases he⟩⟩
    rintro _ H5 ⟨wl, rfl, I5⟩
    refine seq_by (fun σ' H' => ∃ es o6 o7, σ' = [some (.ref a), some (.ref p), some (.ref ba), some (.ref ls), some (.int (0 + (i : Int))), some (.ref wl), o6, o7, none, none] ∧ WkI ws p c H2 H' ls ts wl es) (fun N hN => ?_) ?_
    · refine ⟨_, rfl, p, c, 3, rfl, I5.s.j, by decide, by decide +kernel, fun r H6 r0 r1 J6 k6 => ⟨_, _, rfl, rfl, 1 + r, rfl, by omega, by omega, ?_⟩⟩
      refine for_range (n := (1 + r).toNat) (fun j σ H' => ∃ es o6 o7, σ = [some (.ref a), some (.ref p), some (.ref ba), some (.ref ls), some (.int (0 + (i : Int))), some (.ref wl), o6, o7, none, none] ∧ WkI ws p c H2 H' ls ts wl es ∧ es.length = j) ⟨[], _, _, rfl, I5.kp k6 J6, rfl⟩ ?_ (fun σ H' ⟨es, o6, o7, e, I, _⟩ => hN _ _ ⟨es, o6, o7, e, I⟩)
      rintro j σ H7 hj ⟨es, o6, o7, rfl, I7, ez⟩
      refine seq_by (fun σ' H' => ∃ often : Int, σ' = [some (.ref a), some (.ref p), some (.ref ba), some (.ref ls), some (.int (0 + (i : Int))), some (.ref wl), some (.int (0 + (j : Int))), some (.int often), none, none] ∧ WkI ws p c H2 H' ls ts wl es) (fun N' hN' => ?_) ?_
      · refine ⟨_, _, rfl, rfl, ⟨by decide, by decide, by decide⟩, _, _, rfl, rfl, ⟨by decide, by decide, by decide⟩, _, _, rfl, rfl, mul97, small4 (Nat.le_of_ble_eq_true rfl), fun l hl => ⟨_, rfl, p, c, 4, rfl, I7.s.j.new hl, by decide, by decide +kernel, fun r' H8 r0' r1' J8 k8 => ?_⟩⟩
        obtain ⟨n, hn, en⟩ := at_map [1, 2, 10 ^ 50 * 10 ^ 47, 7] r0' r1'
        exact ⟨l, _, _, _, rfl, rfl, SqL.of (k8 _ _ upd_same (I7.s.j.fresh hl)), en, hN' _ _ ⟨n, rfl, I7.kp ((Kp.new hl _).trans k8) J8⟩⟩
      rintro _ H8 ⟨often, rfl, I8⟩
      refine ⟨_, rfl, .inl ⟨rfl, _, SqL.of I8.w⟩, _, rfl, _, rfl, _, rfl, p, c, R, U, ws, _, 12, rfl, I8.s.j, rb2.keep I8.s.k, ok, by decide, fun ns l H9 hin _ hz J9 k9 f9 h9 => ⟨small4 (Nat.le_of_ble_eq_true rfl), fun t ht => ?_⟩⟩
      have J10 : Jar (upd H9 t (.tup [.int often, .ref l])) p c := J9.new ht
      have I9 := (I8.kp k9 J9).kp (Kp.new ht (.tup [.int often, .ref l])) J10
      have h10 : upd H9 t (.tup [.int often, .ref l]) l = some (.lst (ns.map V.int)) := by rw [upd_ne (ne_of_none h9 ht)]; exact h9
      refine ⟨wl, _, _, rfl, rfl, I9.w, by rw [List.length_map]; omega, es ++ [(t, often, l, ns)], _, _, rfl, ?_, by rw [List.length_append, ez]; rfl⟩
      have := I9.add (e := (t, often, l, ns)) ⟨upd_same, h10, hin⟩ (J9.fresh ht) (I8.s.j.fresh f9) (ne_of_none I8.w f9).symm
      rw [List.map_append] at this
      exact this
    rintro _ H6 ⟨es, o6, o7, rfl, I6⟩
    refine seq_by (fun σ' H' => ∃ t, σ' = [some (.ref a), some (.ref p), some (.ref ba), some (.ref ls), some (.int (0 + (i : Int))), some (.ref wl), o6, o7, none, none] ∧ SmI ws p c H2 H' ls (ts ++ [t])) (fun N hN => ?_) ?_
    · refine ⟨_, rfl, .inl ⟨rfl, _, SqL.of I6.s.l⟩, _, rfl, _, rfl, [p, c], R, U, ws, _, wl, es, rfl, rb2.keep I6.s.k, ok, I6.w, fun e he => (I6.e e he).1, fun t cs H7 k7 f7 h7 z7 => ?_⟩
      have I7 := I6.s.kp k7.of (I6.s.j.keep k7)
      have := I7.add (t := t) ⟨I6.s.j.fresh f7, cs, h7, z7⟩
      rw [List.map_append] at this
      exact ⟨ls, _, _, rfl, rfl, I7.l, by rw [List.length_map]; omega, hN _ _ ⟨t, rfl, this⟩⟩
    rintro _ H7 ⟨t, rfl, I7⟩
    obtain ⟨nt, cs, ht, cz⟩ := I7.t t (List.mem_append_right _ (List.mem_singleton.mpr rfl))
    have el : atI ((ts ++ [t]).map V.ref) (-1) = some (.ref t) := by rw [List.map_append]; exact at_snoc _ _
    refine ⟨_, rfl, _, rfl, _, rfl, _, rfl, ls, _, _, _, rfl, rfl, SqL.of I7.l, el, p, c, t, cs, rfl, I7.j, nt, ht, by omega, fun t1 ds1 H8 J8 k8 f8 h8 z8 => ?_⟩
    have I8 := I7.kp k8 J8
    refine ⟨_, rfl, _, rfl, _, rfl, ls, _, _, _, rfl, rfl, SqL.of I8.l, el, p, c, t, cs, rfl, J8, nt, k8 _ _ ht nt, by omega, fun t2 ds2 H9 J9 k9 f9 h9 z9 => ?_⟩
    have I9 := I8.kp k9 J9
    refine ⟨small4 (Nat.le_of_ble_eq_true rfl), fun lt hlt => ?_⟩
    have I10 := I9.kp (Kp.new hlt (.lst [.ref t1, .ref t2])) (J9.new hlt)
    refine ⟨ls, lt, _, _, rfl, rfl, I10.l, upd_same, by rw [List.length_map, List.length_append]; simp; omega, fun l2 hl2 => ?_⟩
    have I11 := I10.kp (Kp.new hl2 (.lst ((ts ++ [t]).map V.ref ++ [.ref t1, .ref t2]))) (I10.j.new hl2)
    have kk : Kp [p, c] H9 (upd (upd H9 lt (.lst [.ref t1, .ref t2])) l2 (.lst ((ts ++ [t]).map V.ref ++ [.ref t1, .ref t2]))) := (Kp.new hlt _).trans (Kp.new hl2 _)
    refine ⟨l2, ts ++ [t] ++ [t1, t2], _, _, _, _, rfl, ⟨I11.k, I11.j, Kp.free I10.k hl2 (I10.j.fresh hl2), I10.j.fresh hl2, by rw [upd_same]; simp, fun x hx => ?_⟩, by simp; omega⟩
    rcases List.mem_append.mp hx with hx | hx
    · exact I11.t x hx
    · rcases List.mem_cons.mp hx with rfl | hx
      · exact ⟨I7.j.fresh f8, ds1, (k9.trans kk) _ _ h8 (I7.j.fresh f8), by omega⟩
      · obtain rfl := List.mem_singleton.mp hx
        exact ⟨J8.fresh f9, ds2, kk _ _ h9 (J8.fresh f9), by omega⟩
  rintro _ H8 ⟨ls, ts, o4, o5, o6, o7, rfl, I8, tz⟩
  refine seq_by (fun σ' H' => True) (fun N hN => ?_) (fun σ' H' _ => q H')
  refine ⟨_, rfl, ls, rfl, ⟨_, SqL.of I8.l⟩, ?_⟩
  refine for_list (K := K) (xs := ts.map V.ref) (fun j σ H' => ∃ o8 o9, σ = [some (.ref a), some (.ref p), some (.ref ba), some (.ref ls), o4, o5, o6, o7, o8, o9] ∧ SmI ws p c H2 H' ls ts) ⟨_, _, rfl, I8⟩ (fun j σ H' _ ⟨_, _, _, I⟩ => SqL.of I.l) ?_ (fun σ H' _ => hN _ _ trivial)
  rintro j x σ H9 hx ⟨o8, o9, rfl, I9⟩
  rw [List.getElem?_map] at hx
  cases hn : ts[j]? with
  | none => rw [hn] at hx; cases hx
  | some t =>
    rw [hn] at hx
    obtain rfl : V.ref t = x := Option.some.inj hx
    obtain ⟨nt, cs, ht, cz⟩ := I9.t t (List.mem_of_getElem? hn)
    refine seq_by (fun σ' H' => σ' = [some (.ref a), some (.ref p), some (.ref ba), some (.ref ls), o4, o5, o6, o7, some (.ref t), some (.bl (roundB R ws cs))] ∧ Kp [] H9 H') (fun N' hN' => ⟨_, rfl, _, rfl, [p, c], R, U, ws, _, t, cs, rfl, rb2.keep I9.k, ok, ht, nt, cz, fun H' k => hN' _ _ ⟨rfl, k⟩⟩) ?_
    rintro _ H10 ⟨rfl, k10⟩
    have I10 := I9.kp k10.of (I9.j.keep k10)
    refine ⟨_, rfl, [], .bool (roundB R ws cs), _, _, rfl, .bool _, isT_bool, _, rfl, ?_⟩
    refine ite_nt ?_
    refine ⟨_, rfl, _, rfl, _, rfl, [p, c], R, U, ws, _, t, cs, rfl, rb2.keep I10.k, ok, k10 _ _ ht (by simp), nt, cz, fun H12 k12 => ⟨rfl, _, rfl, ite_b (fun cc => ?_) (fun _ => ⟨_, _, rfl, I10.kp k12.of (I10.j.keep k12)⟩)⟩⟩
    simp at cc

end
theorem all_mk {l : PySem.W.OpenLaw} {w : World} {K : PySem.W.Frag} {h : Heap} {mg : Str → Option Value} {fa f4 : Addr} (X : K.In h) (G : h.Ns mainGlobals mg) (hfa : mg "law" = some (.ref fa)) (T : Txt mg)
    (D_is_whole : Def K mg "is_whole" s_is_whole ["thing"]) (D_is_tuple_of : Def K mg "is_tuple_of" s_is_tuple_of ["thing", "many"]) (D_are_numbers : Def K mg "are_numbers" s_are_numbers ["thing", "many"]) (D_is_balanced : Def K mg "is_balanced" s_is_balanced ["book", "counts"]) (D_is_round : Def K mg "is_round" s_is_round ["book", "counts"]) (D_law_mix : Def K mg "_law_mix" s_law_mix ["one"]) (D_law_jar : Def K mg "_law_jar" s_law_jar ["script"]) (D_law_pick : Def K mg "_law_pick" s_law_pick ["jar", "many"]) (D_law_gain : Def K mg "_law_gain" s_law_gain ["jar"]) (D_law_book : Def K mg "_law_book" s_law_book ["jar", "most_rooms", "most_ways"]) (D_law_from : Def K mg "_law_from" s_law_from ["book", "room"]) (D_law_walk : Def K mg "_law_walk" s_law_walk ["jar", "book", "most"]) (D_law_back : Def K mg "_law_back" s_law_back ["book", "first", "last"]) (D_law_closed : Def K mg "_law_closed" s_law_closed ["jar", "book", "most"]) (D_law_counts : Def K mg "_law_counts" s_law_counts ["book", "walks"]) (D_law_bent : Def K mg "_law_bent" s_law_bent ["jar", "counts"]) (D_law_is_round : Def K mg "_law_is_round" s_law_is_round ["book", "counts"])
    {od4 an4 : Option Addr} {sl4 : Array (Option Value)} {oc4 kV4 dc4 pm4 cd4 ct4 : Value} (a4 : PySem.W.nsIn K mainGlobals "law" = some (some (.ref f4)))
    (l4 : K.lookup f4 = some ⟨oc4, od4, .func (PySem.W.fnOf "law" "law" (defArgs s_law) (defBody s_law) (defScope s_law) .none kV4 dc4 pm4 an4 cd4 ct4), sl4⟩) (c4 : PySem.W.codeIn K cd4 "law" = true) (k4 : PySem.W.keepIn K (.ref f4) = true) :
    ∃ fd : FuncData, (∀ (s : Shared) (v : Value), BindsTo s fd ⟨[v], []⟩ [("script", v)]) ∧ ∀ base : Heap, K.In base → base.Ns mainGlobals mg → FnOk l.prog w K mg base CX0 6 fa fd ["script"] (spLaw K) := by
  have e := hfa.symm.trans (PySem.W.mg_of X G a4)
  cases e
  have F4 := fun_mk (st := s_law) l4 c4 k4
  refine ⟨PySem.W.fnOf "law" "law" (defArgs s_law) (defBody s_law) (defScope s_law) .none kV4 dc4 pm4 an4 cd4 ct4, fun s v => .of_eq rfl, fun base _ _ => ?_⟩
  have c_is_whole : Cal l.prog w K mg base "is_whole" 1 ["thing"] spWhole := ok_is_whole T D_is_whole 
  have c_is_tuple_of : Cal l.prog w K mg base "is_tuple_of" 1 ["thing", "many"] spTup := ok_is_tuple_of T D_is_tuple_of 
  have c_are_numbers : Cal l.prog w K mg base "are_numbers" 2 ["thing", "many"] spNums := ok_are_numbers T D_are_numbers c_is_tuple_of c_is_whole
  have c_is_balanced : Cal l.prog w K mg base "is_balanced" 1 ["book", "counts"] spBal := ok_is_balanced T D_is_balanced 
  have c_is_round : Cal l.prog w K mg base "is_round" 3 ["book", "counts"] spRound := ok_is_round T D_is_round c_are_numbers c_is_balanced
  have c_law_mix : Cal l.prog w K mg base "_law_mix" 1 ["one"] spMix := ok_law_mix T D_law_mix 
  have c_law_jar : Cal l.prog w K mg base "_law_jar" 2 ["script"] (spJar K) := ok_law_jar T D_law_jar c_law_mix
  have c_law_pick : Cal l.prog w K mg base "_law_pick" 2 ["jar", "many"] spPick := ok_law_pick T D_law_pick c_law_mix
  have c_law_gain : Cal l.prog w K mg base "_law_gain" 3 ["jar"] spGain := ok_law_gain T D_law_gain c_law_pick
  have c_law_book : Cal l.prog w K mg base "_law_book" 4 ["jar", "most_rooms", "most_ways"] spBookD := ok_law_book T D_law_book c_law_pick c_law_gain
  have c_law_from : Cal l.prog w K mg base "_law_from" 1 ["book", "room"] spFrom := ok_law_from T D_law_from 
  have c_law_walk : Cal l.prog w K mg base "_law_walk" 3 ["jar", "book", "most"] spWalkD := ok_law_walk T D_law_walk c_law_pick c_law_from
  have c_law_back : Cal l.prog w K mg base "_law_back" 2 ["book", "first", "last"] spBack := ok_law_back T D_law_back c_law_from
  have c_law_closed : Cal l.prog w K mg base "_law_closed" 4 ["jar", "book", "most"] spClosed := ok_law_closed T D_law_closed c_law_walk c_law_back
  have c_law_counts : Cal l.prog w K mg base "_law_counts" 1 ["book", "walks"] spCounts := ok_law_counts T D_law_counts 
  have c_law_bent : Cal l.prog w K mg base "_law_bent" 3 ["jar", "counts"] spBentC := ok_law_bent T D_law_bent c_law_pick
  have c_law_is_round : Cal l.prog w K mg base "_law_is_round" 1 ["book", "counts"] spRound := ok_law_is_round T D_law_is_round 
  exact ok_law T F4 c_law_jar c_law_pick c_law_book c_law_closed c_law_counts c_law_bent c_is_round c_law_is_round
theorem walk {l : PySem.W.OpenLaw} {q : Program} {loose : List Str} {XP : (Str → Option Value) → Heap → Prop} {YP : World → Heap → Prop} {d : DefRec} {K : Params → PySem.W.Frag} (hn : l.most = some 63) (hdf : d.params.defaults = [])
    (hY : ∀ (w : World) (h : Heap), YP w h → (K w.params).In h)
    (F : ∀ (w : World) (mg : Str → Option Value) (fa : Addr) (h : Heap), (K w.params).In h → h.Ns mainGlobals mg → mg d.name = some (.ref fa) →
      ∃ fd : FuncData, (∀ (s : Shared) (u : Value), BindsTo s fd ⟨[u], []⟩ [("script", u)]) ∧ ∀ base : Heap, (K w.params).In base → base.Ns mainGlobals mg → FnOk l.prog w (K w.params) mg base CX0 6 fa fd ["script"] (spLaw (K w.params))) :
    PySem.W.WalkO q loose XP YP l.row.toRowW d [] (fun f vs => PySem.call f vs) :=
  L2.walk_of (n := 63) (k := 6) (x := "script") (CX := fun _ => CX0) (sp := fun w => spLaw (K w.params)) hn (by decide) hdf ⟨rfl, by decide, by decide, rfl⟩ hY F (fun _ _ a ns hl _ hS => ⟨a, ns, rfl, hS, hl, fun _ => rfl⟩) fun _ _ _ _ _ z => z
end My
open PySem PySem.W PyProof.Rows
set_option maxRecDepth 100000 in
set_option maxHeartbeats 0 in
theorem PySem.Challenge.cw_fallsum_k20_what_is_a_round_holds : PySem.Challenge.rw_fallsum_k20_what_is_a_round.Holds := by
  w_on; o_law; k_head; (case hw => w_witness2)
  k_fill
  refine My.walk (l := PySem.Challenge.rw_fallsum_k20_what_is_a_round) rfl rfl (fun w h Y => PySem.W.kIn_of Y) ?F
  case F =>
    intro w mg fa h KX G hmg
    refine' My.all_mk KX G hmg ⟨PySem.W.mg_none_of KX G ?z_isinstance, PySem.W.mg_none_of KX G ?z_int, PySem.W.mg_none_of KX G ?z_bool, PySem.W.mg_none_of KX G ?z_str, PySem.W.mg_none_of KX G ?z_tuple, PySem.W.mg_none_of KX G ?z_len, PySem.W.mg_none_of KX G ?z_all, PySem.W.mg_none_of KX G ?z_sum, PySem.W.mg_none_of KX G ?z_range, PySem.W.mg_none_of KX G ?z_list, PySem.W.mg_none_of KX G ?z_zip, PySem.W.mg_none_of KX G ?z_enumerate, PySem.W.mg_none_of KX G ?z_any⟩
      (L2.def_mk KX G ?a_is_whole ?l_is_whole ?c_is_whole ?k_is_whole (fun _ _ _ _ _ _ us hl => match us, hl with | [_], _ => rfl))
      (L2.def_mk KX G ?a_is_tuple_of ?l_is_tuple_of ?c_is_tuple_of ?k_is_tuple_of (fun _ _ _ _ _ _ us hl => match us, hl with | [_, _], _ => rfl))
      (L2.def_mk KX G ?a_are_numbers ?l_are_numbers ?c_are_numbers ?k_are_numbers (fun _ _ _ _ _ _ us hl => match us, hl with | [_, _], _ => rfl))
      (L2.def_mk KX G ?a_is_balanced ?l_is_balanced ?c_is_balanced ?k_is_balanced (fun _ _ _ _ _ _ us hl => match us, hl with | [_, _], _ => rfl))
      (L2.def_mk KX G ?a_is_round ?l_is_round ?c_is_round ?k_is_round (fun _ _ _ _ _ _ us hl => match us, hl with | [_, _], _ => rfl))
      (L2.def_mk KX G ?a_law_mix ?l_law_mix ?c_law_mix ?k_law_mix (fun _ _ _ _ _ _ us hl => match us, hl with | [_], _ => rfl))
      (L2.def_mk KX G ?a_law_jar ?l_law_jar ?c_law_jar ?k_law_jar (fun _ _ _ _ _ _ us hl => match us, hl with | [_], _ => rfl))
      (L2.def_mk KX G ?a_law_pick ?l_law_pick ?c_law_pick ?k_law_pick (fun _ _ _ _ _ _ us hl => match us, hl with | [_, _], _ => rfl))
      (L2.def_mk KX G ?a_law_gain ?l_law_gain ?c_law_gain ?k_law_gain (fun _ _ _ _ _ _ us hl => match us, hl with | [_], _ => rfl))
      (L2.def_mk KX G ?a_law_book ?l_law_book ?c_law_book ?k_law_book (fun _ _ _ _ _ _ us hl => match us, hl with | [_, _, _], _ => rfl))
      (L2.def_mk KX G ?a_law_from ?l_law_from ?c_law_from ?k_law_from (fun _ _ _ _ _ _ us hl => match us, hl with | [_, _], _ => rfl))
      (L2.def_mk KX G ?a_law_walk ?l_law_walk ?c_law_walk ?k_law_walk (fun _ _ _ _ _ _ us hl => match us, hl with | [_, _, _], _ => rfl))
      (L2.def_mk KX G ?a_law_back ?l_law_back ?c_law_back ?k_law_back (fun _ _ _ _ _ _ us hl => match us, hl with | [_, _, _], _ => rfl))
      (L2.def_mk KX G ?a_law_closed ?l_law_closed ?c_law_closed ?k_law_closed (fun _ _ _ _ _ _ us hl => match us, hl with | [_, _, _], _ => rfl))
      (L2.def_mk KX G ?a_law_counts ?l_law_counts ?c_law_counts ?k_law_counts (fun _ _ _ _ _ _ us hl => match us, hl with | [_, _], _ => rfl))
      (L2.def_mk KX G ?a_law_bent ?l_law_bent ?c_law_bent ?k_law_bent (fun _ _ _ _ _ _ us hl => match us, hl with | [_, _], _ => rfl))
      (L2.def_mk KX G ?a_law_is_round ?l_law_is_round ?c_law_is_round ?k_law_is_round (fun _ _ _ _ _ _ us hl => match us, hl with | [_, _], _ => rfl))
      ?a4 ?l4 ?c4 ?k4
    (case z_isinstance => k_is)
    (case z_int => k_is)
    (case z_bool => k_is)
    (case z_str => k_is)
    (case z_tuple => k_is)
    (case z_len => k_is)
    (case z_all => k_is)
    (case z_sum => k_is)
    (case z_range => k_is)
    (case z_list => k_is)
    (case z_zip => k_is)
    (case z_enumerate => k_is)
    (case z_any => k_is)
    (case a_is_whole => k_is)
    (case l_is_whole => k_is)
    (case c_is_whole => k_is)
    (case k_is_whole => k_is)
    (case a_is_tuple_of => k_is)
    (case l_is_tuple_of => k_is)
    (case c_is_tuple_of => k_is)
    (case k_is_tuple_of => k_is)
    (case a_are_numbers => k_is)
    (case l_are_numbers => k_is)
    (case c_are_numbers => k_is)
    (case k_are_numbers => k_is)
    (case a_is_balanced => k_is)
    (case l_is_balanced => k_is)
    (case c_is_balanced => k_is)
    (case k_is_balanced => k_is)
    (case a_is_round => k_is)
    (case l_is_round => k_is)
    (case c_is_round => k_is)
    (case k_is_round => k_is)
    (case a_law_mix => k_is)
    (case l_law_mix => k_is)
    (case c_law_mix => k_is)
    (case k_law_mix => k_is)
    (case a_law_jar => k_is)
    (case l_law_jar => k_is)
    (case c_law_jar => k_is)
    (case k_law_jar => k_is)
    (case a_law_pick => k_is)
    (case l_law_pick => k_is)
    (case c_law_pick => k_is)
    (case k_law_pick => k_is)
    (case a_law_gain => k_is)
    (case l_law_gain => k_is)
    (case c_law_gain => k_is)
    (case k_law_gain => k_is)
    (case a_law_book => k_is)
    (case l_law_book => k_is)
    (case c_law_book => k_is)
    (case k_law_book => k_is)
    (case a_law_from => k_is)
    (case l_law_from => k_is)
    (case c_law_from => k_is)
    (case k_law_from => k_is)
    (case a_law_walk => k_is)
    (case l_law_walk => k_is)
    (case c_law_walk => k_is)
    (case k_law_walk => k_is)
    (case a_law_back => k_is)
    (case l_law_back => k_is)
    (case c_law_back => k_is)
    (case k_law_back => k_is)
    (case a_law_closed => k_is)
    (case l_law_closed => k_is)
    (case c_law_closed => k_is)
    (case k_law_closed => k_is)
    (case a_law_counts => k_is)
    (case l_law_counts => k_is)
    (case c_law_counts => k_is)
    (case k_law_counts => k_is)
    (case a_law_bent => k_is)
    (case l_law_bent => k_is)
    (case c_law_bent => k_is)
    (case k_law_bent => k_is)
    (case a_law_is_round => k_is)
    (case l_law_is_round => k_is)
    (case c_law_is_round => k_is)
    (case k_law_is_round => k_is)
    (case a4 => k_is)
    (case l4 => k_is)
    (case c4 => k_is)
    (case k4 => k_is)
