import PyProof.Rows.All
import Wide.All
import OpenK.AllK
import Wide.FinOn
import Lean
import PyProof.EqAt
import PyProof.EqKinds
import PyProof.TupleCall
import KE.KTryMore
import OpenK.KOwn
import PyProof.Rows.CatchOwn
import PyProof.StrLawsTight
import PyProof.StrLawsJoin
import PyProof.ExcInit
import PyProof.ExcClass2
import PyProof.InstStore
import PyProof.AttrMissSeq
import KE.IntTextText
import PyProof.Rows.StrMul
import PySem.Challenge.RW_fallsum_k82_whole_texts_judged
set_option Elab.async false
set_option linter.all false
set_option maxRecDepth 100000
namespace L2
open PySem PySem.Spec PyProof.Rows

noncomputable abbrev Key := Sum Int Str
noncomputable def keyIs : Key → Value → Bool
  | .inl k, v => Value.isInt k v
  | .inr x, v => Value.isStrOf x v
noncomputable def keyH (w : World) : Key → Int
  | .inl k => hashInt k
  | .inr x => hashStr w x
theorem keyIs_shape : ∀ {k : Key} {v : Value}, keyIs k v = true → (∃ i t, k = Sum.inl i ∧ v = Value.int i t) ∨ (∃ x t, k = Sum.inr x ∧ v = Value.str x t)
  | .inl i, v, h => by
    obtain ⟨t, e⟩ := Value.isInt_shape (k := i) (v := v) h
    exact .inl ⟨i, t, rfl, e⟩
  | .inr x, v, h => by
    obtain ⟨t, e⟩ := Value.isStrOf_shape (x := x) (v := v) h
    exact .inr ⟨x, t, rfl, e⟩
theorem keyIs_int (i : Int) (t : Tok) : keyIs (.inl i) (.int i t) = true := by simp [keyIs, Value.isInt]
theorem keyIs_str (x : Str) (t : Tok) : keyIs (.inr x) (.str x t) = true := by simp [keyIs, Value.isStrOf]
theorem key_ll (a b : Int) : decide ((Sum.inl a : Key) = Sum.inl b) = (a == b) := by
  by_cases e : a = b
  · subst e; simp
  · have h : ¬ (Sum.inl a : Key) = Sum.inl b := fun q => e (Sum.inl.inj q)
    rw [decide_eq_false h]
    exact (beq_eq_false_iff_ne.mpr e).symm
theorem key_rr (a b : Str) : decide ((Sum.inr a : Key) = Sum.inr b) = decide (a = b) := by
  by_cases e : a = b
  · subst e; simp
  · have h : ¬ (Sum.inr a : Key) = Sum.inr b := fun q => e (Sum.inr.inj q)
    rw [decide_eq_false h, decide_eq_false e]
theorem key_lr (a : Int) (b : Str) : decide ((Sum.inl a : Key) = Sum.inr b) = false := decide_eq_false (fun q => nomatch q)
theorem key_rl (a : Str) (b : Int) : decide ((Sum.inr a : Key) = Sum.inl b) = false := decide_eq_false (fun q => nomatch q)

noncomputable def mixKind (prog : Program) (w : World) : PySem.KeyKind prog w Key where
  is := keyIs
  hash := keyH w
  inj := fun v a b ha hb => by
    rcases keyIs_shape ha with ⟨i, t, rfl, rfl⟩ | ⟨x, t, rfl, rfl⟩
    · rcases keyIs_shape hb with ⟨j, u, rfl, e⟩ | ⟨y, u, rfl, e⟩
      · injection e with e1 _; rw [e1]
      · exact nomatch e
    · rcases keyIs_shape hb with ⟨j, u, rfl, e⟩ | ⟨y, u, rfl, e⟩
      · exact nomatch e
      · injection e with e1 _; rw [e1]
  byValue := fun k v h => by
    rcases keyIs_shape h with ⟨i, t, rfl, rfl⟩ | ⟨x, t, rfl, rfl⟩ <;> rfl
  pyHash := fun hv h => by
    rcases keyIs_shape hv with ⟨i, t, rfl, rfl⟩ | ⟨x, t, rfl, rfl⟩
    · exact wpAny_pyHash_int h
    · exact wpAny_pyHash_str h
  eqBool := fun hu hv h => by
    rcases keyIs_shape hu with ⟨i, t, rfl, rfl⟩ | ⟨x, t, rfl, rfl⟩
    · rcases keyIs_shape hv with ⟨j, u, rfl, rfl⟩ | ⟨y, u, rfl, rfl⟩
      · rw [key_ll] at h; exact wpAny_eqBool_int h
      · rw [key_lr] at h; exact SeqAt.EqAt.int_str i t y u _ _ _ _ h
    · rcases keyIs_shape hv with ⟨j, u, rfl, rfl⟩ | ⟨y, u, rfl, rfl⟩
      · rw [key_rl] at h; exact SeqAt.EqAt.str_int x t j u _ _ _ _ h
      · rw [key_rr] at h; exact wpAny_eqBool_str h
  «strs» := fun k x t v h => by
    rcases keyIs_shape h with ⟨i, u, rfl, e⟩ | ⟨y, u, rfl, e⟩
    · exact nomatch e
    · injection e with e1 _
      subst e1
      cases v <;> rfl

theorem mixKind_int (prog : Program) (w : World) (i : Int) (t : Tok) : (mixKind prog w).is (.inl i) (.int i t) = true := keyIs_int i t
theorem mixKind_str (prog : Program) (w : World) (x : Str) (t : Tok) : (mixKind prog w).is (.inr x) (.str x t) = true := keyIs_str x t
end L2

namespace L2
open PySem PySem.Spec PyProof.Rows

inductive V where
  | non | bl (b : Bool) | int (i : Int) | str (x : Str) | byt (b : Array UInt8) | flt (b : UInt64) | ref (a : Addr) | ty (n : String)
  deriving DecidableEq

noncomputable def RelV : V → Value → Prop
  | .non, u => u = Value.none
  | .bl b, u => u = Value.bool b
  | .int i, u => ∃ t, u = Value.int i t
  | .str x, u => ∃ t, u = Value.str x t
  | .byt b, u => ∃ t, u = Value.bytes b t
  | .flt b, u => ∃ t, u = Value.float b t
  | .ref a, u => u = Value.ref a
  | .ty n, u => u = Value.type n

noncomputable abbrev Vals : List V → List Value → Prop := Paired RelV
theorem Vals.length {xs : List V} {us : List Value} (r : Vals xs us) : xs.length = us.length := Paired.length r
theorem Vals.get : ∀ {xs : List V} {us : List Value} {i : Nat} {x : V}, Vals xs us → xs[i]? = some x → ∃ u, us[i]? = some u ∧ RelV x u
  | _, _, _, _, .nil, e => by simp at e
  | _, _, 0, _, .cons r _, e => by simp at e; subst e; exact ⟨_, rfl, r⟩
  | _, _, i + 1, x, .cons _ t, e => by
    obtain ⟨u, h1, h2⟩ := Vals.get (i := i) (x := x) t (by simpa using e)
    exact ⟨u, by simpa using h1, h2⟩
theorem Vals.set {x : V} {u : Value} (r : RelV x u) : ∀ {xs : List V} {us : List Value} (i : Nat), Vals xs us → Vals (xs.set i x) (us.set i u)
  | _, _, _, .nil => .nil
  | _, _, 0, .cons _ t => .cons r t
  | _, _, i + 1, .cons q t => .cons q (Vals.set r i t)
theorem Vals.append : ∀ {xs ys : List V} {us ws : List Value}, Vals xs us → Vals ys ws → Vals (xs ++ ys) (us ++ ws)
  | _, _, _, _, .nil, s => s
  | _, _, _, _, .cons r t, s => .cons r (Vals.append t s)
theorem Vals.take : ∀ {xs : List V} {us : List Value} (n : Nat), Vals xs us → Vals (xs.take n) (us.take n)
  | _, _, 0, _ => .nil
  | _, _, _ + 1, .nil => .nil
  | _, _, n + 1, .cons r t => .cons r (Vals.take n t)
theorem Vals.drop : ∀ {xs : List V} {us : List Value} (n : Nat), Vals xs us → Vals (xs.drop n) (us.drop n)
  | _, _, 0, r => r
  | _, _, _ + 1, .nil => .nil
  | _, _, n + 1, .cons _ t => Vals.drop n t
noncomputable def RelO : Option V → Option Value → Prop
  | some v, some u => RelV v u
  | none, none => True
  | _, _ => False
noncomputable def KV {κ : Type} : List (κ × V) → List (κ × Value) → Prop := Paired fun (p : κ × V) (q : κ × Value) => p.1 = q.1 ∧ RelV p.2 q.2

noncomputable def kV : Key → V
  | .inl i => .int i
  | .inr x => .str x

inductive HO where
  /-- a list -/
  | lst (xs : List V)
  /-- a tuple (never changes) -/
  | tup (xs : List V)
  /-- a dict whose keys are ints and texts; one whose keys are tuples of ints and texts (the empty one is both) -/
  | dK (kvs : List (Key × V)) | dT (kvs : List (List Key × V))
  /-- a set of ints: its members, its size -/
  | set (S : Int → Bool) (n : Nat)
  /-- an instance of the class at C, its dict at dx, its attributes -/
  | ins (C dx : Addr) (fs : List (Str × V))
  /-- the dict of the instance at x -/
  | own (x : Addr)
  /-- the dict of an exception -/
  | xd (fs : List (Str × V))
  /-- a bound method, f of x -/
  | met (f x : Addr)
  /-- a range object lo, lo + 1, .. below hi -/
  | rng (lo hi : Int)
  /-- a thing that is known to the object (the script; a dict while a loop walks it): read, never written while it is so -/
  | frz (o : Obj) (u : HO)
  /-- a code object's table -/
  | tbl (ps : Array Value)
  /-- any other thing, by what is true of its one object (a def of one's own: SetO a S n := HO.ext fun h => ..) -/
  | ext (φ : Heap → Prop)

noncomputable abbrev Hp := Addr → Option HO
noncomputable def upd (H : Hp) (a : Addr) (o : HO) : Hp := fun b => if b = a then some o else H b
theorem upd_same {H : Hp} {a : Addr} {o : HO} : upd H a o a = some o := by unfold upd; rw [if_pos rfl]
theorem upd_ne {H : Hp} {a b : Addr} {o : HO} (h : b ≠ a) : upd H a o b = H b := by unfold upd; rw [if_neg h]
theorem ne_of {H : Hp} {a b : Addr} {o u : HO} (h : H a = some o) (h' : H b = some u) (d : o ≠ u) : a ≠ b := by
  intro e; subst e; rw [h] at h'; exact d (Option.some.inj h')
theorem ne_of_none {H : Hp} {a b : Addr} {o : HO} (h : H a = some o) (h' : H b = none) : a ≠ b := by
  intro e; subst e; rw [h] at h'; cases h'

section
variable (P : Program) (w : World)
noncomputable def ObjOk (H : Hp) (h : Heap) (a : Addr) : HO → Prop
  | .lst xs => xs.length ≤ sizeLine ∧ ∃ (its : List Value) (n : Nat), Vals xs its ∧ h.get? a = some { cls := .type "list", data := .seq its.toArray n }
  | .tup xs => xs.length ≤ sizeLine ∧ ∃ its : List Value, Vals xs its ∧ IsTup h a its.toArray
  | .dK kvs => kvs.length ≤ sizeLine ∧ (a == sysModules) = false ∧ ∃ vs, KV kvs vs ∧ h.DictOf (mixKind P w) a vs
  | .dT kvs => kvs.length ≤ sizeLine ∧ (a == sysModules) = false ∧ ∃ xs : List (List Key × Addr × Value),
      Paired (fun (p : List Key × V) (q : List Key × Addr × Value) => p.1 = q.1 ∧ H q.2.1 = some (.tup (p.1.map kV)) ∧ RelV p.2 q.2.2) kvs xs ∧
      ∃ o es ep, h.get? a = some o ∧ o.ExactDict ∧ o.data = .dict es ep ∧ es.toList = xs.map (entryOfKey (tupleKind (mixKind P w))) ∧ (xs.map (·.1)).Nodup
  | .set S n => h.SetOf (intKind P w) a S n
  | .ins C dx fs => H dx = some (.own a) ∧ fs.length ≤ 1000 ∧ dx ≠ a ∧ h.get? a = some (PySem.W.instObj C dx) ∧
      ∃ mA, h.Ns1 dx mA ∧ (∀ f, RelO (fs.lookup f) (mA f)) ∧ PySem.Within mA (fs.map (·.1))
  | .own _ => ∃ o, h.get? a = some o
  | .xd fs => ∃ mA, h.Ns1 a mA ∧ ∀ f, RelO (fs.lookup f) (mA f)
  | .rng lo hi => ∃ t u v, h.get? a = some { cls := .type "range", data := .fields #[.int lo t, .int hi u, .int 1 v] }
  | .frz o u => h.get? a = some o ∧ ObjOk H h a u
  | .tbl ps => h.get? a = some { cls := .none, data := .fields ps }
  | .met f x => h.get? a = some (PySem.W.methodObj (.ref f) (.ref x))
  | .ext φ => φ h ∧ (∃ o, h.get? a = some o) ∧ ∀ h1 h2 : Heap, φ h1 → (∀ o, h1.get? a = some o → h2.get? a = some o) → φ h2
noncomputable def HOk (H : Hp) (h : Heap) : Prop := ∀ a o, H a = some o → ObjOk P w H h a o
end

section
variable {P : Program} {w : World} {H H' : Hp} {h h' : Heap} {a : Addr} {o : HO}
theorem ObjOk.lt (x : ObjOk P w H h a o) : a < h.objs.size := by
  cases o with
  | lst xs => obtain ⟨_, _, _, _, e⟩ := x; exact Heap.lt_size e
  | tup xs => obtain ⟨_, _, _, p⟩ := x; exact p.lt
  | dK kvs => obtain ⟨_, _, _, _, o, _, _, e, _⟩ := x; exact Heap.lt_size e
  | dT kvs => obtain ⟨_, _, _, _, o, _, _, e, _⟩ := x; exact Heap.lt_size e
  | set S n => obtain ⟨o, _, _, _, e, _⟩ := x; exact Heap.lt_size e
  | ins C dx fs => obtain ⟨_, _, _, e, _⟩ := x; exact Heap.lt_size e
  | own y => obtain ⟨_, e⟩ := x; exact Heap.lt_size e
  | xd fs => obtain ⟨_, ⟨_, _, _, e, _⟩, _⟩ := x; exact Heap.lt_size e
  | rng lo hi => obtain ⟨_, _, _, e⟩ := x; exact Heap.lt_size e
  | frz ob u => obtain ⟨e, _⟩ := x; exact Heap.lt_size e
  | tbl ps => exact Heap.lt_size (show h.get? a = some _ from x)
  | met f y => exact Heap.lt_size (show h.get? a = some _ from x)
  | ext φ => obtain ⟨_, ⟨_, e⟩, _⟩ := x; exact Heap.lt_size e
theorem Paired.mapP {α β : Type} {F G : α → β → Prop} : ∀ {l₁ : List α} {l₂ : List β}, Paired F l₁ l₂ → (∀ a b, F a b → G a b) → Paired G l₁ l₂
  | _, _, .nil, _ => .nil
  | _, _, .cons r t, f => .cons (f _ _ r) (Paired.mapP t f)
theorem ObjOk.stay (x : ObjOk P w H h a o) (k : ∀ b u, (b = a ∨ H b = some (.own a)) → h.get? b = some u → h'.get? b = some u)
    (ho : ∀ b, H b = some (.own a) → H' b = some (.own a)) (ht : ∀ b xs, H b = some (.tup xs) → H' b = some (.tup xs)) : ObjOk P w H' h' a o := by
  induction o with
  | lst xs => obtain ⟨z, its, n, r, e⟩ := x; exact ⟨z, its, n, r, k _ _ (.inl rfl) e⟩
  | tup xs => obtain ⟨z, its, r, ob, e, c⟩ := x; exact ⟨z, its, r, ob, k _ _ (.inl rfl) e, c⟩
  | dK kvs => obtain ⟨z, y, vs, r, ob, es, ep, e, c⟩ := x; exact ⟨z, y, vs, r, ob, es, ep, k _ _ (.inl rfl) e, c⟩
  | dT kvs =>
    obtain ⟨z, y, xs, r, ob, es, ep, e, c⟩ := x
    exact ⟨z, y, xs, Paired.mapP r fun p q z => ⟨z.1, ht _ _ z.2.1, z.2.2⟩, ob, es, ep, k _ _ (.inl rfl) e, c⟩
  | set S n => obtain ⟨ob, es, ep, t, e, c⟩ := x; exact ⟨ob, es, ep, t, k _ _ (.inl rfl) e, c⟩
  | ins C dx fs =>
    obtain ⟨d, z, ne, e, mA, ⟨od, es, ep, e2, c⟩, r⟩ := x
    exact ⟨ho _ d, z, ne, k _ _ (.inl rfl) e, mA, ⟨od, es, ep, k _ _ (.inr d) e2, c⟩, r⟩
  | own y => obtain ⟨ob, e⟩ := x; exact ⟨ob, k _ _ (.inl rfl) e⟩
  | xd fs => obtain ⟨mA, ⟨od, es, ep, e, c⟩, r⟩ := x; exact ⟨mA, ⟨od, es, ep, k _ _ (.inl rfl) e, c⟩, r⟩
  | rng lo hi => obtain ⟨t, u, v, e⟩ := x; exact ⟨t, u, v, k _ _ (.inl rfl) e⟩
  | frz ob u ih => obtain ⟨e, q⟩ := x; exact ⟨k _ _ (.inl rfl) e, ih q⟩
  | tbl ps =>
    have e : h.get? a = some { cls := .none, data := .fields ps } := x
    show h'.get? a = some { cls := .none, data := .fields ps }
    exact k a _ (.inl rfl) e
  | met f y =>
    have e : h.get? a = some (PySem.W.methodObj (.ref f) (.ref y)) := x
    show h'.get? a = some (PySem.W.methodObj (.ref f) (.ref y))
    exact k a _ (.inl rfl) e
  | ext φ => obtain ⟨p, ⟨o, e⟩, st⟩ := x; exact ⟨st _ _ p fun o q => k _ _ (.inl rfl) q, ⟨o, k _ _ (.inl rfl) e⟩, st⟩
theorem HOk.lt (x : HOk P w H h) (e : H a = some o) : a < h.objs.size := (x a o e).lt
theorem HOk.fresh (x : HOk P w H h) (e : h.objs.size ≤ a) : H a = none := by
  cases q : H a with
  | none => rfl
  | some u => exact absurd (Nat.lt_of_lt_of_le (x.lt q) e) (Nat.lt_irrefl _)
theorem HOk.kept (x : HOk P w H h) (k : ∀ b u, h.get? b = some u → h'.get? b = some u) : HOk P w H h' := fun a o e =>
  (x a o e).stay (fun b u _ q => k b u q) (fun _ q => q) fun _ _ q => q
theorem HOk.laid (x : HOk P w H h) (k : ∀ b u, h.get? b = some u → h'.get? b = some u) (hp : h.objs.size ≤ a) (new : ObjOk P w (upd H a o) h' a o) : HOk P w (upd H a o) h' := fun b u e => by
  have hn := x.fresh hp
  by_cases hb : b = a
  · subst hb; rw [upd_same] at e; cases e; exact new
  · rw [upd_ne hb] at e
    exact (x b u e).stay (fun c v _ q => k c v q) (fun c q => by rw [upd_ne (ne_of_none q hn)]; exact q) fun c xs q => by rw [upd_ne (ne_of_none q hn)]; exact q
end

noncomputable def Rd (H : Hp) (a : Addr) (u : HO) : Prop := H a = some u ∨ ∃ o, H a = some (.frz o u)
theorem Rd.ok {P : Program} {w : World} {H : Hp} {h : Heap} {a : Addr} {u : HO} (r : Rd H a u) (x : HOk P w H h) : ObjOk P w H h a u := by
  rcases r with r | ⟨o, r⟩
  · exact x a u r
  · obtain ⟨_, q⟩ := x a _ r
    exact q
noncomputable def Mut : Option HO → Prop
  | some (.lst _) => True
  | some (.dK _) => True
  | some (.dT _) => True
  | some (.set _ _) => True
  | some (.ins _ _ _) => True
  | some (.ext _) => True
  | _ => False
section
variable {P : Program} {w : World} {H : Hp} {h h' : Heap} {x e : Addr} {o' : HO}
theorem HOk.write (ok : HOk P w H h) (mu : Mut (H x)) (he : e = x ∨ H e = some (.own x)) (k : ∀ b u, b ≠ e → h.get? b = some u → h'.get? b = some u) (heo : ∃ u, h'.get? e = some u)
    (new : ObjOk P w (upd H x o') h' x o') : HOk P w (upd H x o') h' := fun b u q => by
  have nown : ∀ c y, H c = some (.own y) → c ≠ x := fun c y r z => by subst z; rw [r] at mu; exact mu
  have ntup : ∀ c xs, H c = some (.tup xs) → c ≠ x := fun c xs r z => by subst z; rw [r] at mu; exact mu
  by_cases hb : b = x
  · subst hb; rw [upd_same] at q; cases q; exact new
  · rw [upd_ne hb] at q
    by_cases hbe : b = e
    · have q' : H b = some (.own x) := by
        rcases he with z | z
        · exact absurd (hbe.trans z) hb
        · rw [hbe]; exact z
      rw [q] at q'; cases q'
      obtain ⟨v, hv⟩ := heo
      exact ⟨v, by rw [hbe]; exact hv⟩
    · refine (ok b u q).stay (fun c v hc r => k c v ?_ r) (fun c r => by rw [upd_ne (nown c b r)]; exact r) fun c xs r => by rw [upd_ne (ntup c xs r)]; exact r
      rcases hc with rfl | hc
      · exact hbe
      · rintro rfl
        rcases he with z | z
        · exact nown c b hc z
        · rw [hc] at z; cases z; exact hb rfl
end

structure Un (fs ex : List Addr) (H H' : Hp) (h h' : Heap) : Prop where
  keep : ∀ b o, h.get? b = some o → H b = none → b ∉ fs → b ∉ ex → h'.get? b = some o
  slot : ∀ b o, h.get? b = some o → H b = none → b ∈ fs → b ∉ ex → ∃ sl, h'.get? b = some { o with slots := sl }
  free : ∀ b o, h.get? b = some o → H b = none → b ∉ ex → H' b = none
  there : ∀ b o, h.get? b = some o → b ∉ ex → ∃ o', h'.get? b = some o'
  tups : ∀ b xs, H b = some (.tup xs) → H' b = some (.tup xs)
  frzs : ∀ b o u, H b = some (.frz o u) → H' b = some (.frz o u)
  tbls : ∀ b ps, H b = some (.tbl ps) → ∃ more, H' b = some (.tbl (ps ++ more))
section
variable {fs fs' ex ex' : List Addr} {H H1 H2 : Hp} {h h1 h2 h' : Heap} {a x e : Addr} {o : HO}
theorem Un.any (u : Un fs ex H H1 h h1) {b : Addr} {ob : Obj} (q : h.get? b = some ob) (n : H b = none) (hx : b ∉ ex) : ∃ sl, h1.get? b = some { ob with slots := sl } := by
  by_cases hb : b ∈ fs
  · exact u.slot b ob q n hb hx
  · exact ⟨ob.slots, u.keep b ob q n hb hx⟩
theorem Un.kept (k : ∀ b u, h.get? b = some u → h'.get? b = some u) : Un fs ex H H h h' :=
  ⟨fun b ob q _ _ _ => k b ob q, fun b ob q _ _ _ => ⟨ob.slots, k b ob q⟩, fun _ _ _ n _ => n, fun b ob q _ => ⟨ob, k b ob q⟩, fun _ _ q => q, fun _ _ _ q => q, fun _ ps q => ⟨#[], by rw [q]; simp⟩⟩
theorem Un.refl : Un fs ex H H h h := Un.kept fun _ _ q => q
theorem Un.laid (k : ∀ b u, h.get? b = some u → h'.get? b = some u) (hp : h.objs.size ≤ a) (hn : H a = none) : Un fs ex H (upd H a o) h h' where
  keep := fun b u q _ _ _ => k b u q
  slot := fun b u q _ _ _ => ⟨u.slots, k b u q⟩
  free := fun b u q n _ => by rw [upd_ne (Nat.ne_of_lt (Nat.lt_of_lt_of_le (Heap.lt_size q) hp))]; exact n
  there := fun b u q _ => ⟨u, k b u q⟩
  tups := fun b xs q => by rw [upd_ne (ne_of_none q hn)]; exact q
  frzs := fun b u xs q => by rw [upd_ne (ne_of_none q hn)]; exact q
  tbls := fun b ps q => ⟨#[], by rw [upd_ne (ne_of_none q hn), q]; simp⟩
theorem Un.write (mu : Mut (H x)) (he : e = x ∨ H e = some (.own x)) (k : ∀ b u, b ≠ e → h.get? b = some u → h'.get? b = some u) (heo : ∃ u, h'.get? e = some u) : Un fs ex H (upd H x o) h h' := by
  have hx : ∀ b, H b = none → b ≠ x := fun b n z => by subst z; rw [n] at mu; exact mu
  have hb : ∀ b, H b = none → b ≠ e := fun b n z => by
    subst z
    rcases he with r | r
    · exact hx b n r
    · rw [n] at r; cases r
  have hm : ∀ b u, H b = some u → ¬ Mut (some u) → b ≠ x := fun b u q nm z => by subst z; rw [q] at mu; exact nm mu
  refine ⟨fun b u q n _ _ => k b u (hb b n) q, fun b u q n _ _ => ⟨u.slots, k b u (hb b n) q⟩, fun b u q n _ => by rw [upd_ne (hx b n)]; exact n, fun b u q _ => ?_,
    fun b xs q => by rw [upd_ne (hm b _ q fun z => z)]; exact q, fun b u xs q => by rw [upd_ne (hm b _ q fun z => z)]; exact q, fun b ps q => ⟨#[], by rw [upd_ne (hm b _ q fun z => z), q]; simp⟩⟩
  by_cases hbe : b = e
  · subst hbe; exact heo
  · exact ⟨u, k b u hbe q⟩
end

noncomputable def trk (h : Heap) (H : Hp) : List Addr := (List.range h.objs.size).filter fun a => (H a).isSome
noncomputable def hidT (h : Heap) (H : Hp) : Heap := PySem.W.hideAll h (trk h H)
theorem hidT_size (h : Heap) (H : Hp) : (hidT h H).objs.size = h.objs.size := PySem.W.hideAll_size _ _
theorem hidT_get {h : Heap} {H : Hp} {b : Addr} {o : Obj} (e : h.get? b = some o) (n : H b = none) : (hidT h H).get? b = some o :=
  PySem.W.hideAll_get _ e fun hm => by
    have q : (H b).isSome = true := (List.mem_filter.mp hm).2
    rw [n] at q; simp at q
theorem of_hidT {h : Heap} {H : Hp} {b : Addr} {o : Obj} (e : (hidT h H).get? b = some o) : h.get? b = some o ∧ H b = none := by
  have e' : h.get? b = some o := PySem.W.of_hideAll (trk h H) e
  refine ⟨e', ?_⟩
  cases q : H b with
  | none => rfl
  | some x =>
    have hm : b ∈ trk h H := List.mem_filter.mpr ⟨List.mem_range.mpr (Heap.lt_size e'), by simp [q]⟩
    have z : (hidT h H).get? b = none := PySem.W.hideAll_none (trk h H) hm
    rw [z] at e; cases e

noncomputable def allNews (g h : Heap) (L : Addr) : List (Addr × Obj) := (List.range h.objs.size).filterMap fun a => if a = L ∨ (g.get? a).isSome = true then none else (h.get? a).map fun o => (a, o)
noncomputable def rest (g h : Heap) (L d : Addr) : List (Addr × Obj) := (allNews g h L).filter fun p => decide (p.1 ≠ d)
end L2

namespace L2
open PySem PySem.Spec PyProof.Rows

structure Mod (K : PySem.W.Frag) (mg : Str → Option Value) (base : Heap) : Prop where
  kin : K.In base
  glob : base.Ns mainGlobals mg
  blt : ∃ mb, base.Ns builtinsNs mb ∧ ∀ x : Str, x ≠ "__name__" → mb x = bootBuiltins x
  nolimit : base.NoLimit

structure Cx where
  prog : Program
  w : World
  K : PySem.W.Frag
  mg : Str → Option Value
  base : Heap
  A : Around
  N : List Str
  s₀ : Shared
  H₀ : Hp
  env : Env
  outer : List Env
  stack : List Env
  ex : List Addr
  fn : Str → Bool
  calm : Bool
  pn : List (Addr × Obj)
  xe : Value → Shared → Prop
noncomputable def frs (l : List Env) : List Addr := l.filterMap (·.frame)
noncomputable abbrev Cx.fs (X : Cx) : List Addr := frs X.outer

noncomputable def Vis (sc : Scope) (x : Str) : Prop := sc.names.lookup x = some .local ∨ sc.names.lookup x = some .cell ∨ sc.names.lookup x = some .free
noncomputable def Loc (sc : Scope) (x : Str) : Prop := sc.names.lookup x = some .local ∨ sc.names.lookup x = some .cell
noncomputable def Look (env : Env) (h : Heap) (m : Str → Option Value) (x : Str) (u : Value) : Prop :=
  (env.kindOf x = some .local ∧ m x = some u) ∨ ((env.kindOf x = some .cell ∨ env.kindOf x = some .free) ∧ ∃ c, env.cells.lookup x = some c ∧ h.IsCell c (some u))

structure Cx.Ok (X : Cx) : Prop where
  mod : Mod X.K X.mg X.base
  kind : X.env.scope.kind = .function
  glob : X.env.globals = mainGlobals
  blt : X.env.builtins = builtinsNs
  above : X.s₀.heap.objs.size ≤ X.env.locals
  inj : ∀ x y c, X.env.cells.lookup x = some c → X.env.cells.lookup y = some c → x = y
  has : ∀ x, (X.env.kindOf x = some .cell ∨ X.env.kindOf x = some .free) → ∃ c, X.env.cells.lookup x = some c
  cab : ∀ x c, X.fn x = true → X.env.cells.lookup x = some c → X.s₀.heap.objs.size ≤ c
  hd : X.calm = true → X.A.handled = none
  frames : X.A.frames = some X.stack
  stk : X.stack = X.outer ∨ (X.stack = X.env :: X.outer ∧ X.env.frame = some X.env.locals)
  exf : ∀ b ∈ X.ex, b ≠ X.env.locals ∧ ∀ x c, X.env.cells.lookup x = some c → c ≠ b
  bs : ∀ b o, X.base.get? b = some o → X.s₀.heap.get? b = some o ∧ X.H₀ b = none
  bsz : X.base.objs.size ≤ X.s₀.heap.objs.size
  noex : ∀ b o, X.base.get? b = some o → b ∉ X.ex
  exfs : ∀ b ∈ X.ex, b ∉ X.fs
  funs : X.s₀.heap.FunFrames X.base X.outer
  frf : ∀ b ∈ X.fs, X.H₀ b = none

structure Inv (X : Cx) (pins : List (Addr × Obj)) (σ : List (Option V)) (H : Hp) (s : Shared) : Prop where
  ok : X.Ok
  os : s.os = X.s₀.os
  bare : AllBare s.gens
  base : Un X.fs X.ex X.H₀ H X.s₀.heap s.heap
  loc : ∃ m, s.heap.Ns X.env.locals m ∧ ∀ (i : Nat) (x : Str) (v : V), X.N[i]? = some x → σ[i]? = some (some v) → Vis X.env.scope x → ∃ u, RelV v u ∧ Look X.env s.heap m x u
  cell : ∀ x c, X.env.cells.lookup x = some c → ∃ v, s.heap.IsCell c v
  free : H X.env.locals = none
  freeC : ∀ x c, X.env.cells.lookup x = some c → H c = none
  pin : ∀ p ∈ X.pn ++ pins, s.heap.get? p.1 = some p.2 ∧ H p.1 = none ∧ p.1 ≠ X.env.locals ∧ p.1 ∉ X.fs ∧ ∀ v, p.2.data ≠ .cell v
  hok : HOk X.prog X.w H s.heap
  len : σ.length = X.N.length

section
variable {X : Cx} {pins : List (Addr × Obj)} {σ : List (Option V)} {H H' : Hp} {s : Shared} {h' : Heap}

theorem Cx.Ok.nofr (ok : X.Ok) {b : Addr} {o : Obj} (e : X.base.get? b = some o) : b ∉ X.fs := fun hb => by
  have := (ok.funs.mem hb).1
  rw [e] at this; cases this
theorem Inv.bs (I : Inv X pins σ H s) : ∀ b o, X.base.get? b = some o → s.heap.get? b = some o ∧ H b = none := fun b o e =>
  ⟨I.base.keep b o (I.ok.bs b o e).1 (I.ok.bs b o e).2 (I.ok.nofr e) (I.ok.noex b o e), I.base.free b o (I.ok.bs b o e).1 (I.ok.bs b o e).2 (I.ok.noex b o e)⟩
theorem Inv.bk (I : Inv X pins σ H s) : ∀ b o, X.base.get? b = some o → s.heap.get? b = some o := fun b o e => (I.bs b o e).1
theorem Inv.mod (I : Inv X pins σ H s) : Mod X.K X.mg X.base := I.ok.mod
theorem Inv.kIn (I : Inv X pins σ H s) : X.K.In s.heap := I.ok.mod.kin.keeps I.bk
theorem Inv.nolimit (I : Inv X pins σ H s) : s.heap.NoLimit := I.ok.mod.nolimit.keeps I.bk
theorem Inv.lt (I : Inv X pins σ H s) : X.env.locals < s.heap.objs.size := let ⟨_, hn, _⟩ := I.loc; hn.lt
theorem Inv.sz (I : Inv X pins σ H s) : X.s₀.heap.objs.size ≤ s.heap.objs.size := Nat.le_trans I.ok.above (Nat.le_of_lt I.lt)
theorem Inv.nofs (I : Inv X pins σ H s) {a : Addr} (h : s.heap.objs.size ≤ a) : a ∉ X.fs := fun hb => by
  obtain ⟨_, o, ho, _⟩ := I.ok.funs.mem hb
  exact absurd (Nat.lt_of_lt_of_le (Heap.lt_size ho) (Nat.le_trans I.sz h)) (Nat.lt_irrefl _)
theorem Inv.cne (I : Inv X pins σ H s) : ∀ x c, X.env.cells.lookup x = some c → c ≠ X.env.locals := fun x c e z => by
  obtain ⟨v, o, ho, hd⟩ := I.cell x c e
  obtain ⟨m, ⟨o', es, ep, ho', hd', _⟩, _⟩ := I.loc
  rw [z, ho'] at ho; cases ho; rw [hd'] at hd; cases hd
theorem Inv.funs (I : Inv X pins σ H s) : s.heap.FunFrames X.base X.outer := by
  have all : ∀ (l : List Env), (∀ b ∈ frs l, b ∈ X.fs) → X.s₀.heap.FunFrames X.base l → s.heap.FunFrames X.base l := by
    intro l
    induction l with
    | nil => intro _ _; trivial
    | cons env r ih =>
      intro hs hl
      obtain ⟨hk, ⟨L, o, hf, hn, ho, hd⟩, hr⟩ := hl
      have hL : L ∈ X.fs := hs L (by unfold frs; rw [List.filterMap_cons, hf]; exact List.mem_cons_self)
      obtain ⟨sl, e⟩ := I.base.slot L o ho (I.ok.frf L hL) hL fun z => I.ok.exfs L z hL
      exact ⟨hk, ⟨L, _, hf, hn, e, hd⟩, ih (fun b hb => hs b (by unfold frs; rw [List.filterMap_cons, hf]; exact List.mem_cons_of_mem _ hb)) hr⟩
  exact all X.outer (fun _ hb => hb) I.ok.funs

theorem Inv.stack (I : Inv X pins σ H s) : s.heap.FunFrames X.base X.stack := by
  rcases I.ok.stk with e | ⟨e, hf⟩
  · rw [e]; exact I.funs
  · rw [e]
    obtain ⟨m, hn, _⟩ := I.loc
    refine .cons (by rw [I.ok.kind]; decide) hf hn ?_ I.funs
    exact Heap.get?_none_of_le (Nat.le_trans I.ok.bsz I.ok.above)
theorem Inv.stkSub (I : Inv X pins σ H s) : ∀ b ∈ frs X.stack, b ∈ X.env.locals :: X.fs := fun b hb => by
  rcases I.ok.stk with e | ⟨e, hf⟩
  · rw [e] at hb; exact List.mem_cons_of_mem _ hb
  · rw [e] at hb
    unfold frs at hb
    rw [List.filterMap_cons, hf] at hb
    exact hb
theorem Inv.stkFree (I : Inv X pins σ H s) : ∀ b ∈ frs X.stack, H b = none := fun b hb => by
  rcases List.mem_cons.mp (I.stkSub b hb) with e | hb
  · rw [e]; exact I.free
  · obtain ⟨_, o, ho, _⟩ := I.ok.funs.mem hb
    exact I.base.free b o ho (I.ok.frf b hb) fun z => I.ok.exfs b z hb

theorem Inv.step {g' : Array GenState} {t' : Nat} {d' : Drawn} {ch : List Addr} (I : Inv X pins σ H s)
    (hch : ∀ b ∈ ch, (b ∈ X.ex ∨ X.s₀.heap.objs.size ≤ b) ∧ b ≠ X.env.locals ∧ (∀ x c, X.env.cells.lookup x = some c → c ≠ b) ∧ ∀ p ∈ X.pn ++ pins, p.1 ≠ b)
    (keep : ∀ b o, b ≠ X.env.locals → b ∉ X.fs → b ∉ ch → s.heap.get? b = some o → H b = none → h'.get? b = some o)
    (slot : ∀ b o, b ≠ X.env.locals → b ∈ X.fs → b ∉ ch → s.heap.get? b = some o → H b = none → ∃ sl, h'.get? b = some { o with slots := sl }) (free : ∀ b o, b ∉ ch → s.heap.get? b = some o → H b = none → H' b = none)
    (there : ∀ b o, b ∉ ch → s.heap.get? b = some o → ∃ o', h'.get? b = some o')
    (tups : ∀ b xs, H b = some (.tup xs) → H' b = some (.tup xs)) (frzs : ∀ b o u, H b = some (.frz o u) → H' b = some (.frz o u)) (tbls : ∀ b ps, H b = some (.tbl ps) → ∃ more, H' b = some (.tbl (ps ++ more)))
    (ns : ∀ m, s.heap.Ns X.env.locals m → h'.Ns X.env.locals m) (hok : HOk X.prog X.w H' h') (hg : AllBare g') :
    Inv X pins σ H' { s with heap := h', gens := g', drawn := d', toks := t' } := by
  have neL : ∀ b o, X.s₀.heap.get? b = some o → b ≠ X.env.locals := fun b o e => Nat.ne_of_lt (Nat.lt_of_lt_of_le (Heap.lt_size e) I.ok.above)
  have neC : ∀ b o, X.s₀.heap.get? b = some o → b ∉ X.ex → b ∉ ch := fun b o e hx hb => by
    rcases (hch b hb).1 with z | z
    · exact hx z
    · exact absurd (Nat.lt_of_lt_of_le (Heap.lt_size e) z) (Nat.lt_irrefl _)
  have cellK : ∀ x c, X.env.cells.lookup x = some c → ∀ v, s.heap.IsCell c v → h'.IsCell c v := fun x c e v ⟨o, ho, hd⟩ => by
    have nch : c ∉ ch := fun z => (hch c z).2.2.1 x c e rfl
    by_cases hc : c ∈ X.fs
    · obtain ⟨sl, q⟩ := slot c o (I.cne x c e) hc nch ho (I.freeC x c e)
      exact ⟨_, q, hd⟩
    · exact ⟨o, keep c o (I.cne x c e) hc nch ho (I.freeC x c e), hd⟩
  refine ⟨I.ok, I.os, hg, ⟨fun b o e n hb hx => ?_, fun b o e n hb hx => ?_, fun b o e n hx => ?_, fun b o e hx => ?_, fun b xs e => tups b xs (I.base.tups b xs e), fun b o xs e => frzs b o xs (I.base.frzs b o xs e), fun b ps e => ?_⟩, ?_, fun x c e => ?_, ?_, fun x c e => ?_, fun p hp => ?_, hok, I.len⟩
  · exact keep b o (neL b o e) hb (neC b o e hx) (I.base.keep b o e n hb hx) (I.base.free b o e n hx)
  · obtain ⟨sl, e1⟩ := I.base.slot b o e n hb hx
    obtain ⟨sl', e2⟩ := slot b _ (neL b o e) hb (neC b o e hx) e1 (I.base.free b o e n hx)
    exact ⟨sl', e2⟩
  · obtain ⟨o', e1⟩ := I.base.there b o e hx
    exact free b o' (neC b o e hx) e1 (I.base.free b o e n hx)
  · obtain ⟨o', e1⟩ := I.base.there b o e hx
    exact there b o' (neC b o e hx) e1
  · obtain ⟨m1, e1⟩ := I.base.tbls b ps e
    obtain ⟨m2, e2⟩ := tbls b _ e1
    exact ⟨m1 ++ m2, by rw [e2, Array.append_assoc]⟩
  · obtain ⟨m, hn, hl⟩ := I.loc
    refine ⟨m, ns m hn, fun i x v e1 e2 e3 => ?_⟩
    obtain ⟨u, r, l⟩ := hl i x v e1 e2 e3
    refine ⟨u, r, ?_⟩
    rcases l with l | ⟨k, c, e, z⟩
    · exact .inl l
    · exact .inr ⟨k, c, e, cellK x c e _ z⟩
  · obtain ⟨v, z⟩ := I.cell x c e
    exact ⟨v, cellK x c e v z⟩
  · obtain ⟨m, ⟨o, _, _, ho, _⟩, _⟩ := I.loc
    exact free _ o (fun z => (hch _ z).2.1 rfl) ho I.free
  · obtain ⟨v, o, ho, hd⟩ := I.cell x c e
    exact free c o (fun z => (hch c z).2.2.1 x c e rfl) ho (I.freeC x c e)
  · obtain ⟨e, n, ne, nf, d⟩ := I.pin p hp
    have nch : p.1 ∉ ch := fun z => (hch p.1 z).2.2.2 p hp rfl
    exact ⟨keep p.1 p.2 ne nf nch e n, free p.1 p.2 nch e n, ne, nf, d⟩
theorem Inv.un {t' : Nat} (I : Inv X pins σ H s) (u : Un X.fs [] H H' s.heap h') (hok : HOk X.prog X.w H' h') : Inv X pins σ H' { s with heap := h', toks := t' } := by
  obtain ⟨m, ⟨o, es, ep, ho, r⟩, _⟩ := id I.loc
  obtain ⟨sl, hL⟩ := u.any ho I.free (by simp)
  exact I.step (g' := s.gens) (d' := s.drawn) (ch := []) (fun _ z => nomatch z) (fun b o _ hb _ e n => u.keep b o e n hb (by simp)) (fun b o _ hb _ e n => u.slot b o e n hb (by simp)) (fun b o _ e n => u.free b o e n (by simp)) (fun b o _ e => u.there b o e (by simp)) u.tups u.frzs u.tbls (fun m' hm => by
    obtain ⟨o', es', ep', ho', r'⟩ := hm
    rw [ho] at ho'; cases ho'
    exact ⟨_, es', ep', hL, r'⟩) hok I.bare
theorem Inv.call {g' : Array GenState} {t' : Nat} {d' : Drawn} {ch : List Addr} (I : Inv X pins σ H s) (u : Un (frs X.stack) ch H H' s.heap h') (hok : HOk X.prog X.w H' h') (hg : AllBare g')
    (hch : ∀ b ∈ ch, (b ∈ X.ex ∨ X.s₀.heap.objs.size ≤ b) ∧ b ≠ X.env.locals ∧ (∀ x c, X.env.cells.lookup x = some c → c ≠ b) ∧ ∀ p ∈ X.pn ++ pins, p.1 ≠ b) :
    Inv X pins σ H' { s with heap := h', gens := g', drawn := d', toks := t' } := by
  obtain ⟨m, ⟨o, es, ep, ho, r⟩, _⟩ := id I.loc
  obtain ⟨sl, hL⟩ := u.any ho I.free fun z => (hch _ z).2.1 rfl
  exact I.step (ch := ch) hch (fun b o hL hb hc e n => u.keep b o e n (fun z => (List.mem_cons.mp (I.stkSub b z)).elim hL hb) hc) (fun b o _ _ hc e n => u.any e n hc) (fun b o hc e n => u.free b o e n hc) (fun b o hc e => u.there b o e hc) u.tups u.frzs u.tbls (fun m' hm => by
    obtain ⟨o', es', ep', ho', r'⟩ := hm
    rw [ho] at ho'; cases ho'
    exact ⟨_, es', ep', hL, r'⟩) hok hg
theorem Inv.turned {t' : Nat} {it : Addr} (I : Inv X pins σ H s) (k : ∀ b o, b ≠ it → s.heap.get? b = some o → h'.get? b = some o) (hn : H it = none) (hL : it ≠ X.env.locals)
    (h1 : it ∈ X.ex ∨ X.s₀.heap.objs.size ≤ it) (h2 : ∀ x c, X.env.cells.lookup x = some c → c ≠ it) (h3 : ∀ p ∈ X.pn ++ pins, p.1 ≠ it) : Inv X pins σ H { s with heap := h', toks := t' } := by
  have nit : ∀ b u, H b = some u → b ≠ it := fun b u e z => by rw [z, hn] at e; cases e
  refine I.step (g' := s.gens) (d' := s.drawn) (ch := [it]) (fun b hb => ?_) (fun b o _ _ hc e _ => k b o (fun z => hc (by simp [z])) e) (fun b o _ _ hc e _ => ⟨o.slots, k b o (fun z => hc (by simp [z])) e⟩) (fun _ _ _ _ n => n)
    (fun b o hc e => ⟨o, k b o (fun z => hc (by simp [z])) e⟩) (fun _ _ e => e) (fun _ _ _ e => e) (fun b ps e => ⟨#[], by rw [e]; simp⟩) (fun m hm => ?_) (fun b u e => ?_) I.bare
  · have e : b = it := by simpa using hb
    subst e
    exact ⟨h1, hL, h2, h3⟩
  · obtain ⟨o, es, ep, ho, r⟩ := hm
    exact ⟨o, es, ep, k _ o (Ne.symm hL) ho, r⟩
  · refine (I.hok b u e).stay (fun c v hc q => k c v ?_ q) (fun _ q => q) fun _ _ q => q
    rcases hc with z | z
    · rw [z]; exact nit b u e
    · exact nit c _ z
theorem Inv.tok (I : Inv X pins σ H s) (t : Nat) : Inv X pins σ H { s with toks := t } := I.un (h' := s.heap) (t' := t) Un.refl I.hok
theorem Inv.kept {t' : Nat} (I : Inv X pins σ H s) (k : ∀ b u, s.heap.get? b = some u → h'.get? b = some u) : Inv X pins σ H { s with heap := h', toks := t' } := I.un (Un.kept k) (I.hok.kept k)
theorem Inv.laid {a : Addr} {o : HO} {t' : Nat} (I : Inv X pins σ H s) (k : ∀ b u, s.heap.get? b = some u → h'.get? b = some u) (hp : s.heap.objs.size ≤ a) (new : ObjOk X.prog X.w (upd H a o) h' a o) :
    Inv X pins σ (upd H a o) { s with heap := h', toks := t' } := I.un (Un.laid k hp (I.hok.fresh hp)) (I.hok.laid k hp new)
theorem Inv.write {x e : Addr} {o : HO} {t' : Nat} (I : Inv X pins σ H s) (mu : Mut (H x)) (he : e = x ∨ H e = some (.own x)) (k : ∀ b u, b ≠ e → s.heap.get? b = some u → h'.get? b = some u) (heo : ∃ u, h'.get? e = some u)
    (new : ObjOk X.prog X.w (upd H x o) h' x o) : Inv X pins σ (upd H x o) { s with heap := h', toks := t' } := I.un (Un.write mu he k heo) (I.hok.write mu he k heo new)
theorem Inv.pins_of {pins' : List (Addr × Obj)} (I : Inv X pins σ H s) (h : ∀ p ∈ pins', s.heap.get? p.1 = some p.2 ∧ H p.1 = none ∧ p.1 ≠ X.env.locals ∧ p.1 ∉ X.fs ∧ ∀ v, p.2.data ≠ .cell v) : Inv X pins' σ H s :=
  ⟨I.ok, I.os, I.bare, I.base, I.loc, I.cell, I.free, I.freeC, fun p hp => (List.mem_append.mp hp).elim (fun z => I.pin p (List.mem_append_left _ z)) (h p), I.hok, I.len⟩

theorem nodup_ix {N : List Str} (hN : N.Nodup) {i j : Nat} {x : Str} (a : N[i]? = some x) (b : N[j]? = some x) : i = j := by
  obtain ⟨h1, e1⟩ := List.getElem?_eq_some_iff.mp a
  obtain ⟨h2, e2⟩ := List.getElem?_eq_some_iff.mp b
  exact (List.getElem_inj hN).mp (e1.trans e2.symm)

theorem store_ok2 {M : Model} {A : Around} {E : Value → Shared → Prop} {i : Nat} {x : Str} {v : V} {u : Value} {Q : Unit → Shared → Prop} (I : Inv X pins σ H s) (hN : X.N.Nodup) (hi : X.N[i]? = some x) (hx : Loc X.env.scope x) (r : RelV v u)
    (h : ∀ s', Inv X pins (σ.set i (some v)) H s' → (∃ a, Heap.SameBut a s.heap s'.heap ∧ (a = X.env.locals ∨ X.env.cells.lookup x = some a)) → Q () s') (hf : X.fn x = true ∨ X.env.scope.names.lookup x = some .local := by first | exact .inl rfl | exact .inr rfl | assumption) : wpAny M A (storeName X.env x u) Q E s := by
  obtain ⟨m, hn, hl⟩ := id I.loc
  have hcls : (X.env.scope.kind == .class || (X.env.scope.kind == .module && X.env.locals != X.env.globals)) = false := by rw [I.ok.kind]; rfl
  have hiσ : i < σ.length := by rw [I.len]; exact (List.getElem?_eq_some_iff.mp hi).1
  have cne := I.cne
  have tracked : ∀ {a : Addr} {h' : Heap}, (∃ o, s.heap.get? a = some o ∧ H a = none) → Heap.SameBut a s.heap h' → HOk X.prog X.w H h' := fun {a h'} ha hs b ob e => by
    obtain ⟨_, _, hfree⟩ := ha
    refine (I.hok b ob e).stay (fun c w' hc q => (hs.2 c ?_).trans q) (fun _ q => q) fun _ _ q => q
    rintro rfl
    rcases hc with rfl | hc
    · rw [hfree] at e; cases e
    · rw [hfree] at hc; cases hc
  rcases hx with hk | hk
  · refine wpAny_storeName_local hk hn (fun h' hn' hs => ?_) hcls
    obtain ⟨oL, _, _, hoL, _⟩ := id hn
    refine h _ ⟨I.ok, I.os, I.bare, ⟨fun b o e n hb hx => ?_, fun b o e n hb hx => ?_, I.base.free, fun b o e hx => ?_, I.base.tups, I.base.frzs, I.base.tbls⟩, ⟨_, hn', fun j y v' e1 e2 e3 => ?_⟩, fun y c e => ?_, I.free, I.freeC, fun p hp => ?_, tracked ⟨oL, hoL, I.free⟩ hs, by simpa using I.len⟩ ⟨_, hs, .inl rfl⟩
    · exact (hs.2 b (Nat.ne_of_lt (Nat.lt_of_lt_of_le (Heap.lt_size e) I.ok.above))).trans (I.base.keep b o e n hb hx)
    · obtain ⟨sl, e1⟩ := I.base.slot b o e n hb hx
      exact ⟨sl, (hs.2 b (Nat.ne_of_lt (Nat.lt_of_lt_of_le (Heap.lt_size e) I.ok.above))).trans e1⟩
    · obtain ⟨o', e1⟩ := I.base.there b o e hx
      exact ⟨o', (hs.2 b (Nat.ne_of_lt (Nat.lt_of_lt_of_le (Heap.lt_size e) I.ok.above))).trans e1⟩
    · by_cases hj : j = i
      · subst hj
        rw [hi] at e1; cases e1
        rw [List.getElem?_set_self hiσ] at e2
        cases e2
        exact ⟨u, r, .inl ⟨hk, by simp⟩⟩
      · rw [List.getElem?_set_ne (Ne.symm hj)] at e2
        obtain ⟨u', r', q⟩ := hl j y v' e1 e2 e3
        refine ⟨u', r', ?_⟩
        rcases q with ⟨k, e⟩ | ⟨k, c, e, z⟩
        · refine .inl ⟨k, ?_⟩
          have : y ≠ x := fun e => hj (nodup_ix hN e1 (e ▸ hi))
          simp [this, e]
        · exact .inr ⟨k, c, e, z.sameBut hs (cne y c e)⟩
    · obtain ⟨w', z⟩ := I.cell y c e
      exact ⟨w', z.sameBut hs (cne y c e)⟩
    · obtain ⟨e, n, ne, nf, d⟩ := I.pin p hp
      exact ⟨(hs.2 p.1 ne).trans e, n, ne, nf, d⟩
  · have hfn : X.fn x = true := by
      rcases hf with z | z
      · exact z
      · rw [z] at hk; cases hk
    obtain ⟨c, hc⟩ := I.ok.has x (.inl hk)
    obtain ⟨w', z⟩ := I.cell x c hc
    refine wpAny_storeName_cell I.ok.kind hk hc z (fun h' hc' hs => ?_)
    obtain ⟨oc, hoc, hocd⟩ := id z
    refine h { s with heap := h' } ⟨I.ok, I.os, I.bare, ⟨fun b o e n hb hx => ?_, fun b o e n hb hx => ?_, I.base.free, fun b o e hx => ?_, I.base.tups, I.base.frzs, I.base.tbls⟩, ⟨m, hn.sameBut hs (Ne.symm (cne x c hc)), fun j y v' e1 e2 e3 => ?_⟩, fun y c' e => ?_, I.free, I.freeC, fun p hp => ?_, tracked ⟨oc, hoc, I.freeC x c hc⟩ hs, by simpa using I.len⟩ ⟨c, hs, .inr hc⟩
    · exact (hs.2 b (Nat.ne_of_lt (Nat.lt_of_lt_of_le (Heap.lt_size e) (I.ok.cab x c hfn hc)))).trans (I.base.keep b o e n hb hx)
    · obtain ⟨sl, e1⟩ := I.base.slot b o e n hb hx
      exact ⟨sl, (hs.2 b (Nat.ne_of_lt (Nat.lt_of_lt_of_le (Heap.lt_size e) (I.ok.cab x c hfn hc)))).trans e1⟩
    · obtain ⟨o', e1⟩ := I.base.there b o e hx
      exact ⟨o', (hs.2 b (Nat.ne_of_lt (Nat.lt_of_lt_of_le (Heap.lt_size e) (I.ok.cab x c hfn hc)))).trans e1⟩
    · by_cases hj : j = i
      · subst hj
        rw [hi] at e1; cases e1
        rw [List.getElem?_set_self hiσ] at e2
        cases e2
        exact ⟨u, r, .inr ⟨.inl hk, c, hc, hc'⟩⟩
      · rw [List.getElem?_set_ne (Ne.symm hj)] at e2
        obtain ⟨u', r', q⟩ := hl j y v' e1 e2 e3
        refine ⟨u', r', ?_⟩
        rcases q with q | ⟨k, c', e, z'⟩
        · exact .inl q
        · refine .inr ⟨k, c', e, z'.sameBut hs ?_⟩
          rintro rfl
          exact hj (nodup_ix hN e1 (I.ok.inj _ _ _ e hc ▸ hi))
    · by_cases hcc : c' = c
      · subst hcc; exact ⟨_, hc'⟩
      · obtain ⟨w2, z2⟩ := I.cell y c' e
        exact ⟨w2, z2.sameBut hs hcc⟩
    · obtain ⟨e, n, ne, nf, d⟩ := I.pin p hp
      refine ⟨(hs.2 p.1 ?_).trans e, n, ne, nf, d⟩
      intro q
      rw [q, hoc] at e
      have q' : oc = p.2 := Option.some.inj e
      exact d w' (by rw [← q']; exact hocd)
theorem store_ok {M : Model} {A : Around} {E : Value → Shared → Prop} {i : Nat} {x : Str} {v : V} {u : Value} {Q : Unit → Shared → Prop} (I : Inv X pins σ H s) (hN : X.N.Nodup) (hi : X.N[i]? = some x) (hx : Loc X.env.scope x) (r : RelV v u)
    (h : ∀ s', Inv X pins (σ.set i (some v)) H s' → Q () s') (hf : X.fn x = true ∨ X.env.scope.names.lookup x = some .local := by first | exact .inl rfl | exact .inr rfl | assumption) : wpAny M A (storeName X.env x u) Q E s :=
  store_ok2 I hN hi hx r (fun s' I' _ => h s' I') hf
theorem Inv.call' {s' : Shared} {ch : List Addr} (I : Inv X pins σ H s) (ho : s'.os = s.os) (u : Un (frs X.stack) ch H H' s.heap s'.heap) (hok : HOk X.prog X.w H' s'.heap) (hg : AllBare s'.gens)
    (hch : ∀ b ∈ ch, (b ∈ X.ex ∨ X.s₀.heap.objs.size ≤ b) ∧ b ≠ X.env.locals ∧ (∀ x c, X.env.cells.lookup x = some c → c ≠ b) ∧ ∀ p ∈ X.pn ++ pins, p.1 ≠ b) : Inv X pins σ H' s' := by
  obtain ⟨h', g', d', t', o'⟩ := s'
  have e : o' = s.os := ho
  subst e
  exact I.call (g' := g') (t' := t') (d' := d') u hok hg hch
end

noncomputable abbrev XK := Value → Option Addr → Hp → Prop
noncomputable abbrev St := List (Option V)
noncomputable abbrev VK := V → Hp → Prop
noncomputable abbrev TE := St → Hp → VK → Prop
noncomputable abbrev TT := St → Hp → (Bool → Hp → Prop) → Prop
noncomputable abbrev TA := St → Hp → (List V → Hp → Prop) → Prop
structure Ends where
  nx : St → Hp → Prop
  rt : VK
  bk : St → Hp → Prop := fun _ _ => False
  ct : St → Hp → Prop := fun _ _ => False
noncomputable abbrev TS := Ends → St → Hp → Prop

noncomputable def EP (X : Cx) (pins : List (Addr × Obj)) (σ : St) (Q : VK) (u : Value) (s' : Shared) : Prop := ∃ v H', Inv X pins σ H' s' ∧ RelV v u ∧ Q v H'
noncomputable def TP (X : Cx) (pins : List (Addr × Obj)) (σ : St) (Q : Bool → Hp → Prop) (b : Bool) (s' : Shared) : Prop := ∃ H', Inv X pins σ H' s' ∧ Q b H'
noncomputable def AP (X : Cx) (pins : List (Addr × Obj)) (σ : St) (Q : List V → Hp → Prop) (us : List Value) (s' : Shared) : Prop := ∃ vs H', Inv X pins σ H' s' ∧ Vals vs us ∧ Q vs H'
noncomputable def SP (X : Cx) (pins : List (Addr × Obj)) (D : Ends) (f : Flow) (s' : Shared) : Prop :=
  match f with
  | .next => ∃ σ' H', Inv X pins σ' H' s' ∧ D.nx σ' H'
  | .brk => ∃ σ' H', Inv X pins σ' H' s' ∧ D.bk σ' H'
  | .cont => ∃ σ' H', Inv X pins σ' H' s' ∧ D.ct σ' H'
  | .ret u => ∃ v σ' H', Inv X pins σ' H' s' ∧ RelV v u ∧ D.rt v H'

noncomputable def PE (X : Cx) (e : Expr) (t : TE) : Prop :=
  ∀ (pins : List (Addr × Obj)) (s : Shared) (σ : St) (H : Hp) (Q : VK), Inv X pins σ H s → t σ H Q → wpAny (model X.prog X.w) X.A (eval e X.env) (EP X pins σ Q) X.xe s
noncomputable def PT (X : Cx) (e : Expr) (t : TT) : Prop :=
  ∀ (pins : List (Addr × Obj)) (s : Shared) (σ : St) (H : Hp) (Q : Bool → Hp → Prop), Inv X pins σ H s → t σ H Q → wpAny (model X.prog X.w) X.A (isTrue e X.env (eval e X.env)) (TP X pins σ Q) X.xe s
noncomputable def PW (X : Cx) (e : Expr) (t : TT) : Prop :=
  ∀ (whole : Sem Value) (pins : List (Addr × Obj)) (s : Shared) (σ : St) (H : Hp) (Q : Bool → Hp → Prop), Inv X pins σ H s → t σ H Q → wpAny (model X.prog X.w) X.A (isTrue e X.env whole) (TP X pins σ Q) X.xe s
theorem PW.pt {X : Cx} {e : Expr} {t : TT} (h : PW X e t) : PT X e t := h _
noncomputable def PA (X : Cx) (es : List Expr) (t : TA) : Prop :=
  ∀ (pos : Pos) (pins : List (Addr × Obj)) (s : Shared) (σ : St) (H : Hp) (Q : List V → Hp → Prop), Inv X pins σ H s → t σ H Q → wpAny (model X.prog X.w) X.A (spliced (backTo pos (starEach es X.env))) (AP X pins σ Q) X.xe s
noncomputable def PS (X : Cx) (st : Stmt) (t : TS) : Prop :=
  ∀ (pins : List (Addr × Obj)) (s : Shared) (σ : St) (H : Hp) (D : Ends), Inv X pins σ H s → t D σ H → wpAny (model X.prog X.w) X.A (exec st X.env) (SP X pins D) X.xe s
noncomputable def PSs (X : Cx) (st : List Stmt) (t : TS) : Prop :=
  ∀ (pins : List (Addr × Obj)) (s : Shared) (σ : St) (H : Hp) (D : Ends), Inv X pins σ H s → t D σ H → wpAny (model X.prog X.w) X.A (execs st X.env) (SP X pins D) X.xe s
theorem thn {α : Type} {t : Sem α} {Q Q' : α → Shared → Prop} {M : Model} {A : Around} {E : Value → Shared → Prop} {s : Shared} (h : wpAny M A t Q E s) (hQ : ∀ a s, Q a s → Q' a s) : wpAny M A t Q' E s := wpAny_mono h hQ fun _ _ x => x
end L2

namespace L2
open PySem PySem.Spec PyProof.Rows
section
variable {X : Cx}

noncomputable def tVar (i : Nat) : TE := fun σ H Q => ∃ v, σ[i]? = some (some v) ∧ Q v H
noncomputable def tC (v : V) : TE := fun _ H Q => Q v H
theorem pe_var {i : Nat} {x : Str} {pos : Pos} (hN : X.N[i]? = some x) (hv : Vis X.env.scope x) (hd : (x == ("__debug__" : Str)) = false := by decide) (hcd : (x == ("__classdict__" : Str)) = false := by decide) : PE X (.Name x pos) (tVar i) := by
  intro pins s σ H Q I h
  obtain ⟨v, e, h⟩ := h
  obtain ⟨m, hn, hl⟩ := I.loc
  obtain ⟨u, r, l⟩ := hl i x v hN e hv
  have fin : EP X pins σ Q u s := ⟨v, H, I, r, h⟩
  rcases l with ⟨hk, hm⟩ | ⟨hk, c, hc, hcell⟩
  · exact wpAny_Name (wpAny_loadName_local I.ok.kind hk hn hm fin) hd
  · rcases hk with hk | hk
    · exact wpAny_Name (wpAny_loadName_cell I.ok.kind hk hc hcell fin) hd
    · exact wpAny_Name (wpAny_loadName_free I.ok.kind hk hc hcell fin hcd) hd
theorem pe_int {i j pos} : PE X (.Constant (.int i) j pos) (tC (.int i)) := fun _ _ _ H _ I h => wpAny_Constant_int ⟨.int i, H, I.tok _, ⟨_, rfl⟩, h⟩
theorem pe_bl {b j pos} : PE X (.Constant (.bool b) j pos) (tC (.bl b)) := fun _ _ _ H _ I h => Constant_bool ⟨.bl b, H, I, rfl, h⟩
theorem pe_non {j pos} : PE X (.Constant .none j pos) (tC .non) := fun _ _ _ H _ I h => Constant_none ⟨.non, H, I, rfl, h⟩
theorem pe_str {x j pos} : PE X (.Constant (.str x) j pos) (tC (.str x)) := fun _ _ _ H _ I h => Calls.Constant_str ⟨.str x, H, I.tok _, ⟨_, rfl⟩, h⟩

noncomputable def Gl (X : Cx) (x : Str) : Prop := X.env.kindOf x = some .globalImplicit
theorem ld_glob {E : Value → Shared → Prop} {pins : List (Addr × Obj)} {s : Shared} {σ : St} {H : Hp} {x : Str} {u : Value} {pos : Pos} {Q : Value → Shared → Prop} (I : Inv X pins σ H s) (hg : Gl X x) (hm : X.mg x = some u) (h : Q u s)
    (hd : (x == ("__debug__" : Str)) = false := by decide) : wpAny (model X.prog X.w) X.A (eval (.Name x pos) X.env) Q E s :=
  Calls.Name_function_global I.ok.kind hg (Calls.loadGlobal_global (by rw [I.ok.glob]; exact I.mod.glob.keeps I.bk) hm h) hd
theorem ld_blt {E : Value → Shared → Prop} {pins : List (Addr × Obj)} {s : Shared} {σ : St} {H : Hp} {x : Str} {u : Value} {pos : Pos} {Q : Value → Shared → Prop} (I : Inv X pins σ H s) (hg : Gl X x) (hm : X.mg x = none) (hv : bootBuiltins x = some u) (h : Q u s)
    (hn : x ≠ "__name__" := by decide) (hd : (x == ("__debug__" : Str)) = false := by decide) : wpAny (model X.prog X.w) X.A (eval (.Name x pos) X.env) Q E s := by
  obtain ⟨mb, h1, h2⟩ := I.mod.blt
  exact Calls.Name_function_global I.ok.kind hg (Calls.loadGlobal_builtin (by rw [I.ok.glob]; exact I.mod.glob.keeps I.bk) hm (by rw [I.ok.blt]; exact h1.keeps I.bk) ((h2 x hn).trans hv) h) hd
theorem pe_glob {x : Str} {v : V} {u : Value} {pos : Pos} (hg : Gl X x) (hm : X.mg x = some u) (r : RelV v u) (hd : (x == ("__debug__" : Str)) = false := by decide) : PE X (.Name x pos) (tC v) :=
  fun _ _ _ H _ I h => ld_glob I hg hm ⟨v, H, I, r, h⟩ hd
theorem pe_bltn {x : Str} {v : V} {u : Value} {pos : Pos} (hg : Gl X x) (hm : X.mg x = none) (hv : bootBuiltins x = some u) (r : RelV v u) (hn : x ≠ "__name__" := by decide) (hd : (x == ("__debug__" : Str)) = false := by decide) : PE X (.Name x pos) (tC v) :=
  fun _ _ _ H _ I h => ld_blt I hg hm hv ⟨v, H, I, r, h⟩ hn hd

variable {a b : Expr} {ta tb : TE} {pos : Pos}
noncomputable def tB (t : TE) : TT := fun σ H Q => t σ H fun x H1 => ∃ c, x = .bl c ∧ Q c H1
theorem pt_val {e : Expr} {t : TE} (h : PE X e t) (he : ∀ whole, isTrue e X.env whole = (do let v ← whole; standAt e.pos; holding [v] (truthy v)) := by intro _; rfl) : PT X e (tB t) := by
  intro pins s σ H Q I hw
  refine isTrue_plain (thn (h pins s σ H _ I hw) fun v s1 ⟨x, H1, I1, r1, q1⟩ => ?_) (he _)
  obtain ⟨d, rfl, q⟩ := q1
  cases r1
  exact wpAny_truthy_bool ⟨H1, I1, q⟩

variable {tA tB' : TT} {rest : List Expr}
noncomputable def tAnd (t u : TT) : TT := fun σ H Q => t σ H fun c H1 => if c = true then u σ H1 Q else Q false H1
noncomputable def tOr (t u : TT) : TT := fun σ H Q => t σ H fun c H1 => if c = true then Q true H1 else u σ H1 Q
noncomputable def tNot (t : TT) : TT := fun σ H Q => t σ H fun c H1 => Q (!c) H1
theorem pw_and1 (ha : PT X a tA) : PW X (.BoolOp .And [a] pos) tA := by
  intro wh pins s σ H Q I h
  refine isTrue_and (thn (ha pins s σ H Q I h) fun c s1 e => ?_)
  cases c with
  | true => exact isTrue_and_nil e
  | false => exact e
theorem pw_or1 (ha : PT X a tA) : PW X (.BoolOp .Or [a] pos) tA := by
  intro wh pins s σ H Q I h
  refine isTrue_or (thn (ha pins s σ H Q I h) fun c s1 e => ?_)
  cases c with
  | false => exact isTrue_or_nil e
  | true => exact e
theorem pw_and (ha : PT X a tA) (hb : PW X (.BoolOp .And (b :: rest) pos) tB') : PW X (.BoolOp .And (a :: b :: rest) pos) (tAnd tA tB') := by
  intro wh pins s σ H Q I h
  refine isTrue_and (thn (ha pins s σ H _ I h) fun c s1 ⟨H1, I1, q1⟩ => ?_)
  cases c with
  | true => exact hb wh pins s1 σ H1 Q I1 q1
  | false => exact ⟨H1, I1, q1⟩
theorem pw_or (ha : PT X a tA) (hb : PW X (.BoolOp .Or (b :: rest) pos) tB') : PW X (.BoolOp .Or (a :: b :: rest) pos) (tOr tA tB') := by
  intro wh pins s σ H Q I h
  refine isTrue_or (thn (ha pins s σ H _ I h) fun c s1 ⟨H1, I1, q1⟩ => ?_)
  cases c with
  | true => exact ⟨H1, I1, q1⟩
  | false => exact hb wh pins s1 σ H1 Q I1 q1
theorem pt_not (ha : PT X a tA) : PT X (.UnaryOp .Not a pos) (tNot tA) := by
  intro pins s σ H Q I h
  exact isTrue_not (ha pins s σ H (fun c H1 => Q (!c) H1) I h)
noncomputable def tAndV (ta tb : TE) : TE := fun σ H Q => ta σ H fun x H1 => ∃ c, x = .bl c ∧ if c = true then tb σ H1 Q else Q (.bl false) H1
noncomputable def tOrV (ta tb : TE) : TE := fun σ H Q => ta σ H fun x H1 => ∃ c, x = .bl c ∧ if c = true then Q (.bl true) H1 else tb σ H1 Q
noncomputable def tNotV (ta : TE) : TE := fun σ H Q => ta σ H fun x H1 => ∃ c, x = .bl c ∧ Q (.bl (!c)) H1
theorem pe_one {op} {t : TE} (h : PE X a t) : PE X (.BoolOp op [a] pos) t := fun pins s σ H Q I hw => BoolOp_one (h pins s σ H Q I hw)
theorem pe_and (ha : PE X a ta) (hb : PE X (.BoolOp .And (b :: rest) pos) tb) : PE X (.BoolOp .And (a :: b :: rest) pos) (tAndV ta tb) := by
  intro pins s σ H Q I h
  refine BoolOp_and (thn (ha pins s σ H _ I h) fun v s1 ⟨x, H1, I1, r1, q1⟩ => ?_)
  obtain ⟨c, rfl, q1⟩ := q1
  cases r1
  refine wpAny_truthy_bool ?_
  cases c with
  | true => exact hb pins s1 σ H1 Q I1 q1
  | false => exact ⟨.bl false, H1, I1, rfl, q1⟩
theorem pe_or (ha : PE X a ta) (hb : PE X (.BoolOp .Or (b :: rest) pos) tb) : PE X (.BoolOp .Or (a :: b :: rest) pos) (tOrV ta tb) := by
  intro pins s σ H Q I h
  refine BoolOp_or (thn (ha pins s σ H _ I h) fun v s1 ⟨x, H1, I1, r1, q1⟩ => ?_)
  obtain ⟨c, rfl, q1⟩ := q1
  cases r1
  refine wpAny_truthy_bool ?_
  cases c with
  | false => exact hb pins s1 σ H1 Q I1 q1
  | true => exact ⟨.bl true, H1, I1, rfl, q1⟩
theorem pe_not (ha : PE X a ta) : PE X (.UnaryOp .Not a pos) (tNotV ta) := by
  intro pins s σ H Q I h
  refine UnaryOp_ (thn (ha pins s σ H _ I h) fun v s1 ⟨x, H1, I1, r1, q1⟩ => ?_)
  obtain ⟨c, rfl, q1⟩ := q1
  cases r1
  exact not_of (wpAny_truthy_bool ⟨.bl (!c), H1, I1, rfl, q1⟩)
noncomputable def tIf (t : TT) (ta tb : TE) : TE := fun σ H Q => t σ H fun c H1 => if c = true then ta σ H1 Q else tb σ H1 Q
theorem pe_ifExp {c : Expr} (hc : PT X c tA) (ha : PE X a ta) (hb : PE X b tb) : PE X (.IfExp c a b pos) (tIf tA ta tb) := by
  intro pins s σ H Q I h
  refine wpAny_IfExp (thn (hc pins s σ H _ I h) fun d s1 ⟨H1, I1, q1⟩ => ?_)
  cases d with
  | true => exact ha pins s1 σ H1 Q I1 q1
  | false => exact hb pins s1 σ H1 Q I1 q1
end
end L2

namespace L2
open PySem PySem.Spec PyProof.Rows

noncomputable def SqL (K : PySem.W.Frag) (H : Hp) (a : Addr) (xs : List V) : Prop :=
  Rd H a (.lst xs) ∨
    ∃ (o : Obj) (its : Array Value) (n : Nat), K.lookup a = some o ∧ o.cls = .type "list" ∧ o.dict = none ∧ o.data = .seq its n ∧ its.size ≤ sizeLine ∧ Vals xs its.toList
noncomputable def SqT (K : PySem.W.Frag) (H : Hp) (a : Addr) (xs : List V) : Prop :=
  Rd H a (.tup xs) ∨
    ∃ (o : Obj) (its : Array Value) (n : Nat), K.lookup a = some o ∧ o.cls = .type "tuple" ∧ o.data = .seq its n ∧ its.size ≤ sizeLine ∧ Vals xs its.toList
noncomputable def absV : Value → Option V
  | .none => some .non
  | .bool b => some (.bl b)
  | .int i _ => some (.int i)
  | .str x _ => some (.str x)
  | .bytes b _ => some (.byt b)
  | .float b _ => some (.flt b)
  | .ref a => some (.ref a)
  | .type n => some (.ty n)
  | _ => none
theorem RelV.abs {x : V} {u : Value} (r : RelV x u) : absV u = some x := by
  cases x with
  | non => cases r; rfl
  | bl _ => cases r; rfl
  | int _ => obtain ⟨t, rfl⟩ := r; rfl
  | str _ => obtain ⟨t, rfl⟩ := r; rfl
  | byt _ => obtain ⟨t, rfl⟩ := r; rfl
  | flt _ => obtain ⟨t, rfl⟩ := r; rfl
  | ref _ => cases r; rfl
  | ty _ => cases r; rfl
theorem RelV.inj {x y : V} {u : Value} (r : RelV x u) (q : RelV y u) : x = y := Option.some.inj (r.abs.symm.trans q.abs)
theorem Vals.inj : ∀ {xs ys : List V} {us : List Value}, Vals xs us → Vals ys us → xs = ys
  | _, _, _, .nil, .nil => rfl
  | _, _, _, .cons r t, .cons r' t' => by rw [r.inj r', Vals.inj t t']
section
variable {X : Cx} {pins : List (Addr × Obj)} {σ : St} {H : Hp} {s : Shared} {a : Addr} {xs ys : List V}
theorem SqL.of {K : PySem.W.Frag} (h : H a = some (.lst xs)) : SqL K H a xs := .inl (.inl h)
theorem SqT.of {K : PySem.W.Frag} (h : H a = some (.tup xs)) : SqT K H a xs := .inl (.inl h)
theorem Inv.list (I : Inv X pins σ H s) (h : SqL X.K H a xs) : ∃ its : List Value, Vals xs its ∧ PlainL s.heap a its.toArray ∧ xs.length ≤ sizeLine := by
  rcases h with h | ⟨o, its, n, hk, hc, hd, hs, hz, r⟩
  · obtain ⟨z, its, n, r, e⟩ := h.ok I.hok
    exact ⟨its, r, ⟨_, n, e, rfl, rfl, rfl⟩, z⟩
  · refine ⟨its.toList, r, ⟨o, n, I.kIn a o hk, hc, hd, by simpa using hs⟩, ?_⟩
    have e := r.length
    simp only [Array.length_toList] at e
    omega
theorem Inv.tuple (I : Inv X pins σ H s) (h : SqT X.K H a xs) : ∃ its : List Value, Vals xs its ∧ IsTup s.heap a its.toArray ∧ xs.length ≤ sizeLine := by
  rcases h with h | ⟨o, its, n, hk, hc, hs, hz, r⟩
  · obtain ⟨z, its, r, p⟩ := h.ok I.hok
    exact ⟨its, r, p, z⟩
  · refine ⟨its.toList, r, ⟨o, I.kIn a o hk, hc, n, by simpa using hs⟩, ?_⟩
    have e := r.length
    simp only [Array.length_toList] at e
    omega
theorem Inv.list_inj (I : Inv X pins σ H s) (h : SqL X.K H a xs) (h' : SqL X.K H a ys) : xs = ys := by
  obtain ⟨its, r, ⟨o, n, e, _, _, d⟩, _⟩ := I.list h
  obtain ⟨its', r', ⟨o', n', e', _, _, d'⟩, _⟩ := I.list h'
  rw [e] at e'; cases e'
  rw [d] at d'
  injection d' with d1 _
  have : its = its' := by simpa using congrArg Array.toList d1
  subst this
  exact r.inj r'
theorem Inv.tuple_inj (I : Inv X pins σ H s) (h : SqT X.K H a xs) (h' : SqT X.K H a ys) : xs = ys := by
  obtain ⟨its, r, ⟨o, e, _, n, d⟩, _⟩ := I.tuple h
  obtain ⟨its', r', ⟨o', e', _, n', d'⟩, _⟩ := I.tuple h'
  rw [e] at e'; cases e'
  rw [d] at d'
  injection d' with d1 _
  have : its = its' := by simpa using congrArg Array.toList d1
  subst this
  exact r.inj r'
end

noncomputable abbrev Cx.wish (X : Cx) (E : Value → Shared → Prop) : Cx := { X with xe := E }
noncomputable abbrev Cx.nox (X : Cx) : Cx := X.wish fun _ _ => False
theorem Cx.Ok.wish {X : Cx} (ok : X.Ok) (E : Value → Shared → Prop) : (X.wish E).Ok :=
  ⟨ok.mod, ok.kind, ok.glob, ok.blt, ok.above, ok.inj, ok.has, ok.cab, ok.hd, ok.frames, ok.stk, ok.exf, ok.bs, ok.bsz, ok.noex, ok.exfs, ok.funs, ok.frf⟩
theorem Cx.Ok.unwish {X : Cx} {E : Value → Shared → Prop} (ok : (X.wish E).Ok) : X.Ok :=
  ⟨ok.mod, ok.kind, ok.glob, ok.blt, ok.above, ok.inj, ok.has, ok.cab, ok.hd, ok.frames, ok.stk, ok.exf, ok.bs, ok.bsz, ok.noex, ok.exfs, ok.funs, ok.frf⟩
section
variable {X : Cx} {pins : List (Addr × Obj)} {σ : St} {H : Hp} {s : Shared} {E : Value → Shared → Prop}
theorem Inv.wish (I : Inv X pins σ H s) (E : Value → Shared → Prop) : Inv (X.wish E) pins σ H s := ⟨I.ok.wish E, I.os, I.bare, I.base, I.loc, I.cell, I.free, I.freeC, I.pin, I.hok, I.len⟩
theorem Inv.unwish (I : Inv (X.wish E) pins σ H s) : Inv X pins σ H s := ⟨I.ok.unwish, I.os, I.bare, I.base, I.loc, I.cell, I.free, I.freeC, I.pin, I.hok, I.len⟩
theorem SP.unwish {D : Ends} {f : Flow} {s' : Shared} (h : SP (X.wish E) pins D f s') : SP X pins D f s' := by
  cases f with
  | next => obtain ⟨σ', H', I, q⟩ := h; exact ⟨σ', H', I.unwish, q⟩
  | brk => obtain ⟨σ', H', I, q⟩ := h; exact ⟨σ', H', I.unwish, q⟩
  | cont => obtain ⟨σ', H', I, q⟩ := h; exact ⟨σ', H', I.unwish, q⟩
  | ret u => obtain ⟨v, σ', H', I, r, q⟩ := h; exact ⟨v, σ', H', I.unwish, r, q⟩
theorem PSs.nox {st : List Stmt} {t : TS} (h : PSs X.nox st t) : PSs X st t := fun pins s σ H D I hw =>
  wpAny_mono (h pins s σ H D (I.wish _) hw) (fun _ _ q => q.unwish) fun _ _ z => False.elim z
end

section
variable {X : Cx} {st : Stmt} {rest : List Stmt} {t u : TS} {e : Expr} {te : TE} {pos : Pos}
noncomputable def tNext : TS := fun D σ H => D.nx σ H
noncomputable def tSeq (t u : TS) : TS := fun D σ H => t { D with nx := u D } σ H
theorem pss_nil : PSs X [] tNext := fun _ _ σ H _ I h => wpAny_execs_nil ⟨σ, H, I, h⟩
theorem pss_cons (h1 : PS X st t) (h2 : PSs X rest u) : PSs X (st :: rest) (tSeq t u) := by
  intro pins s σ H D I h
  refine wpAny_execs_cons (thn (h1 pins s σ H { D with nx := u D } I h) fun f s1 q => ?_)
  cases f with
  | next =>
    obtain ⟨σ', H', I', q⟩ := q
    exact h2 pins s1 σ' H' D I' q
  | ret v => exact q
  | brk => exact q
  | cont => exact q
theorem pss_one (h1 : PS X st t) : PSs X [st] t := by
  intro pins s σ H D I h
  refine wpAny_execs_cons (thn (h1 pins s σ H D I h) fun f s1 q => ?_)
  cases f with
  | next => exact wpAny_execs_nil q
  | ret v => exact q
  | brk => exact q
  | cont => exact q
theorem Inv.quiet {pins : List (Addr × Obj)} {σ : St} {H : Hp} {s : Shared} (I : Inv X pins σ H s) : interactive X.env = false := by simp [interactive, I.ok.kind]
noncomputable def tDrop (te : TE) : TS := fun D σ H => te σ H fun _ H1 => D.nx σ H1
theorem ps_expr (he : PE X e te) (hs : swapsWith e none pos.line X.env = pure false := by rfl) : PS X (.Expr e pos) (tDrop te) := by
  intro pins s σ H D I h
  exact wpAny_Expr_any (thn (he pins s σ H _ I h) fun v s1 ⟨x, H1, I1, r1, q1⟩ => ⟨σ, H1, I1, q1⟩) I.quiet hs
noncomputable def tRet (te : TE) : TS := fun D σ H => te σ H D.rt
theorem ps_ret (he : PE X e te) : PS X (.Return (some e) pos) (tRet te) := by
  intro pins s σ H D I h
  exact wpAny_Return_some (thn (he pins s σ H _ I h) fun v s1 ⟨x, H1, I1, r1, q1⟩ => ⟨x, σ, H1, I1, r1, q1⟩)
noncomputable def tIfS (c : TT) (t u : TS) : TS := fun D σ H => c σ H fun b H1 => if b = true then t D σ H1 else u D σ H1
theorem ps_if {c : Expr} {a b : List Stmt} {tc : TT} (hc : PT X c tc) (ha : PSs X a t) (hb : PSs X b u) : PS X (.If c a b pos) (tIfS tc t u) := by
  intro pins s σ H D I h
  refine wpAny_If (thn (hc pins s σ H _ I h) fun d s1 ⟨H1, I1, q1⟩ => ?_)
  cases d with
  | true => exact ha pins s1 σ H1 D I1 q1
  | false => exact hb pins s1 σ H1 D I1 q1
end

noncomputable abbrev TG := V → St → Hp → (St → Hp → Prop) → Prop
noncomputable abbrev TGs := List V → St → Hp → (St → Hp → Prop) → Prop
noncomputable def PG (X : Cx) (target : Expr) (t : TG) : Prop :=
  ∀ (pins : List (Addr × Obj)) (s : Shared) (σ : St) (H : Hp) (v : V) (u : Value) (Q : St → Hp → Prop), Inv X pins σ H s → RelV v u → t v σ H Q →
    wpAny (model X.prog X.w) X.A (assign target X.env u) (fun _ s' => ∃ σ' H', Inv X pins σ' H' s' ∧ Q σ' H') X.xe s
noncomputable def PGs (X : Cx) (ts : List Expr) (t : TGs) : Prop :=
  ∀ (pins : List (Addr × Obj)) (s : Shared) (σ : St) (H : Hp) (vs : List V) (us : List Value) (Q : St → Hp → Prop), Inv X pins σ H s → Vals vs us → t vs σ H Q →
    wpAny (model X.prog X.w) X.A (assignInOrder ((assignEach ts X.env).map (·.2)) us) (fun _ s' => ∃ σ' H', Inv X pins σ' H' s' ∧ Q σ' H') X.xe s
noncomputable abbrev TSet := V → V → V → Hp → (Hp → Prop) → Prop
noncomputable def PSet (X : Cx) (t : TSet) : Prop :=
  ∀ (pins : List (Addr × Obj)) (s : Shared) (σ : St) (H : Hp) (o i v : V) (ov iv u : Value) (Q : Hp → Prop), Inv X pins σ H s → RelV o ov → RelV i iv → RelV v u → t o i v H Q →
    wpAny (model X.prog X.w) X.A (setItem ov iv u) (fun _ s' => ∃ H', Inv X pins σ H' s' ∧ Q H') X.xe s
section
variable {X : Cx} {pos : Pos}
noncomputable def gName (i : Nat) : TG := fun v σ H Q => Q (σ.set i (some v)) H
theorem pg_name {i : Nat} {x : Str} (hN : X.N.Nodup) (hi : X.N[i]? = some x) (hx : Loc X.env.scope x) (hf : X.fn x = true ∨ X.env.scope.names.lookup x = some .local := by first | exact .inl rfl | exact .inr rfl | assumption) : PG X (.Name x pos) (gName i) := by
  intro pins s σ H v u Q I r h
  exact wpAny_assign_Name (store_ok I hN hi hx r (fun s' I' => ⟨_, H, I', h⟩) hf)
noncomputable def gNil : TGs := fun vs σ H Q => vs = [] ∧ Q σ H
noncomputable def gCons (t : TG) (u : TGs) : TGs := fun vs σ H Q => ∃ v r, vs = v :: r ∧ t v σ H fun σ' H' => u r σ' H' Q
theorem pgs_nil : PGs X [] gNil := by
  intro pins s σ H vs us Q I r h
  obtain ⟨e, h⟩ := h
  subst e
  cases r
  exact assignInOrder_nil ⟨σ, H, I, h⟩
theorem pgs_cons {e : Expr} {es : List Expr} {t : TG} {u : TGs} (h1 : PG X e t) (h2 : PGs X es u)
    (hs : (assignEach (e :: es) X.env).map (·.2) = assign e X.env :: (assignEach es X.env).map (·.2) := by rfl) : PGs X (e :: es) (gCons t u) := by
  intro pins s σ H vs us Q I r h
  obtain ⟨v, vr, e1, h⟩ := h
  subst e1
  cases r with
  | cons r rr =>
    rw [hs]
    refine assignInOrder_cons (thn (h1 pins s σ H _ _ _ I r h) fun _ s1 ⟨σ1, H1, I1, q1⟩ => ?_)
    exact h2 pins s1 σ1 H1 _ _ Q I1 rr q1
noncomputable def gTup (K : PySem.W.Frag) (n : Nat) (t : TGs) : TG := fun v σ H Q => ∃ a xs, v = .ref a ∧ SqT K H a xs ∧ xs.length = n ∧ t xs σ H Q
theorem pg_tup {es : List Expr} {k : Nat} {t : TGs} {n : Nat} (hc : X.calm = true) (h : PGs X es t)
    (hn : (assignEach es X.env).length = n := by rfl) (hst : (assignEach es X.env).findIdx? (·.1) = none := by rfl) : PG X (.Tuple es k pos) (gTup X.K n t) := by
  intro pins s σ H v u Q I r hw
  obtain ⟨a, xs, e1, hq, hl, hw⟩ := hw
  subst e1
  cases r
  obtain ⟨its, rv, ht, hz⟩ := I.tuple hq
  refine assign_Tuple_tuple (I.ok.hd hc) ht (by simp [hn, ← hl, rv.length]) hst fun h' hx => ?_
  have I1 : Inv X pins σ H { s with heap := h' } := I.kept (t' := s.toks) fun b o e => hx b o (Nat.ne_of_lt (Heap.lt_size e)) e
  exact h pins _ σ H xs _ Q I1 (by simpa using rv) hw
noncomputable def gSub (to ti : TE) (t : TSet) : TG := fun v σ H Q => to σ H fun o H1 => ti σ H1 fun i H2 => t o i v H2 fun H3 => Q σ H3
theorem pg_sub {o i : Expr} {to ti : TE} {t : TSet} (ho : PE X o to) (hi : PE X i ti) (hs : PSet X t)
    (ha : ∀ v, assign (.Subscript o i pos) X.env v = (do
      let ov ← holding [v] (eval o X.env)
      let iv ← holding [v, ov] (eval i X.env)
      standAt pos
      holding [v, ov, iv] (setItem ov iv v)
      release [v, ov, iv] []) := by intro _; rfl) : PG X (.Subscript o i pos) (gSub to ti t) := by
  intro pins s σ H v u Q I r h
  rw [ha]
  refine wpAny_bind (wpAny_holding (thn (ho pins s σ H _ I h) fun ov s1 ⟨x, H1, I1, r1, q1⟩ => ?_))
  refine wpAny_bind (wpAny_holding (thn (hi pins s1 σ H1 _ I1 q1) fun iv s2 ⟨y, H2, I2, r2, q2⟩ => ?_))
  refine wpAny_bind (wpAny_standAt (wpAny_bind (wpAny_holding (thn (hs pins s2 σ H2 x y v ov iv u _ I2 r1 r2 r q2) fun _ s3 ⟨H3, I3, q3⟩ => ?_))))
  exact wpAny_release ⟨σ, H3, I3, q3⟩
noncomputable def tAsg (te : TE) (g : TG) : TS := fun D σ H => te σ H fun x H1 => g x σ H1 D.nx
theorem ps_asg {tg e : Expr} {te : TE} {g : TG} (he : PE X e te) (hg : PG X tg g) (hs : swapsWithSole [tg] e pos.line X.env = pure false := by rfl) (hw : swappedStores [tg] e X.env = pure none := by rfl)
    (h1 : (assignEach [tg] X.env).map (·.2) = [assign tg X.env] := by rfl) : PS X (.Assign [tg] e pos) (tAsg te g) := by
  intro pins s σ H D I h
  refine wpAny_Assign_stores (thn (he pins s σ H _ I h) fun v s1 ⟨x, H1, I1, r1, q1⟩ => ?_) hs hw
  rw [h1]
  exact thn (hg pins s1 σ H1 x v _ I1 r1 q1) fun _ s2 q => q
theorem ps_set {i : Nat} {x : Str} {e : Expr} {te : TE} {pos' : Pos} (hN : X.N.Nodup) (hi : X.N[i]? = some x) (hx : Loc X.env.scope x) (he : PE X e te) (hs : swapsWith e (some (.Name x pos')) pos.line X.env = pure false := by rfl) (hf : X.fn x = true ∨ X.env.scope.names.lookup x = some .local := by first | exact .inl rfl | exact .inr rfl | assumption) :
    PS X (.Assign [.Name x pos'] e pos) (tAsg te (gName i)) := by
  intro pins s σ H D I h
  refine wpAny_Assign_Name (thn (he pins s σ H _ I h) fun v s1 ⟨y, H1, I1, r1, q1⟩ => ?_) hs
  exact store_ok I1 hN hi hx r1 (fun s2 I2 => ⟨_, H1, I2, q1⟩) hf
end

section
variable {X : Cx} {pos : Pos}
end

structure It where
  go : Nat → Hp → Prop
  yld : Nat → Hp → V → Hp → Prop
  stop : Nat → Hp → Prop
noncomputable def FpOk (X : Cx) (pins : List (Addr × Obj)) (H : Hp) (b : Addr) : Prop :=
  H b = none ∧ b ≠ X.env.locals ∧ b ∉ X.fs ∧ (b ∈ X.ex ∨ X.s₀.heap.objs.size ≤ b) ∧ (∀ x c, X.env.cells.lookup x = some c → c ≠ b) ∧ ∀ p ∈ X.pn ++ pins, p.1 ≠ b
theorem Inv.fpOk {X : Cx} {pins : List (Addr × Obj)} {σ : St} {H H' : Hp} {s : Shared} {b : Addr} (I : Inv X pins σ H s) (hb : s.heap.objs.size ≤ b) (hn : H' b = none) : FpOk X pins H' b := by
  refine ⟨hn, Nat.ne_of_gt (Nat.lt_of_lt_of_le I.lt hb), I.nofs hb, .inr (Nat.le_trans I.sz hb), fun x c e z => ?_, fun p hp z => ?_⟩
  · obtain ⟨v, q⟩ := I.cell x c e
    exact absurd (Nat.lt_of_lt_of_le q.lt (by rw [z]; exact hb)) (Nat.lt_irrefl _)
  · exact absurd (Nat.lt_of_lt_of_le (Heap.lt_size (I.pin p hp).1) (by rw [z]; exact hb)) (Nat.lt_irrefl _)
structure Turn (P : Program) (w : World) (K : PySem.W.Frag) (tg : Expr) (J : It) (fp : List Addr) (it : Addr) (tn : Nat → Heap → Prop) : Prop where
  mem : it ∈ fp
  obj : ∀ i h, tn i h → ∀ b ∈ fp, ∃ o, h.get? b = some o ∧ ∀ v, o.data ≠ .cell v
  keep : ∀ i h h', tn i h → (∀ b ∈ fp, ∀ o, h.get? b = some o → h'.get? b = some o) → tn i h'
  item : ∀ (X : Cx), X.prog = P → X.w = w → X.K = K → X.calm = true → ∀ (i : Nat) (pins : List (Addr × Obj)) (s : Shared) (σ : St) (H : Hp) (E : Value → Shared → Prop), Inv X pins σ H s → (∀ b ∈ fp, FpOk X pins H b) → tn i s.heap → J.go i H →
    wpAny (model P w) X.A (pyNext (.ref it)) (fun r s1 => ∃ u, r = some u ∧
      wpAny (model P w) X.A (letOwnedTupleGo tg (.ref it) u) (fun _ s2 => ∃ x H', Inv X pins σ H' s2 ∧ RelV x u ∧ J.yld i H x H' ∧ tn (i + 1) s2.heap ∧ ∀ b ∈ fp, H' b = none) E s1) E s
  done : ∀ (X : Cx), X.prog = P → X.w = w → X.K = K → X.calm = true → ∀ (i : Nat) (pins : List (Addr × Obj)) (s : Shared) (σ : St) (H : Hp) (E : Value → Shared → Prop), Inv X pins σ H s → (∀ b ∈ fp, FpOk X pins H b) → tn i s.heap → J.stop i H →
    wpAny (model P w) X.A (pyNext (.ref it)) (fun r s1 => r = none ∧ Inv X pins σ H s1) E s
  self : ∀ (A : Around) (i : Nat) (s : Shared) (Q : Value → Shared → Prop) (E : Value → Shared → Prop), tn i s.heap → Q (.ref it) s → wpAny (model P w) A (pyIter (.ref it)) Q E s
noncomputable abbrev TI := St → Hp → (It → Hp → Prop) → Prop
noncomputable def PIE (X : Cx) (pins : List (Addr × Obj)) (σ : St) (tg : Expr) (R : It → Hp → Prop) (itv : Value) (s2 : Shared) : Prop :=
  ∃ (it : Addr) (fp : List Addr) (tn : Nat → Heap → Prop) (J : It) (H' : Hp), itv = .ref it ∧ Inv X pins σ H' s2 ∧ Turn X.prog X.w X.K tg J fp it tn ∧ tn 0 s2.heap ∧ (∀ b ∈ fp, FpOk X pins H' b) ∧ R J H'
noncomputable def PI (X : Cx) (tg iter : Expr) (wi : TI) : Prop :=
  ∀ (pins : List (Addr × Obj)) (s : Shared) (σ : St) (H : Hp) (R : It → Hp → Prop), Inv X pins σ H s → wi σ H R →
    wpAny (model X.prog X.w) X.A (eval iter X.env) (fun v s1 => wpAny (model X.prog X.w) X.A (pyIter v) (PIE X pins σ tg R) X.xe s1) X.xe s

theorem go_of {M : Model} {A : Around} {E : Value → Shared → Prop} {s : Shared} {tg : Expr} {it : Addr} {u : Value} {o : Obj} {n : String} {vs : Array Value} {Q : Unit → Shared → Prop} (ho : s.heap.get? it = some o) (hc : o.cls = .type n) (hd : o.data = .fields vs)
    (hn : ["enumerate", "zip", "dict_itemiterator", "dict_reverseitemiterator", "odict_iterator", "itertools.zip_longest", "itertools.pairwise"].contains n = false) (hQ : Q () s) : wpAny M A (letOwnedTupleGo tg (.ref it) u) Q E s := by
  unfold letOwnedTupleGo
  cases tg <;> first
    | exact wpAny_pure hQ
    | (cases u <;> first
        | exact wpAny_pure hQ
        | (refine wpAny_bind (wpAny_load ho ?_)
           rw [hc, hd]
           show wpAny M A (if (["enumerate", "zip", "dict_itemiterator", "dict_reverseitemiterator", "odict_iterator", "itertools.zip_longest", "itertools.pairwise"].contains n && vs[0]? == some (rawInt _)) = true then _ else _) Q E s
           rw [if_neg (by intro h; rw [hn, Bool.false_and] at h; cases h)]
           exact wpAny_pure hQ))

noncomputable def Itl (K : PySem.W.Frag) (a : Addr) : It :=
  ⟨fun i H => ∃ xs x, SqL K H a xs ∧ xs[i]? = some x, fun i H x H' => H' = H ∧ ∀ xs, SqL K H a xs → xs[i]? = some x, fun i H => ∃ xs, SqL K H a xs ∧ xs.length ≤ i⟩
noncomputable def Itt (K : PySem.W.Frag) (a : Addr) : It :=
  ⟨fun i H => ∃ xs x, SqT K H a xs ∧ xs[i]? = some x, fun i H x H' => H' = H ∧ ∀ xs, SqT K H a xs → xs[i]? = some x, fun i H => ∃ xs, SqT K H a xs ∧ xs.length ≤ i⟩
noncomputable def Itr (lo : Int) (n : Nat) : It := ⟨fun i _ => i < n, fun i H x H' => H' = H ∧ x = .int (lo + i), fun i _ => n ≤ i⟩
theorem turn_list {P : Program} {w : World} {K : PySem.W.Frag} {tg : Expr} (a it : Addr) : Turn P w K tg (Itl K a) [it] it (fun i h => h.IsListIter it a i) where
  mem := by simp
  obj := fun i h st b hb => by
    have e : b = it := by simpa using hb
    subst e
    obtain ⟨o, e, c, d⟩ := st
    exact ⟨o, e, fun v z => by rw [d] at z; cases z⟩
  keep := fun i h h' st k => st.at fun o e => k it (by simp) o e
  item := by
    intro X hP hw hK hc i pins s σ H E I hf st hg
    subst hP hw hK
    obtain ⟨xs, x, hq, hx⟩ := hg
    obtain ⟨its, rv, p, hz⟩ := I.list hq
    obtain ⟨u, hu, ru⟩ := rv.get hx
    obtain ⟨f0, f1, f2, f3, f4, f5⟩ := hf it (by simp)
    refine wpAny_pyNext_list_item st p.isList (x := u) (by simpa using hu) fun h' st' sb => ?_
    have I1 : Inv X pins σ H { s with heap := h' } := I.turned (t' := s.toks) (fun b o hb e => (sb.2 b hb).trans e) f0 f1 f3 f4 f5
    obtain ⟨o, e, c, d⟩ := id st'
    exact ⟨u, rfl, go_of (s := { s with heap := h' }) e c d (by decide) ⟨x, H, I1, ru, ⟨rfl, fun ys hy => by rw [I.list_inj hy hq]; exact hx⟩, st', fun b hb => (hf b hb).1⟩⟩
  done := by
    intro X hP hw hK hc i pins s σ H E I hf st hg
    subst hP hw hK
    obtain ⟨xs, hq, hx⟩ := hg
    obtain ⟨its, rv, p, hz⟩ := I.list hq
    obtain ⟨f0, f1, f2, f3, f4, f5⟩ := hf it (by simp)
    have hl := rv.length
    exact wpAny_pyNext_list_end (I.ok.hd hc) st p.isList (by simp; omega) fun h' eb => ⟨rfl, I.turned (t' := s.toks) (fun b o hb e => eb b o hb e) f0 f1 f3 f4 f5⟩
  self := fun _ _ _ _ _ st h => wpAny_pyIter_listiter st h
theorem turn_tuple {P : Program} {w : World} {K : PySem.W.Frag} {tg : Expr} (a it : Addr) : Turn P w K tg (Itt K a) [it] it (fun i h => h.IsTupleIter it a i) where
  mem := by simp
  obj := fun i h st b hb => by
    have e : b = it := by simpa using hb
    subst e
    obtain ⟨o, e, c, d⟩ := st
    exact ⟨o, e, fun v z => by rw [d] at z; cases z⟩
  keep := fun i h h' st k => st.at fun o e => k it (by simp) o e
  item := by
    intro X hP hw hK hc i pins s σ H E I hf st hg
    subst hP hw hK
    obtain ⟨xs, x, hq, hx⟩ := hg
    obtain ⟨its, rv, p, hz⟩ := I.tuple hq
    obtain ⟨u, hu, ru⟩ := rv.get hx
    obtain ⟨f0, f1, f2, f3, f4, f5⟩ := hf it (by simp)
    refine wpAny_pyNext_tuple_item st (show s.heap.IsTuple a its.toArray from p) (x := u) (by simpa using hu) fun h' st' sb => ?_
    have I1 : Inv X pins σ H { s with heap := h' } := I.turned (t' := s.toks) (fun b o hb e => (sb.2 b hb).trans e) f0 f1 f3 f4 f5
    obtain ⟨o, e, c, d⟩ := id st'
    exact ⟨u, rfl, go_of (s := { s with heap := h' }) e c d (by decide) ⟨x, H, I1, ru, ⟨rfl, fun ys hy => by rw [I.tuple_inj hy hq]; exact hx⟩, st', fun b hb => (hf b hb).1⟩⟩
  done := by
    intro X hP hw hK hc i pins s σ H E I hf st hg
    subst hP hw hK
    obtain ⟨xs, hq, hx⟩ := hg
    obtain ⟨its, rv, p, hz⟩ := I.tuple hq
    obtain ⟨f0, f1, f2, f3, f4, f5⟩ := hf it (by simp)
    have hl := rv.length
    exact wpAny_pyNext_tuple_end (I.ok.hd hc) st (show s.heap.IsTuple a its.toArray from p) (by simp; omega) fun h' eb => ⟨rfl, I.turned (t' := s.toks) (fun b o hb e => eb b o hb e) f0 f1 f3 f4 f5⟩
  self := fun _ _ _ _ _ st h => wpAny_pyIter_tupleiter st h
theorem turn_range {P : Program} {w : World} {K : PySem.W.Frag} {tg : Expr} (it : Addr) (lo : Int) (n : Nat) : Turn P w K tg (Itr lo n) [it] it (fun i h => IsRangeIter h it (lo + (i : Nat) * 1) ((n : Int) - (i : Nat)) 1) where
  mem := by simp
  obj := fun i h st b hb => by
    have e : b = it := by simpa using hb
    subst e
    exact ⟨_, st, fun v z => by
      have z' : Data.fields _ = Data.cell v := z
      cases z'⟩
  keep := fun i h h' st k => k it (by simp) _ st
  item := by
    intro X hP hw hK hc i pins s σ H E I hf st hg
    subst hP hw hK
    obtain ⟨f0, f1, f2, f3, f4, f5⟩ := hf it (by simp)
    have W := Walks.range (prog := X.prog) (w := X.w) (I.ok.hd hc) it lo 1 n
    refine W.item i s _ _ hg st fun v h' tk hv st' kk => ?_
    obtain ⟨t, rfl⟩ := hv
    have I1 : Inv X pins σ H { s with heap := h', toks := tk } := I.turned (fun b o hb e => kk b o (by simpa using hb) e) f0 f1 f3 f4 f5
    refine ⟨_, rfl, go_of (s := { s with heap := h', toks := tk }) (n := "range_iterator") st' rfl rfl (by decide) ⟨.int (lo + i), H, I1, ⟨t, ?_⟩, ⟨rfl, rfl⟩, st', fun b hb => (hf b hb).1⟩⟩
    rw [Int.mul_one]
  done := by
    intro X hP hw hK hc i pins s σ H E I hf st hg
    subst hP hw hK
    obtain ⟨f0, f1, f2, f3, f4, f5⟩ := hf it (by simp)
    exact wpAny_pyNext_range_end (I.ok.hd hc) st (by have : n ≤ i := hg; omega) fun h' eb => ⟨rfl, I.turned (t' := s.toks) (fun b o hb e => eb b o hb e) f0 f1 f3 f4 f5⟩
  self := fun _ _ _ _ _ st h => wpAny_pyIter_rangeiter st h
end L2

namespace L2
open PySem PySem.Spec PyProof.Rows
section
variable {X : Cx} {tg : Expr}
noncomputable def iList (K : PySem.W.Frag) (tl : TE) : TI := fun σ H R => tl σ H fun x H1 => ∃ a, x = .ref a ∧ (∃ xs, SqL K H1 a xs) ∧ R (Itl K a) H1
noncomputable def iTup (K : PySem.W.Frag) (tl : TE) : TI := fun σ H R => tl σ H fun x H1 => ∃ a, x = .ref a ∧ (∃ xs, SqT K H1 a xs) ∧ R (Itt K a) H1
theorem pi_list {l : Expr} {tl : TE} (hl : PE X l tl) : PI X tg l (iList X.K tl) := by
  intro pins s σ H R I h
  refine thn (hl pins s σ H _ I h) fun v s1 ⟨x, H1, I1, r1, q1⟩ => ?_
  obtain ⟨a, e, ⟨xs, hq⟩, q⟩ := q1
  subst e
  cases r1
  obtain ⟨its, rv, p, hz⟩ := I1.list hq
  refine wpAny_pyIter_list p.isList ?_
  refine ⟨s1.heap.objs.size, [s1.heap.objs.size], _, _, H1, rfl, I1.kept (t' := s1.toks) fun b o e => Heap.get?_push_of_some _ e, turn_list a _, ⟨_, Heap.get?_push_size _ rfl, rfl, rfl⟩, fun b hb => ?_, q⟩
  have e : b = s1.heap.objs.size := by simpa using hb
  subst e
  exact I1.fpOk (Nat.le_refl _) (I1.hok.fresh (Nat.le_refl _))
theorem pi_tup {l : Expr} {tl : TE} (hl : PE X l tl) : PI X tg l (iTup X.K tl) := by
  intro pins s σ H R I h
  refine thn (hl pins s σ H _ I h) fun v s1 ⟨x, H1, I1, r1, q1⟩ => ?_
  obtain ⟨a, e, ⟨xs, hq⟩, q⟩ := q1
  subst e
  cases r1
  obtain ⟨its, rv, p, hz⟩ := I1.tuple hq
  refine wpAny_pyIter_tuple (show s1.heap.IsTuple a its.toArray from p) ?_
  refine ⟨s1.heap.objs.size, [s1.heap.objs.size], _, _, H1, rfl, I1.kept (t' := s1.toks) fun b o e => Heap.get?_push_of_some _ e, turn_tuple a _, ⟨_, Heap.get?_push_size _ rfl, rfl, rfl⟩, fun b hb => ?_, q⟩
  have e : b = s1.heap.objs.size := by simpa using hb
  subst e
  exact I1.fpOk (Nat.le_refl _) (I1.hok.fresh (Nat.le_refl _))
theorem range_it {pins : List (Addr × Obj)} {σ : St} {H : Hp} {s : Shared} {R : It → Hp → Prop} {E : Value → Shared → Prop} {lo hi : Int} {t u v : Tok} {tk : Nat} (I : Inv X pins σ H s) (h1 : -(2 ^ 62) ≤ lo) (h2 : lo < 2 ^ 62) (h3 : -(2 ^ 62) ≤ hi) (h4 : hi < 2 ^ 62)
    (q : R (Itr lo (hi - lo).toNat) H) : wpAny (model X.prog X.w) X.A (pyIter (.ref s.heap.objs.size)) (PIE X pins σ tg R) E { s with heap := s.heap.push { cls := .type "range", data := .fields #[.int lo t, .int hi u, .int 1 v] }, toks := tk } := by
  refine wpAny_pyIter_range (IsRange.new ..) (small_one h1 h2 h3 h4) ?_
  have I1 : Inv X pins σ H { s with heap := s.heap.push { cls := .type "range", data := .fields #[.int lo t, .int hi u, .int 1 v] }, toks := tk } := I.kept fun b o e => Heap.get?_push_of_some _ e
  refine ⟨(s.heap.push { cls := .type "range", data := .fields #[.int lo t, .int hi u, .int 1 v] }).objs.size, [(s.heap.push { cls := .type "range", data := .fields #[.int lo t, .int hi u, .int 1 v] }).objs.size], _, _, H, rfl,
    I1.kept (t' := tk) fun b o e => Heap.get?_push_of_some _ e, turn_range _ lo (hi - lo).toNat, ?_, fun b hb => ?_, q⟩
  · have e1 : lo + ((0 : Nat) : Int) * 1 = lo := by simp
    have e2 : (((hi - lo).toNat : Nat) : Int) - ((0 : Nat) : Int) = Builtin.Range.rangeSize lo hi 1 := by rw [rangeSize_one]; split <;> omega
    show IsRangeIter _ _ (lo + ((0 : Nat) : Int) * 1) ((((hi - lo).toNat : Nat) : Int) - ((0 : Nat) : Int)) 1
    rw [e1, e2]
    exact Heap.get?_push_size _ rfl
  · have e : b = (s.heap.push { cls := .type "range", data := .fields #[.int lo t, .int hi u, .int 1 v] }).objs.size := by simpa using hb
    subst e
    exact I1.fpOk (Nat.le_refl _) (I1.hok.fresh (Nat.le_refl _))
noncomputable def iRng1 (ta : TA) : TI := fun σ H R => ta σ H fun vs H1 => ∃ j : Int, vs = [.int j] ∧ -(2 ^ 62) ≤ j ∧ j < 2 ^ 62 ∧ R (Itr 0 j.toNat) H1
noncomputable def iRng2 (ta : TA) : TI := fun σ H R => ta σ H fun vs H1 => ∃ i j : Int, vs = [.int i, .int j] ∧ (-(2 ^ 62) ≤ i ∧ i < 2 ^ 62 ∧ -(2 ^ 62) ≤ j ∧ j < 2 ^ 62) ∧ R (Itr i (j - i).toNat) H1
theorem pi_range1 {a : Expr} {ta : TA} {p pos : Pos} (hg : Gl X "range") (hm : X.mg "range" = none) (ha : PA X [a] ta) (hs : starEach [a] X.env = [(false, eval a X.env)] := by rfl) : PI X tg (.Call (.Name "range" p) [a] [] pos) (iRng1 ta) := by
  intro pins s σ H R I h
  refine Call_ (ld_blt I hg hm boot_range (PyProof.Rows.callWith_type1 (thn (ha pos pins s σ H _ I h) fun us s1 ⟨vs, H1, I1, r1, q1⟩ => ?_) hs rfl))
  obtain ⟨j, e, q1, q2, q⟩ := q1
  subst e
  cases r1 with
  | cons r rr =>
    cases rr
    obtain ⟨t, rfl⟩ := r
    exact call_range_1 (range_it I1 (by omega) (by omega) q1 q2 (by simpa using q))
theorem pi_range2 {a b : Expr} {ta : TA} {p pos : Pos} (hg : Gl X "range") (hm : X.mg "range" = none) (ha : PA X [a, b] ta) (hs : starEach [a, b] X.env = [(false, eval a X.env), (false, eval b X.env)] := by rfl) (hs2 : starEach [b] X.env = [(false, eval b X.env)] := by rfl) :
    PI X tg (.Call (.Name "range" p) [a, b] [] pos) (iRng2 ta) := by
  intro pins s σ H R I h
  refine Call_ (ld_blt I hg hm boot_range (PyProof.Rows.callWith_type1 (thn (ha pos pins s σ H _ I h) fun us s1 ⟨vs, H1, I1, r1, q1⟩ => ?_) (by rw [hs, hs2]) (by rw [hs2]; rfl)))
  obtain ⟨i, j, e, ⟨q1, q2, q3, q4⟩, q⟩ := q1
  subst e
  cases r1 with
  | cons r rr =>
    cases rr with
    | cons r' rr =>
      cases rr
      obtain ⟨t, rfl⟩ := r
      obtain ⟨t', rfl⟩ := r'
      exact call_range_2 (range_it I1 q1 q2 q3 q4 q)

noncomputable def tFor (wi : TI) (g : TG) (tb : TS) : TS := fun D σ H => wi σ H fun J H1 => ∃ W : Nat → Nat → St → Hp → Prop, (∃ m, W 0 m σ H1) ∧ ∀ i m σ H, W i m σ H →
  (J.stop i H ∧ D.nx σ H) ∨ (J.go i H ∧ ∃ N : St → Hp → Prop, (∀ σ' H', N σ' H' → ∃ m', m' < m ∧ W (i + 1) m' σ' H') ∧ ∀ x H', J.yld i H x H' → g x σ H' fun σ2 H2 => tb { D with nx := N, ct := N, bk := D.nx } σ2 H2)
noncomputable def pinsAt (fp : List Addr) (h : Heap) : List (Addr × Obj) := fp.filterMap fun b => (h.get? b).map fun o => (b, o)
theorem mem_pinsAt {fp : List Addr} {h : Heap} {b : Addr} {o : Obj} (hb : b ∈ fp) (e : h.get? b = some o) : (b, o) ∈ pinsAt fp h := List.mem_filterMap.mpr ⟨b, hb, by rw [e]; rfl⟩
theorem of_pinsAt {fp : List Addr} {h : Heap} {p : Addr × Obj} (hp : p ∈ pinsAt fp h) : p.1 ∈ fp ∧ h.get? p.1 = some p.2 := by
  obtain ⟨b, hb, e⟩ := List.mem_filterMap.mp hp
  cases q : h.get? b with
  | none => rw [q] at e; cases e
  | some o =>
    rw [q] at e
    have e' : (b, o) = p := Option.some.inj e
    subst e'
    exact ⟨hb, q⟩
theorem Inv.pinned {pins : List (Addr × Obj)} {σ : St} {H : Hp} {s : Shared} {fp : List Addr} (I : Inv X pins σ H s) (hf : ∀ b ∈ fp, FpOk X pins H b) (ho : ∀ b ∈ fp, ∃ o, s.heap.get? b = some o ∧ ∀ v, o.data ≠ .cell v) : Inv X (pins ++ pinsAt fp s.heap) σ H s :=
  I.pins_of fun p hp => (List.mem_append.mp hp).elim (fun z => I.pin p (List.mem_append_right _ z)) fun z => by
    obtain ⟨hb, e⟩ := of_pinsAt z
    obtain ⟨f0, f1, f2, _⟩ := hf p.1 hb
    obtain ⟨o, e', d⟩ := ho p.1 hb
    rw [e] at e'; cases e'
    exact ⟨e, f0, f1, f2, d⟩
theorem Inv.unpinned {pins pl : List (Addr × Obj)} {σ : St} {H : Hp} {s : Shared} (I : Inv X (pins ++ pl) σ H s) : Inv X pins σ H s := I.pins_of fun p hp => I.pin p (List.mem_append_right _ (List.mem_append_left _ hp))
theorem ps_for {iter : Expr} {body : List Stmt} {wi : TI} {g : TG} {tb : TS} {pos : Pos} (hp : PassesOwn (model X.prog X.w) X.A X.env X.xe) (hc : X.calm = true) (hi : PI X tg iter wi) (hg : PG X tg g) (hb : PSs X body tb)
    (hs : ∀ x, foldedSetIterable iter X.env x = pure x := by intro _; rfl) : PS X (.For tg iter body [] pos) (tFor wi g tb) := by
  intro pins s σ H D I h
  refine wpAny_For (thn (hi pins s σ H _ I h) fun v s1 h1 => thn h1 fun itv s2 h2 => ?_) hs
  obtain ⟨it, fp, tn, J, H2, e, I2, T, st2, f2, W, ⟨m0, w0⟩, turn⟩ := h2
  subst e
  -- what stays true of the iterator's objects through the loop
  have stat : ∀ {H' : Hp}, (∀ b ∈ fp, H' b = none) → ∀ b ∈ fp, FpOk X pins H' b := fun hn b hb => ⟨hn b hb, (f2 b hb).2⟩
  refine codeAny_forLoop_any (fun n s' => ∃ i σ' H', Inv X pins σ' H' s' ∧ tn i s'.heap ∧ (∀ b ∈ fp, H' b = none) ∧ W i n σ' H') ?_ m0 ⟨0, σ, H2, I2, st2, fun b hb => (f2 b hb).1, w0⟩
  rintro n s3 ⟨i, σ3, H3, I3, st3, fr3, w3⟩
  rcases turn i n σ3 H3 w3 with ⟨stop, qn⟩ | ⟨go, N, hN, step⟩
  · refine wpAny_passesOwn hp (thn (T.done X rfl rfl rfl hc i pins s3 σ3 H3 X.xe I3 (stat fr3) st3 stop) fun r s4 ⟨hr, I4⟩ => ?_)
    subst hr
    exact wpAny_execs_nil ⟨σ3, H3, I4, qn⟩
  · refine wpAny_passesOwn hp (thn (T.item X rfl rfl rfl hc i pins s3 σ3 H3 X.xe I3 (stat fr3) st3 go) fun r s4 ⟨u, hr, h4⟩ => ?_)
    subst hr
    refine wpAny_passesOwn hp (thn h4 fun _ s5 ⟨x, H5, I5, r5, y5, st5, fr5⟩ => ?_)
    have I5' := I5.pinned (stat fr5) (T.obj _ _ st5)
    refine wpAny_passesOwn hp (thn (hg _ s5 σ3 H5 x u _ I5' r5 (step x H5 y5)) fun _ s6 ⟨σ6, H6, I6, q6⟩ => ?_)
    refine wpAny_passesOwn hp (thn (hb _ s6 σ6 H6 _ I6 q6) fun f s7 q7 => ?_)
    have again : ∀ {σ7 : St} {H7 : Hp}, Inv X (pins ++ pinsAt fp s5.heap) σ7 H7 s7 → N σ7 H7 → ∃ m, m < n ∧ ∃ i σ' H', Inv X pins σ' H' s7 ∧ tn i s7.heap ∧ (∀ b ∈ fp, H' b = none) ∧ W i m σ' H' := fun {σ7 H7} I7 n7 => by
      obtain ⟨m', hm, w7⟩ := hN σ7 H7 n7
      refine ⟨m', hm, i + 1, σ7, H7, I7.unpinned, T.keep _ _ _ st5 fun b hb o e => (I7.pin (b, o) (List.mem_append_right _ (List.mem_append_right _ (mem_pinsAt hb e)))).1, fun b hb => ?_, w7⟩
      obtain ⟨o, e, d⟩ := T.obj _ _ st5 b hb
      exact (I7.pin (b, o) (List.mem_append_right _ (List.mem_append_right _ (mem_pinsAt hb e)))).2.1
    cases f with
    | next => obtain ⟨σ7, H7, I7, n7⟩ := q7; exact again I7 n7
    | cont => obtain ⟨σ7, H7, I7, n7⟩ := q7; exact again I7 n7
    | brk => obtain ⟨σ7, H7, I7, q7⟩ := q7; exact ⟨σ7, H7, I7.unpinned, q7⟩
    | ret v => obtain ⟨x7, σ7, H7, I7, r7, q7⟩ := q7; exact ⟨x7, σ7, H7, I7.unpinned, r7, q7⟩
end

theorem for_list {K : PySem.W.Frag} {a : Addr} {xs : List V} {g : TG} {tb : TS} {D : Ends} {σ : St} {H : Hp} (Pv : Nat → St → Hp → Prop) (h0 : Pv 0 σ H) (hl : ∀ i σ H, i ≤ xs.length → Pv i σ H → SqL K H a xs)
    (hs : ∀ i x σ H, xs[i]? = some x → Pv i σ H → g x σ H fun σ2 H2 => tb { D with nx := Pv (i + 1), ct := Pv (i + 1), bk := D.nx } σ2 H2) (hd : ∀ σ H, Pv xs.length σ H → D.nx σ H) :
    ∃ W : Nat → Nat → St → Hp → Prop, (∃ m, W 0 m σ H) ∧ ∀ i m σ H, W i m σ H →
      ((Itl K a).stop i H ∧ D.nx σ H) ∨ ((Itl K a).go i H ∧ ∃ N : St → Hp → Prop, (∀ σ' H', N σ' H' → ∃ m', m' < m ∧ W (i + 1) m' σ' H') ∧ ∀ x H', (Itl K a).yld i H x H' → g x σ H' fun σ2 H2 => tb { D with nx := N, ct := N, bk := D.nx } σ2 H2) := by
  refine ⟨fun i m σ H => m = xs.length - i ∧ i ≤ xs.length ∧ Pv i σ H, ⟨xs.length, by simp, Nat.zero_le _, h0⟩, ?_⟩
  rintro i m σ H ⟨rfl, hi, p⟩
  have q := hl i σ H hi p
  by_cases hlt : i < xs.length
  · refine .inr ⟨⟨xs, xs[i], q, by simp [hlt]⟩, Pv (i + 1), fun σ' H' p' => ⟨xs.length - (i + 1), by omega, rfl, hlt, p'⟩, fun x H' y => ?_⟩
    obtain ⟨e, y⟩ := y
    subst e
    exact hs i x σ _ (y xs q) p
  · have e : i = xs.length := by omega
    subst e
    exact .inl ⟨⟨xs, q, Nat.le_refl _⟩, hd σ H p⟩
end L2

namespace L2
open PySem PySem.Spec PyProof.Rows

noncomputable abbrev R2 := V → V → Hp → VK → Prop
noncomputable def OpR (X : Cx) (f : Value → Value → Sem Value) (r : R2) : Prop :=
  ∀ (pins : List (Addr × Obj)) (s : Shared) (σ : St) (H : Hp) (x y : V) (v u : Value) (Q : VK), Inv X pins σ H s → RelV x v → RelV y u → r x y H Q →
    wpAny (model X.prog X.w) X.A (f v u) (EP X pins σ Q) X.xe s
noncomputable def UnR (X : Cx) (f : Value → Sem Value) (r : V → Hp → VK → Prop) : Prop :=
  ∀ (pins : List (Addr × Obj)) (s : Shared) (σ : St) (H : Hp) (x : V) (v : Value) (Q : VK), Inv X pins σ H s → RelV x v → r x H Q →
    wpAny (model X.prog X.w) X.A (f v) (EP X pins σ Q) X.xe s
noncomputable def CallR (X : Cx) (f : Value) (r : List V → Hp → VK → Prop) : Prop :=
  ∀ (pins : List (Addr × Obj)) (s : Shared) (σ : St) (H : Hp) (xs : List V) (us : List Value) (Q : VK), Inv X pins σ H s → Vals xs us → r xs H Q →
    wpAny (model X.prog X.w) X.A (call f us) (EP X pins σ Q) X.xe s
noncomputable def tOp (r : R2) (ta tb : TE) : TE := fun σ H Q => ta σ H fun x H1 => tb σ H1 fun y H2 => r x y H2 Q
noncomputable def tUn (r : V → Hp → VK → Prop) (ta : TE) : TE := fun σ H Q => ta σ H fun x H1 => r x H1 Q
noncomputable def rI (C : Int → Int → Prop) (g : Int → Int → V) : R2 := fun x y H Q => ∃ i j, x = .int i ∧ y = .int j ∧ C i j ∧ Q (g i j) H
noncomputable def rI0 (g : Int → Int → V) : R2 := fun x y H Q => ∃ i j, x = .int i ∧ y = .int j ∧ Q (g i j) H
noncomputable def rU (g : Int → V) : V → Hp → VK → Prop := fun x H Q => ∃ i, x = .int i ∧ Q (g i) H

section
variable {X : Cx} {a b c : Expr} {ta tb tc : TE} {pos : Pos}

theorem binT (ha : PE X a ta) (hb : PE X b tb) {pins : List (Addr × Obj)} {s : Shared} {σ : St} {H : Hp} {R : V → V → Hp → Prop} (I : Inv X pins σ H s)
    (h : ta σ H fun x H1 => tb σ H1 fun y H2 => R x y H2) {Q : Value → Shared → Prop} {f : Value → Value → Sem Value}
    (hf : ∀ v u s2 x y H2, Inv X pins σ H2 s2 → RelV x v → RelV y u → R x y H2 → wpAny (model X.prog X.w) X.A (f v u) Q X.xe s2) :
    wpAny (model X.prog X.w) X.A (eval a X.env) (fun v s₁ => wpAny (model X.prog X.w) X.A (eval b X.env) (fun u s₂ => wpAny (model X.prog X.w) X.A (f v u) Q X.xe s₂) X.xe s₁) X.xe s := by
  refine thn (ha pins s σ H _ I h) fun v s1 ⟨x, H1, I1, r1, q1⟩ => ?_
  refine thn (hb pins s1 σ H1 _ I1 q1) fun u s2 ⟨y, H2, I2, r2, q2⟩ => ?_
  exact hf v u s2 x y H2 I2 r1 r2 q2

theorem pe_op {op : Operator} {r : R2} (ho : OpR X (binaryOp op) r) (ha : PE X a ta) (hb : PE X b tb) : PE X (.BinOp a op b pos) (tOp r ta tb) := by
  intro pins s σ H Q I h
  exact wpAny_BinOp (binT ha hb I h fun v u s2 x y H2 I2 rx ry q => ho pins s2 σ H2 x y v u Q I2 rx ry q)
theorem pe_un {op : UnaryOp} {r : V → Hp → VK → Prop} (ho : UnR X (unaryOp op) r) (ha : PE X a ta) : PE X (.UnaryOp op a pos) (tUn r ta) := by
  intro pins s σ H Q I h
  exact UnaryOp_ (thn (ha pins s σ H _ I h) fun v s1 ⟨x, H1, I1, r1, q1⟩ => ho pins s1 σ H1 x v Q I1 r1 q1)
theorem opI {f : Value → Value → Sem Value} {C : Int → Int → Prop} {g : Int → Int → Int}
    (rule : ∀ (i j : Int) (t u : Tok) (s : Shared) (Q : Value → Shared → Prop) (E : Value → Shared → Prop), C i j → Q (.int (g i j) s.toks) { s with toks := s.toks + 1 } → wpAny (model X.prog X.w) X.A (f (.int i t) (.int j u)) Q E s) :
    OpR X f (rI C fun i j => .int (g i j)) := by
  intro pins s σ H x y v u Q I rx ry h
  obtain ⟨i, j, rfl, rfl, hc, q⟩ := h
  obtain ⟨t, rfl⟩ := rx
  obtain ⟨t', rfl⟩ := ry
  exact rule i j t t' s _ _ hc ⟨.int (g i j), H, I.tok _, ⟨_, rfl⟩, q⟩
theorem opI0 {f : Value → Value → Sem Value} {g : Int → Int → Int}
    (rule : ∀ (i j : Int) (t u : Tok) (s : Shared) (Q : Value → Shared → Prop) (E : Value → Shared → Prop), Q (.int (g i j) s.toks) { s with toks := s.toks + 1 } → wpAny (model X.prog X.w) X.A (f (.int i t) (.int j u)) Q E s) :
    OpR X f (rI0 fun i j => .int (g i j)) := by
  intro pins s σ H x y v u Q I rx ry h
  obtain ⟨i, j, rfl, rfl, q⟩ := h
  obtain ⟨t, rfl⟩ := rx
  obtain ⟨t', rfl⟩ := ry
  exact rule i j t t' s _ _ ⟨.int (g i j), H, I.tok _, ⟨_, rfl⟩, q⟩
theorem opB0 {f : Value → Value → Sem Value} {g : Int → Int → Bool}
    (rule : ∀ (i j : Int) (t u : Tok) (s : Shared) (Q : Value → Shared → Prop) (E : Value → Shared → Prop), Q (.bool (g i j)) s → wpAny (model X.prog X.w) X.A (f (.int i t) (.int j u)) Q E s) :
    OpR X f (rI0 fun i j => .bl (g i j)) := by
  intro pins s σ H x y v u Q I rx ry h
  obtain ⟨i, j, rfl, rfl, q⟩ := h
  obtain ⟨t, rfl⟩ := rx
  obtain ⟨t', rfl⟩ := ry
  exact rule i j t t' s _ _ ⟨.bl (g i j), H, I, rfl, q⟩

noncomputable def CPow (i j : Int) : Prop := 0 ≤ j ∧ j ≤ 1000000 ∧ i.natAbs < 2 ^ 64
noncomputable def CMul (i j : Int) : Prop := (-(2 ^ 64) < i ∧ i < 2 ^ 64) ∨ (-(2 ^ 64) < j ∧ j < 2 ^ 64)
theorem CMul.ok {i j : Int} (h : CMul i j) : IntMulOk i j := by
  rcases h with ⟨h1, h2⟩ | ⟨h1, h2⟩
  · exact .of_left (intBits_le_64 h1 h2)
  · exact .of_right (intBits_le_64 h1 h2)
theorem op_add : OpR X (binaryOp .Add) (rI0 fun i j => .int (i + j)) := opI0 fun _ _ _ _ _ _ _ q => add_int q
theorem op_sub : OpR X (binaryOp .Sub) (rI0 fun i j => .int (i - j)) := opI0 fun _ _ _ _ _ _ _ q => sub_int q
theorem op_mul : OpR X (binaryOp .Mult) (rI CMul fun i j => .int (i * j)) := opI fun _ _ _ _ _ _ _ hc q => mul_int q hc.ok
theorem op_mod : OpR X (binaryOp .Mod) (rI (fun _ j => 0 < j) fun i j => .int (i % j)) := opI fun i j _ _ _ _ _ hc q => by
  have h1 : (0 : Int) < j := hc
  exact mod_int' (by omega) (by rw [Int.fmod_eq_emod_of_nonneg i (by omega)]; exact q)
theorem op_pow : OpR X (binaryOp .Pow) (rI CPow fun i j => .int (i ^ j.toNat)) := opI fun _ _ _ _ _ _ _ hc q => pow_int_small hc.1 hc.2.1 hc.2.2 q
theorem op_xor : OpR X (binaryOp .BitXor) (rI0 fun i j => .int (Builtin.bitXor i j)) := opI0 fun _ _ _ _ _ _ _ q => xor_int q

theorem unI {f : Value → Sem Value} {g : Int → Int}
    (rule : ∀ (i : Int) (t : Tok) (s : Shared) (Q : Value → Shared → Prop) (E : Value → Shared → Prop), Q (.int (g i) s.toks) { s with toks := s.toks + 1 } → wpAny (model X.prog X.w) X.A (f (.int i t)) Q E s) :
    UnR X f (rU fun i => .int (g i)) := by
  intro pins s σ H x v Q I rx h
  obtain ⟨i, rfl, q⟩ := h
  obtain ⟨t, rfl⟩ := rx
  exact rule i t s _ _ ⟨.int (g i), H, I.tok _, ⟨_, rfl⟩, q⟩
theorem un_neg : UnR X (unaryOp .USub) (rU fun i => .int (-i)) := unI fun _ _ _ _ _ q => neg_int q
end

noncomputable def scal : V → V → Bool
  | .non, .non => true | .non, .int _ => true | .int _, .non => true | .non, .bl _ => true | .bl _, .non => true | .non, .str _ => true | .str _, .non => true
  | .int _, .int _ => true | .bl _, .bl _ => true | .str _, .str _ => true | .byt _, .byt _ => true
  | .int _, .str _ => true | .str _, .int _ => true | .bl _, .str _ => true | .str _, .bl _ => true
  | _, _ => false
noncomputable def rEq : R2 := fun x y H Q => scal x y = true ∧ Q (.bl (decide (x = y))) H
noncomputable def rNe : R2 := fun x y H Q => scal x y = true ∧ Q (.bl (!decide (x = y))) H

theorem dec_int {i j : Int} : decide (V.int i = V.int j) = (i == j) := by
  rw [Bool.eq_iff_iff]
  simp
theorem dec_bl {i j : Bool} : decide (V.bl i = V.bl j) = (i == j) := by
  rw [Bool.eq_iff_iff]
  simp
theorem dec_str {i j : Str} : decide (V.str i = V.str j) = (i == j) := by
  rw [Bool.eq_iff_iff]
  simp
theorem dec_byt {i j : Array UInt8} : decide (V.byt i = V.byt j) = (i.toList == j.toList) := by
  rw [Bool.eq_iff_iff]
  cases i
  cases j
  simp

section
variable {X : Cx} {a b c : Expr} {ta tb tc : TE} {pos : Pos}
theorem fin_bl {pins : List (Addr × Obj)} {σ : St} {H : Hp} {s : Shared} {Q : VK} {k k' : Bool} (I : Inv X pins σ H s) (q : Q (.bl k) H) (e : k = k') : EP X pins σ Q (.bool k') s := by
  subst e
  exact ⟨.bl k, H, I, rfl, q⟩
theorem op_eq : OpR X (compareOp .Eq) rEq := by
  intro pins s σ H x y v u Q I rx ry h
  obtain ⟨hs, q⟩ := h
  cases x with
  | non =>
    cases rx
    cases y with
    | non => cases ry; exact PySem.EqNone.eq_none_none (fin_bl I q (by simp))
    | bl j => cases ry; exact PySem.EqNone.eq_none_bool (fin_bl I q (by simp))
    | int j => obtain ⟨t', rfl⟩ := ry; exact PySem.EqNone.eq_none_int (fin_bl I q (by simp))
    | str j => obtain ⟨t', rfl⟩ := ry; exact PySem.EqNone.eq_none_str (fin_bl I q (by simp))
    | _ => exact absurd (show false = true from hs) Bool.false_ne_true
  | bl i =>
    cases rx
    cases y with
    | non => cases ry; exact PySem.EqNone.eq_bool_none (fin_bl I q (by simp))
    | bl j => cases ry; exact eq_bool (fin_bl I q dec_bl)
    | str j => obtain ⟨t', rfl⟩ := ry; exact PySem.EqMixed.eq_bool_str (fin_bl I q (by simp))
    | _ => exact absurd (show false = true from hs) Bool.false_ne_true
  | int i =>
    obtain ⟨t, rfl⟩ := rx
    cases y with
    | non => cases ry; exact PySem.EqNone.eq_int_none (fin_bl I q (by simp))
    | int j => obtain ⟨t', rfl⟩ := ry; exact eq_int (fin_bl I q dec_int)
    | str j => obtain ⟨t', rfl⟩ := ry; exact PySem.EqMixed.eq_int_str (fin_bl I q (by simp))
    | _ => exact absurd (show false = true from hs) Bool.false_ne_true
  | str i =>
    obtain ⟨t, rfl⟩ := rx
    cases y with
    | non => cases ry; exact PySem.EqNone.eq_str_none (fin_bl I q (by simp))
    | bl j => cases ry; exact PySem.EqMixed.eq_str_bool (fin_bl I q (by simp))
    | int j => obtain ⟨t', rfl⟩ := ry; exact PySem.EqMixed.eq_str_int (fin_bl I q (by simp))
    | str j => obtain ⟨t', rfl⟩ := ry; exact eq_str (fin_bl I q dec_str)
    | _ => exact absurd (show false = true from hs) Bool.false_ne_true
  | byt i =>
    obtain ⟨t, rfl⟩ := rx
    cases y with
    | byt j => obtain ⟨t', rfl⟩ := ry; exact PySem.W.eq_bytes (fin_bl I q dec_byt)
    | _ => exact absurd (show false = true from hs) Bool.false_ne_true
  | _ => cases y <;> exact absurd (show false = true from hs) Bool.false_ne_true
theorem op_ne : OpR X (compareOp .NotEq) rNe := by
  intro pins s σ H x y v u Q I rx ry h
  obtain ⟨hs, q⟩ := h
  cases x with
  | non =>
    cases rx
    cases y with
    | non => cases ry; exact PySem.EqNone.ne_none_none (fin_bl I q (by simp))
    | bl j => cases ry; exact PySem.EqNone.ne_none_bool (fin_bl I q (by simp))
    | int j => obtain ⟨t', rfl⟩ := ry; exact PySem.EqNone.ne_none_int (fin_bl I q (by simp))
    | str j => obtain ⟨t', rfl⟩ := ry; exact PySem.EqNone.ne_none_str (fin_bl I q (by simp))
    | _ => exact absurd (show false = true from hs) Bool.false_ne_true
  | bl i =>
    cases rx
    cases y with
    | non => cases ry; exact PySem.EqNone.ne_bool_none (fin_bl I q (by simp))
    | bl j => cases ry; exact ne_bool (fin_bl I q (congrArg not dec_bl))
    | str j => obtain ⟨t', rfl⟩ := ry; exact PySem.EqMixed.ne_bool_str (fin_bl I q (by simp))
    | _ => exact absurd (show false = true from hs) Bool.false_ne_true
  | int i =>
    obtain ⟨t, rfl⟩ := rx
    cases y with
    | non => cases ry; exact PySem.EqNone.ne_int_none (fin_bl I q (by simp))
    | int j => obtain ⟨t', rfl⟩ := ry; exact ne_int (fin_bl I q (congrArg not dec_int))
    | str j => obtain ⟨t', rfl⟩ := ry; exact PySem.EqMixed.ne_int_str (fin_bl I q (by simp))
    | _ => exact absurd (show false = true from hs) Bool.false_ne_true
  | str i =>
    obtain ⟨t, rfl⟩ := rx
    cases y with
    | non => cases ry; exact PySem.EqNone.ne_str_none (fin_bl I q (by simp))
    | bl j => cases ry; exact PySem.EqMixed.ne_str_bool (fin_bl I q (by simp))
    | int j => obtain ⟨t', rfl⟩ := ry; exact PySem.EqMixed.ne_str_int (fin_bl I q (by simp))
    | str j => obtain ⟨t', rfl⟩ := ry; exact ne_str (fin_bl I q (congrArg not dec_str))
    | _ => exact absurd (show false = true from hs) Bool.false_ne_true
  | byt i =>
    obtain ⟨t, rfl⟩ := rx
    cases y with
    | byt j => obtain ⟨t', rfl⟩ := ry; exact PySem.W.ne_bytes (fin_bl I q (congrArg not dec_byt))
    | _ => exact absurd (show false = true from hs) Bool.false_ne_true
  | _ => cases y <;> exact absurd (show false = true from hs) Bool.false_ne_true

theorem op_lt : OpR X (compareOp .Lt) (rI0 fun i j => .bl (decide (i < j))) := opB0 fun _ _ _ _ _ _ _ q => lt_int q
theorem op_le : OpR X (compareOp .LtE) (rI0 fun i j => .bl (decide (i ≤ j))) := opB0 fun _ _ _ _ _ _ _ q => le_int q
theorem op_gt : OpR X (compareOp .Gt) (rI0 fun i j => .bl (decide (j < i))) := opB0 fun _ _ _ _ _ _ _ q => gt_int q
theorem op_in_str : OpR X (compareOp .In) (fun x y H Q => ∃ i j, x = .str i ∧ y = .str j ∧ Q (.bl (!(Builtin.Str.occurrences j i 0 j.length 1).isEmpty)) H) := by
  intro pins s σ H x y v u Q I rx ry h
  obtain ⟨i, j, rfl, rfl, q⟩ := h
  obtain ⟨t, rfl⟩ := rx
  obtain ⟨t', rfl⟩ := ry
  exact in_str (fin_bl I q rfl)

theorem op_isN : OpR X (compareOp .Is) (fun x y H Q => y = .non ∧ Q (.bl (decide (x = .non))) H) := by
  intro pins s σ H x y v u Q I rx ry h
  obtain ⟨rfl, q⟩ := h
  cases ry
  refine is_none_gen (fin_bl I q ?_)
  cases x <;> first
    | (cases rx; rfl)
    | (obtain ⟨t, rfl⟩ := rx; rfl)
theorem nomark (b : Expr) {op : CmpOp} (h : op ≠ .In := by decide) (h2 : op ≠ .NotIn := by decide) : behindInMarks op b = false := by
  have e1 : (op == CmpOp.In) = false := by cases op <;> first | rfl | exact absurd rfl h
  have e2 : (op == CmpOp.NotIn) = false := by cases op <;> first | rfl | exact absurd rfl h2
  cases b <;> simp [behindInMarks, e1, e2]
theorem pe_cmpR {op : CmpOp} {r : R2} (ho : OpR X (compareOp op) r) (ha : PE X a ta) (hb : PE X b tb) (hm : behindInMarks op b = false) : PE X (.Compare a [op] [b] pos) (tOp r ta tb) := by
  intro pins s σ H Q I h
  exact wpAny_Compare1 (binT ha hb I h fun v u s2 x y H2 I2 rx ry q => ho pins s2 σ H2 x y v u Q I2 rx ry q) hm
noncomputable def tTest (t : TE) : TT := fun σ H Q => t σ H fun x H' => ∃ k, x = .bl k ∧ Q k H'
theorem pt_cmpR {op : CmpOp} {r : R2} (ho : OpR X (compareOp op) r) (ha : PE X a ta) (hb : PE X b tb) (hm : behindInMarks op b = false) : PT X (.Compare a [op] [b] pos) (tTest (tOp r ta tb)) := by
  intro pins s σ H Q I h
  refine wpAny_isTrue_Compare1 (thn (ha pins s σ H _ I h) fun v s1 ⟨x, H1, I1, r1, q1⟩ => thn (hb pins s1 σ H1 _ I1 q1) fun u s2 ⟨y, H2, I2, r2, q2⟩ =>
    thn (ho pins s2 σ H2 x y v u _ I2 r1 r2 q2) fun c s3 ⟨z, H3, I3, r3, k, e, q3⟩ => ?_) hm
  subst e
  cases r3
  exact wpAny_truthy_bool ⟨H3, I3, q3⟩
noncomputable def tChain (r r' : R2) (ta tb tc : TE) : TE := fun σ H Q => ta σ H fun x H1 => tb σ H1 fun y H2 => r x y H2 fun z H3 => ∃ k, z = .bl k ∧
  (if k = true then tc σ H3 fun w' H4 => r' y w' H4 Q else Q (.bl false) H3)
theorem pe_chain {op op' : CmpOp} {r r' : R2} (ho : OpR X (compareOp op) r) (ho' : OpR X (compareOp op') r') (ha : PE X a ta) (hb : PE X b tb) (hc : PE X c tc)
    (hm : lastMarks [op, op'] [b, c] = false := by with_unfolding_all rfl) : PE X (.Compare a [op, op'] [b, c] pos) (tChain r r' ta tb tc) := by
  intro pins s σ H Q I h
  refine Compare_chain (thn (ha pins s σ H _ I h) fun v s1 ⟨x, H1, I1, r1, q1⟩ => chain_link (thn (hb pins s1 σ H1 _ I1 q1) fun u s2 ⟨y, H2, I2, r2, q2⟩ =>
    thn (ho pins s2 σ H2 x y v u _ I2 r1 r2 q2) fun d s3 ⟨z, H3, I3, r3, k, e, q3⟩ => ?_)) hm
  subst e
  cases r3
  refine wpAny_truthy_bool ?_
  cases k with
  | false => exact ite_ff ⟨.bl false, H3, I3, rfl, q3⟩
  | true => exact ite_tt (chain_last (thn (hc pins s3 σ H3 _ I3 q3) fun w' s4 ⟨z', H4, I4, r4, q4⟩ => ho' pins s4 σ H4 y z' u w' Q I4 r2 r4 q4))
theorem line63 : (sizeLine : Nat) < 2 ^ 63 := by rw [sizeLine_eq]; decide
theorem op_add_str : OpR X (binaryOp .Add) (fun x y H Q => ∃ i j, x = .str i ∧ y = .str j ∧ i.length + j.length ≤ sizeLine ∧ Q (.str (i ++ j)) H) := by
  intro pins s σ H x y v u Q I rx ry h
  obtain ⟨i, j, rfl, rfl, hz, q⟩ := h
  obtain ⟨t, rfl⟩ := rx
  obtain ⟨t', rfl⟩ := ry
  exact add_str (fun t' tk => ⟨.str (i ++ j), H, I.tok _, ⟨_, rfl⟩, q⟩) hz
theorem vals1 {x : V} {us : List Value} (r : Vals [x] us) : ∃ u, us = [u] ∧ RelV x u := by
  cases r with
  | cons r1 r2 => cases r2; exact ⟨_, rfl, r1⟩
theorem vals2 {x y : V} {us : List Value} (r : Vals [x, y] us) : ∃ u w', us = [u, w'] ∧ RelV x u ∧ RelV y w' := by
  cases r with
  | cons r1 r2 =>
    cases r2 with
    | cons r3 r4 => cases r4; exact ⟨_, _, rfl, r1, r3⟩
theorem call_int1 : CallR X (.type "int") (fun xs H Q => (∃ i, xs = [.int i] ∧ Q (.int i) H) ∨ ∃ k, xs = [.bl k] ∧ Q (.int (if k then 1 else 0)) H) := by
  intro pins s σ H xs us Q I r h
  rcases h with ⟨i, rfl, q⟩ | ⟨k, rfl, q⟩
  · obtain ⟨u, rfl, t, rfl⟩ := vals1 r
    exact call_int_int ⟨.int i, H, I, ⟨_, rfl⟩, q⟩
  · obtain ⟨u, rfl, r1⟩ := vals1 r
    cases r1
    exact call_int_bool ⟨.int (if k then 1 else 0), H, I.tok _, ⟨_, rfl⟩, q⟩
theorem call_str_int : CallR X (.type "str") (fun xs H Q => ∃ i, xs = [.int i] ∧ i.natAbs.log2 < 1920 ∧ Q (.str (toString i)) H) := by
  intro pins s σ H xs us Q I r h
  obtain ⟨i, rfl, hz, q⟩ := h
  obtain ⟨u, rfl, t, rfl⟩ := vals1 r
  exact PySem.P.str_of_int hz ⟨.str _, H, I.tok _, ⟨_, rfl⟩, q⟩
end
end L2

namespace L2
open PySem PySem.Spec PyProof.Rows

structure ObjM (h : Heap) (x dx C : Addr) (mA : Str → Option Value) : Prop where
  obj : h.get? x = some (PySem.W.instObj C dx)
  ns : h.Ns1 dx mA
  ne : dx ≠ x

theorem lookIn_ns {h : Heap} {dx : Addr} {mA : Str → Option Value} (n : h.Ns1 dx mA) : ∃ od, h.get? dx = some od ∧ ∀ name, PySem.W.lookIn name od = some (mA name) := by
  obtain ⟨o, es, ep, ho, hd, hk, _, hm⟩ := n
  refine ⟨o, ho, fun name => ?_⟩
  have e := hm name
  unfold nsFind findBy at e
  rw [← Array.find?_toList] at e
  unfold PySem.W.lookIn
  rw [hd]
  dsimp only
  split
  · rename_i y q
    rw [q] at e
    exact congrArg some e
  · rename_i q
    rw [q] at e
    have a : es.toList.any (·.refKey) = false := by
      rw [List.any_eq_false]
      intro y hy
      obtain ⟨z, t, hkey⟩ := hk y (Array.mem_toList_iff.mp hy)
      simp [DictEntry.refKey, hkey]
    have a' : ¬ es.toList.any (·.refKey) = true := by rw [a]; exact Bool.false_ne_true
    rw [if_neg a']
    exact congrArg some e

theorem ObjM.look {h : Heap} {x dx C : Addr} {mA : Str → Option Value} (I : ObjM h x dx C mA) : ∃ od, PySem.W.InstAt h x (PySem.W.instObj C dx) C (some od) ∧ ∀ name, PySem.W.lookIn name od = some (mA name) :=
  let ⟨od, ho, hl⟩ := lookIn_ns I.ns
  ⟨od, ⟨I.obj, rfl, rfl, ho⟩, hl⟩

section
variable {prog : Program} {w : World} {A : Around} {E : Value → Shared → Prop} {s : Shared} {K : PySem.W.Frag} {x dx C f : Addr} {mA : Str → Option Value} {name : Str} {v : Value}

end

theorem RelO.some_of {v : V} {o : Option Value} (r : RelO (some v) o) : ∃ u, o = some u ∧ RelV v u := by
  cases o with
  | none => exact (show False from r).elim
  | some u => exact ⟨u, rfl, r⟩
theorem handed_of {v : V} {u : Value} (r : RelV v u) : PySem.W.handedIn u = true := by
  cases v with
  | non => cases (show u = Value.none from r); rfl
  | bl b => cases (show u = Value.bool b from r); rfl
  | int i => obtain ⟨t, e⟩ := (show ∃ t, u = Value.int i t from r); cases e; rfl
  | str x => obtain ⟨t, e⟩ := (show ∃ t, u = Value.str x t from r); cases e; rfl
  | byt b => obtain ⟨t, e⟩ := (show ∃ t, u = Value.bytes b t from r); cases e; rfl
  | flt b => obtain ⟨t, e⟩ := (show ∃ t, u = Value.float b t from r); cases e; rfl
  | ref a => cases (show u = Value.ref a from r); rfl
  | ty n => cases (show u = Value.type n from r); rfl

section
variable {P : Program} {w : World} {H H' : Hp} {h h' : Heap} {a C dx : Addr} {fs fs' : List (Str × V)}
theorem ins_get (hok : HOk P w H h) (e : H a = some (.ins C dx fs)) : ∃ mA, ObjM h a dx C mA ∧ (∀ f, RelO (fs.lookup f) (mA f)) ∧ PySem.Within mA (fs.map (·.1)) ∧ fs.length ≤ 1000 ∧ H dx = some (.own a) := by
  obtain ⟨d, z, ne, ob, mA, n, r, q⟩ := (show ObjOk P w H h a (.ins C dx fs) from hok a _ e)
  exact ⟨mA, ⟨ob, n, ne⟩, r, q, z, d⟩
end

structure Cls (K : PySem.W.Frag) (C : Addr) : Prop where
  pg : PySem.W.plainGet K C Str.empty = true
  hd : PySem.W.hasDictIn K C = true
  po : PySem.W.plainOver K C = true
  sa : PySem.W.findIn K (.ref C) "__setattr__" = some (some (.builtin "object.__setattr__"))
theorem Cls.get {K : PySem.W.Frag} {C : Addr} (c : Cls K C) (f : Str) : PySem.W.plainGet K C f = true := c.pg
section
variable {X : Cx} {pins : List (Addr × Obj)} {σ : St} {H : Hp} {s : Shared} {a C dx : Addr} {fs : List (Str × V)} {f : Str} {v : V} {A : Around} {E : Value → Shared → Prop}

theorem attr_of {prog : Program} {w : World} {env : Env} {e : Expr} {f : Str} {pos : Pos} {s : Shared} {Q : Value → Shared → Prop} (hb : attributeBase e f env (eval e env) = eval e env)
    (h : wpAny (model prog w) A (eval e env) (fun o s₁ => wpAny (model prog w) A (getAttr o f true) Q E s₁) E s) : wpAny (model prog w) A (eval (.Attribute e f pos) env) Q E s :=
  Attribute_any_ h (by rw [arm_eval_Attribute, hb])
end

section
variable {X : Cx} {o e value : Expr} {f : Str} {pos pos' tpos : Pos} {ta tv : TE}
end

section
variable {X : Cx} {pins : List (Addr × Obj)} {σ : St} {H : Hp} {s : Shared} {A : Around} {E : Value → Shared → Prop} {Q : Value → Shared → Prop} {c : Value} {b : Bool}
inductive TyOf (K : PySem.W.Frag) (H : Hp) : V → Value → Prop where
  | non : TyOf K H .non (.type "NoneType")
  | bl (x : Bool) : TyOf K H (.bl x) (.type "bool")
  | int (i : Int) : TyOf K H (.int i) (.type "int")
  | str (x : Str) : TyOf K H (.str x) (.type "str")
  | flt (x : UInt64) : TyOf K H (.flt x) (.type "float")
  | lst {a : Addr} {xs : List V} (e : H a = some (.lst xs)) : TyOf K H (.ref a) (.type "list")
  | frz {a : Addr} {o : Obj} {xs : List V} (e : H a = some (.frz o (.lst xs))) : TyOf K H (.ref a) (.type "list")
  | tup {a : Addr} {xs : List V} (e : H a = some (.tup xs)) : TyOf K H (.ref a) (.type "tuple")
  | dK {a : Addr} {kvs : List (Key × V)} (e : H a = some (.dK kvs)) : TyOf K H (.ref a) (.type "dict")
  | dT {a : Addr} {kvs : List (List Key × V)} (e : H a = some (.dT kvs)) : TyOf K H (.ref a) (.type "dict")
  | ins {a C dx : Addr} {fs : List (Str × V)} (e : H a = some (.ins C dx fs)) (cl : Cls K C) (ha : PySem.W.findIn K (.ref C) "__class__" = some (some (.builtin "object.__class__")))
      (hn : PySem.W.specialIn K (.builtin "object.__class__") "__get__" = some (some (.builtin "getset_descriptor.__get__"))) (htk : PySem.W.takesIn K (.builtin "object.__class__") = some true)
      (hm : PySem.W.mroIn K C (.type "object") = some true) : TyOf K H (.ref a) (.ref C)
theorem isinst_ok {x : V} {u t : Value} (I : Inv X pins σ H s) (rx : RelV x u) (ty : TyOf X.K H x t) (e : PySem.W.kitOne X.K t c = some b) (h : ∀ tk, Q (.bool b) { s with toks := tk }) :
    wpAny (model X.prog X.w) A (call (.builtin "isinstance") [u, c]) Q E s := by
  cases ty with
  | non => cases (show u = Value.none from rx); exact PySem.W.kia_one PySem.W.kitx_none I.kIn True.intro e (fun z => nomatch z) h
  | bl y => cases (show u = Value.bool y from rx); exact PySem.W.kia_one PySem.W.kitx_bool I.kIn True.intro e (fun z => nomatch z) h
  | int i => obtain ⟨t, q⟩ := (show ∃ t, u = Value.int i t from rx); cases q; exact PySem.W.kia_one PySem.W.kitx_int I.kIn True.intro e (fun z => nomatch z) h
  | str y => obtain ⟨t, q⟩ := (show ∃ t, u = Value.str y t from rx); cases q; exact PySem.W.kia_one PySem.W.kitx_str I.kIn True.intro e (fun z => nomatch z) h
  | flt y => obtain ⟨t, q⟩ := (show ∃ t, u = Value.float y t from rx); cases q; exact PySem.W.kia_one PySem.W.kitx_float I.kIn True.intro e (fun z => nomatch z) h
  | @lst a xs ea =>
    cases (show u = Value.ref a from rx)
    obtain ⟨_, _, n, _, h1⟩ := (show ObjOk X.prog X.w H s.heap a (.lst xs) from I.hok a _ ea)
    exact PySem.W.kia_one PySem.W.kitx_list I.kIn ⟨_, h1, rfl⟩ e (fun z => nomatch z) h
  | @frz a ob xs ea =>
    cases (show u = Value.ref a from rx)
    obtain ⟨_, _, _, n, _, h1⟩ := (show ObjOk X.prog X.w H s.heap a (.frz ob (.lst xs)) from I.hok a _ ea)
    exact PySem.W.kia_one PySem.W.kitx_list I.kIn ⟨_, h1, rfl⟩ e (fun z => nomatch z) h
  | @tup a xs ea =>
    cases (show u = Value.ref a from rx)
    obtain ⟨_, _, _, p⟩ := (show ObjOk X.prog X.w H s.heap a (.tup xs) from I.hok a _ ea)
    obtain ⟨o, h1, h2, _⟩ := p
    exact PySem.W.kia_one PySem.W.kitx_tuple I.kIn ⟨o, h1, h2⟩ e (fun z => nomatch z) h
  | @dK a kvs ea =>
    cases (show u = Value.ref a from rx)
    obtain ⟨_, _, vs, _, p⟩ := (show ObjOk X.prog X.w H s.heap a (.dK kvs) from I.hok a _ ea)
    obtain ⟨o, es, ep, h1, h2, _⟩ := p
    exact PySem.W.kia_one PySem.W.kitx_dict I.kIn ⟨o, h1, h2.1⟩ e (fun z => nomatch z) h
  | @dT a kvs ea =>
    cases (show u = Value.ref a from rx)
    obtain ⟨_, _, xs, _, o, es, ep, h1, h2, _⟩ := (show ObjOk X.prog X.w H s.heap a (.dT kvs) from I.hok a _ ea)
    exact PySem.W.kia_one PySem.W.kitx_dict I.kIn ⟨o, h1, h2.1⟩ e (fun z => nomatch z) h
  | @ins a C dx fs ea cl ha hn htk hm =>
    cases (show u = Value.ref a from rx)
    obtain ⟨mA, O, _⟩ := ins_get I.hok ea
    obtain ⟨od, J, _⟩ := O.look
    exact PySem.W.kia_one (PySem.W.kitx_own (cl.get _) cl.hd ha hn htk hm) I.kIn J e (fun z => nomatch z) h
end
end L2

namespace L2
open PySem PySem.Spec PyProof.Rows

structure Room (k : Nat) (A : Around) : Prop where
  hd : A.handled = none
  dp : A.depth + 3 * k + 5 < recursionLimit
  un : A.units + 16 * k + 200 < cLine
  gd : A.guards = some []
theorem Room.mono {j k : Nat} {A : Around} (r : Room k A) (h : j ≤ k) : Room j A := ⟨r.hd, by have := r.dp; omega, by have := r.un; omega, r.gd⟩
theorem Room.deeper {k : Nat} {A : Around} (r : Room (k + 1) A) (env : Env) : Room k (A.deeper env) :=
  ⟨r.hd, by have := r.dp; show A.depth + 1 + 3 * k + 5 < _; omega, by have := r.un; show A.units + 3 + 16 * k + 200 < _; omega, r.gd⟩
theorem make_depth {A : Around} {C : Addr} {us : List Value} {kw : List (Str × Value)} : (A.under (.builtin "type.__call__" ⟨.ref C :: us, kw⟩)).depth = A.depth + 1 := by
  first | rfl | simp [Around.under, Code.weight, Code.isCreation, Code.isGuard, Code.isCaller, Code.frames, Code.isFrame, guardIds]
theorem make_units {A : Around} {C : Addr} {us : List Value} {kw : List (Str × Value)} : (A.under (.builtin "type.__call__" ⟨.ref C :: us, kw⟩)).units = A.units + 1 := by
  first | rfl | simp [Around.under, Code.cUnits, Code.frames, Code.isFrame]
theorem Room.make {k : Nat} {A : Around} (r : Room (k + 1) A) (C : Addr) (us : List Value) (kw : List (Str × Value)) : Room k (A.under (.builtin "type.__call__" ⟨.ref C :: us, kw⟩)) :=
  ⟨r.hd, by have := r.dp; rw [make_depth]; omega, by have := r.un; rw [make_units]; omega, by first | exact r.gd | (simpa [Around.under, Code.guards, pushGuards, Code.isGuard, guardIds] using r.gd)⟩
theorem Room.depth {k : Nat} {A : Around} (r : Room k A) : A.depth < recursionLimit := by have := r.dp; omega
theorem Room.units {k : Nat} {A : Around} (r : Room k A) : A.units + 64 < cLine := by have := r.un; omega
noncomputable def tNil : TA := fun _ H Q => Q [] H
noncomputable def tCons (ta : TE) (tr : TA) : TA := fun σ H Q => ta σ H fun x H1 => tr σ H1 fun xs H2 => Q (x :: xs) H2
section
variable {X : Cx} {e : Expr} {es : List Expr} {te : TE} {t : TA} {pos : Pos}
theorem pa_nil : PA X [] tNil := fun _ _ _ _ H Q I h => Calls.spliced_nil ⟨[], H, I, .nil, h⟩
theorem pa_cons (ha : PE X e te) (hr : PA X es t) (hs : starEach (e :: es) X.env = (false, eval e X.env) :: starEach es X.env := by rfl) : PA X (e :: es) (tCons te t) := by
  intro pos pins s σ H Q I h
  rw [hs]
  show wpAny _ _ (spliced ((false, eval e X.env) :: backTo pos (starEach es X.env))) _ _ s
  refine Calls.spliced_cons (thn (ha pins s σ H _ I h) fun u s1 ⟨x, H1, I1, r1, q1⟩ => ?_)
  exact thn (hr pos pins s1 σ H1 _ I1 q1) fun us s2 ⟨xs, H2, I2, r2, q2⟩ => ⟨x :: xs, H2, I2, .cons r1 r2, q2⟩

noncomputable def tTup (t : TA) : TE := fun σ H Q => t σ H fun xs H1 => xs.length ≤ sizeLine ∧ ∀ p, H1 p = none → Q (.ref p) (upd H1 p (.tup xs))
noncomputable def tLst (t : TA) : TE := fun σ H Q => t σ H fun xs H1 => xs.length ≤ sizeLine ∧ ∀ p, H1 p = none → Q (.ref p) (upd H1 p (.lst xs))
theorem pe_tup {x1} (h : PA X es t) : PE X (.Tuple es x1 pos) (tTup t) := by
  intro pins s σ H Q I hq
  refine wpAny_Tuple_spliced (thn (h pos pins s σ H _ I hq) fun us s1 ⟨xs, H1, I1, r, z, q⟩ => ⟨by rw [← r.length]; exact z, ?_⟩)
  have hf : H1 s1.heap.objs.size = none := I1.hok.fresh (Nat.le_refl _)
  refine ⟨.ref s1.heap.objs.size, upd H1 s1.heap.objs.size (.tup xs), I1.laid (t' := s1.toks) (fun b u e => Heap.get?_push_of_some _ e) (Nat.le_refl _) ?_, rfl, q _ hf⟩
  exact ⟨z, us, r, ⟨_, Heap.get?_push_size _ rfl, rfl, _, rfl⟩⟩
theorem pe_lst (h : PA X es t) : PE X (.List es pos) (tLst t) := by
  intro pins s σ H Q I hq
  refine wpAny_List_spliced (thn (h pos pins s σ H _ I hq) fun us s1 ⟨xs, H1, I1, r, z, q⟩ => ⟨by rw [← r.length]; exact z, ?_⟩)
  have hf : H1 s1.heap.objs.size = none := I1.hok.fresh (Nat.le_refl _)
  refine ⟨.ref s1.heap.objs.size, upd H1 s1.heap.objs.size (.lst xs), I1.laid (t' := s1.toks) (fun b u e => Heap.get?_push_of_some _ e) (Nat.le_refl _) ?_, rfl, q _ hf⟩
  exact ⟨z, us, 0, r, Heap.get?_push_size _ rfl⟩
end

noncomputable abbrev Sp := List V → Hp → VK → XK → Prop
noncomputable abbrev CXT := List Env → Hp → Shared → XK → Value → Shared → Prop

structure Env0 (P : Program) (w : World) (K : PySem.W.Frag) (mg : Str → Option Value) (base : Heap) (A : Around) (outer : List Env) (s : Shared) (H : Hp) : Prop where
  frames : A.frames = some outer
  mod : Mod K mg base
  bs : ∀ b o, base.get? b = some o → s.heap.get? b = some o ∧ H b = none
  bsz : base.objs.size ≤ s.heap.objs.size
  funs : s.heap.FunFrames base outer
  frf : ∀ b ∈ frs outer, H b = none
  hok : HOk P w H s.heap
  bare : AllBare s.gens
noncomputable def CE (outer : List Env) (P : Program) (w : World) (H : Hp) (s : Shared) (Q : VK) (u : Value) (s' : Shared) : Prop :=
  ∃ v H', s'.os = s.os ∧ AllBare s'.gens ∧ Un (frs outer) [] H H' s.heap s'.heap ∧ HOk P w H' s'.heap ∧ RelV v u ∧ Q v H'
noncomputable def CR (CX : CXT) (outer : List Env) (P : Program) (w : World) (H : Hp) (s : Shared) (Q : VK) (E : XK) (r : Result) (s' : Shared) : Prop :=
  match r with
  | .ok (.ret u) => CE outer P w H s Q u s'
  | .ok _ => False
  | .error e => CX outer H s E e s'
structure FnOk (P : Program) (w : World) (K : PySem.W.Frag) (mg : Str → Option Value) (base : Heap) (CX : CXT) (k : Nat) (f : Addr) (fd : FuncData) (ps : List Str) (sp : Sp) : Prop where
  len : ∀ vs H Q E, sp vs H Q E → vs.length = ps.length
  run : ∀ (A : Around) (outer : List Env) (s : Shared) (H : Hp) (args : Args) (us : List Value) (vs : List V) (Q : VK) (E : XK), Room k A → Env0 P w K mg base A outer s H → BindsTo s fd args (ps.zip us) → Vals vs us → sp vs H Q E →
    codeAny (model P w) A (.call (.ref f) args) (CR CX outer P w H s Q E) s
theorem FnOk.imp {P : Program} {w : World} {K : PySem.W.Frag} {mg : Str → Option Value} {base : Heap} {CX : CXT} {k : Nat} {f : Addr} {fd : FuncData} {ps : List Str} {sp sp' : Sp} (F : FnOk P w K mg base CX k f fd ps sp)
    (h : ∀ vs H Q E, sp' vs H Q E → sp vs H Q E) : FnOk P w K mg base CX k f fd ps sp' :=
  ⟨fun vs H Q E q => F.len vs H Q E (h _ _ _ _ q), fun A outer s H args us vs Q E hr he hb hv hs => F.run A outer s H args us vs Q E hr he hb hv (h _ _ _ _ hs)⟩

theorem Env0.make {P : Program} {w : World} {K : PySem.W.Frag} {mg : Str → Option Value} {base : Heap} {A : Around} {outer : List Env} {s : Shared} {H : Hp} (e : Env0 P w K mg base A outer s H) (C : Addr) (us : List Value) (kw : List (Str × Value)) :
    Env0 P w K mg base (A.under (.builtin "type.__call__" ⟨.ref C :: us, kw⟩)) outer s H := ⟨by first | exact e.frames | (simpa [Around.under, Code.envs, Code.isFrame, pushEnvs] using e.frames), e.mod, e.bs, e.bsz, e.funs, e.frf, e.hok, e.bare⟩
section
variable {X : Cx} {pins : List (Addr × Obj)} {σ : St} {H : Hp} {s s' : Shared}
theorem Inv.env0 (I : Inv X pins σ H s) : Env0 X.prog X.w X.K X.mg X.base X.A X.stack s H :=
  ⟨I.ok.frames, I.ok.mod, I.bs, Nat.le_trans I.ok.bsz I.sz, I.stack, I.stkFree, I.hok, I.bare⟩
theorem Inv.after {Q : VK} {u : Value} (I : Inv X pins σ H s) (h : CE X.stack X.prog X.w H s Q u s') : EP X pins σ Q u s' := by
  obtain ⟨v, H', os, bare, un, hok, r, q⟩ := h
  obtain ⟨hh, g, d, t, os'⟩ := s'
  obtain rfl : os' = s.os := os
  exact ⟨v, H', I.call (h' := hh) (g' := g) (d' := d) (t' := t) (ch := []) un hok bare (fun b z => absurd z (by simp)), r, q⟩
end

noncomputable def tCall (sp : Sp) (dvs : List V) (E : XK) (t : TA) : TE := fun σ H Q => t σ H fun vs H1 => sp (vs ++ dvs) H1 Q E
noncomputable def Binds (K : PySem.W.Frag) (fd : FuncData) (ps : List Str) (ds : List Value) : Prop :=
  ∀ (s : Shared) (us : List Value), K.In s.heap → (us ++ ds).length = ps.length → BindsTo s fd ⟨us, []⟩ (ps.zip (us ++ ds))
theorem Binds.all {K : PySem.W.Frag} {fd : FuncData} {ps : List Str} (h : ∀ us : List Value, us.length = ps.length → bindArgs fd ⟨us, []⟩ = pure (ps.zip us)) : Binds K fd ps [] := fun s us _ hl => by
  rw [List.append_nil] at hl ⊢
  exact .of_eq (h us hl)

noncomputable def Passes (CX : CXT) (X : Cx) (E : XK) : Prop := ∀ (pins : List (Addr × Obj)) (σ : St) (H : Hp) (s : Shared) (e : Value) (s' : Shared), Inv X pins σ H s → CX X.stack H s E e s' → X.xe e s'

section
variable {X : Cx} {CX : CXT} {k : Nat} {f C : Addr} {fd : FuncData} {ps : List Str} {sp : Sp} {dvs : List V} {ds : List Value} {E : XK} {x m : Str} {p pos apos : Pos} {e o : Expr} {es : List Expr} {ta : TE} {t : TA}

theorem run_fn {pins : List (Addr × Obj)} {σ : St} {H : Hp} {s : Shared} {Q : VK} {us : List Value} {vs : List V} (F : FnOk X.prog X.w X.K X.mg X.base CX k f fd ps sp) (hr : Room k X.A) (hb : Binds X.K fd ps ds) (hd : Vals dvs ds) (hx : Passes CX X E)
    (I : Inv X pins σ H s) (r : Vals vs us) (h : sp (vs ++ dvs) H Q E) : wpAny (model X.prog X.w) X.A (call (.ref f) us) (EP X pins σ Q) X.xe s := by
  have r2 : Vals (vs ++ dvs) (us ++ ds) := r.append hd
  have hl : (us ++ ds).length = ps.length := by rw [← r2.length]; exact F.len _ _ _ _ h
  refine wpAny_call (codeAny_mono (F.run X.A X.stack s H ⟨us, []⟩ (us ++ ds) (vs ++ dvs) Q E hr I.env0 (hb s us I.kIn hl) r2 h) fun r s' hq => ?_)
  cases r with
  | error e => exact hx pins σ H s e s' I hq
  | ok fl =>
    cases fl with
    | ret u => exact I.after hq
    | next => exact False.elim hq
    | brk => exact False.elim hq
    | cont => exact False.elim hq

theorem pe_call (F : FnOk X.prog X.w X.K X.mg X.base CX k f fd ps sp) (hr : Room k X.A) (hg : Gl X x) (hm : X.mg x = some (.ref f)) (hk : PySem.W.keepIn X.K (.ref f) = true) (hb : Binds X.K fd ps ds) (hd : Vals dvs ds) (hx : Passes CX X E)
    (ha : PA X (e :: es) t) (hdb : (x == ("__debug__" : Str)) = false := by decide) (he : starEach (e :: es) X.env = (false, eval e X.env) :: starEach es X.env := by rfl) (hpl : (backTo pos (starEach es X.env)).any (·.1) = false := by rfl) :
    PE X (.Call (.Name x p) (e :: es) [] pos) (tCall sp dvs E t) := by
  intro pins s σ H Q I h
  refine wpAny_Call_Name_kw (ld_glob I hg hm ?_ hdb)
  refine PySem.W.callWith_K (h₀ := X.base) I.ok.mod.kin hk (thn (ha pos pins s σ H _ I h) fun us s1 ⟨vs, H1, I1, r, q⟩ => ⟨I1.kIn, ?_⟩) he hpl
  exact run_fn F hr hb hd hx I1 r q
end

section
variable {X : Cx} {CX : CXT} {k : Nat} {f C : Addr} {fd : FuncData} {ps ks : List Str} {sp : Sp} {E : XK} {x m : Str} {p pos apos kpos : Pos} {e o : Expr} {es : List Expr} {kws : List Keyword} {te ta : TE} {t tk : TA} {nm : Option Str}
variable {g : List Value → List Value → List Value} {gV : List V → List V → List V}
end

structure FnScope (N P : List Str) (sc : Scope) : Prop where
  kind : sc.kind = .function
  co : sc.isCoroutine = false
  gen : sc.isGenerator = false
  nd : N.Nodup
  pre : N.take P.length = P
  par : ∀ x ∈ P, sc.names.lookup x = some .local ∨ sc.names.lookup x = some .cell
  nofree : ∀ y ∈ sc.names, y.2 ≠ .free

theorem bindL_out {kindOf : Str → Option NameKind} {x : Str} : ∀ {binds : List (Str × Value)} {m : Str → Option Value}, (∀ v, (x, v) ∉ binds) → bindL kindOf binds m x = m x
  | [], _, _ => rfl
  | (n, v) :: r, m, h => by
    unfold bindL
    rw [bindL_out fun w hw => h w (List.mem_cons_of_mem _ hw)]
    split
    · have : x ≠ n := by rintro rfl; exact h v List.mem_cons_self
      simp [this]
    · rfl
theorem bindC_out {kindOf : Str → Option NameKind} {x : Str} : ∀ {binds : List (Str × Value)} {m : Str → Option Value}, (∀ v, (x, v) ∉ binds) → bindC kindOf binds m x = m x
  | [], _, _ => rfl
  | (n, v) :: r, m, h => by
    unfold bindC
    rw [bindC_out fun w hw => h w (List.mem_cons_of_mem _ hw)]
    split
    · rfl
    · have : x ≠ n := by rintro rfl; exact h v List.mem_cons_self
      simp [this]
theorem bindL_get {kindOf : Str → Option NameKind} {x : Str} {v : Value} : ∀ {P : List Str} {vs : List Value} {i : Nat} {m : Str → Option Value}, P.Nodup → P[i]? = some x → vs[i]? = some v → kindOf x = some .local →
    bindL kindOf (P.zip vs) m x = some v
  | [], _, _, _, _, h, _, _ => by simp at h
  | _ :: _, [], _, _, _, _, h, _ => by simp at h
  | p :: P, w :: vs, 0, m, nd, h1, h2, hk => by
    simp at h1 h2; subst h1; subst h2
    show bindL kindOf ((p, w) :: P.zip vs) m p = _
    unfold bindL
    rw [bindL_out fun v hv => (List.nodup_cons.mp nd).1 (List.of_mem_zip hv).1, if_pos hk]
    simp
  | p :: P, w :: vs, i + 1, m, nd, h1, h2, hk => by
    show bindL kindOf ((p, w) :: P.zip vs) m x = _
    unfold bindL
    exact bindL_get (i := i) (List.nodup_cons.mp nd).2 (by simpa using h1) (by simpa using h2) hk
theorem bindC_get {kindOf : Str → Option NameKind} {x : Str} {v : Value} : ∀ {P : List Str} {vs : List Value} {i : Nat} {m : Str → Option Value}, P.Nodup → P[i]? = some x → vs[i]? = some v → kindOf x ≠ some .local →
    bindC kindOf (P.zip vs) m x = some v
  | [], _, _, _, _, h, _, _ => by simp at h
  | _ :: _, [], _, _, _, _, h, _ => by simp at h
  | p :: P, w :: vs, 0, m, nd, h1, h2, hk => by
    simp at h1 h2; subst h1; subst h2
    show bindC kindOf ((p, w) :: P.zip vs) m p = _
    unfold bindC
    rw [bindC_out fun v hv => (List.nodup_cons.mp nd).1 (List.of_mem_zip hv).1, if_neg hk]
    simp
  | p :: P, w :: vs, i + 1, m, nd, h1, h2, hk => by
    show bindC kindOf ((p, w) :: P.zip vs) m x = _
    unfold bindC
    exact bindC_get (i := i) (List.nodup_cons.mp nd).2 (by simpa using h1) (by simpa using h2) hk

noncomputable def start (N : List Str) (vs : List V) : St := vs.map some ++ List.replicate (N.length - vs.length) none

noncomputable def cxOf (CX : CXT) (P : Program) (w : World) (K : PySem.W.Frag) (mg : Str → Option Value) (base : Heap) (N : List Str) (qual : Str) (scope : Scope) (f : Addr) (cd : Value) (A : Around) (outer : List Env) (s : Shared) (H : Hp) (E : XK) : Cx where
  prog := P
  w := w
  K := K
  mg := mg
  base := base
  A := A.deeper (envOfC qual scope s.heap.objs.size f cd)
  N := N
  s₀ := s
  H₀ := H
  env := envOfC qual scope s.heap.objs.size f cd
  outer := outer
  stack := envOfC qual scope s.heap.objs.size f cd :: outer
  ex := []
  calm := true
  fn := fun _ => true
  pn := []
  xe := fun e s' => wpAny (model P w) (A.deeper (envOfC qual scope s.heap.objs.size f cd)) (leaving (envOfC qual scope s.heap.objs.size f cd) e) (fun _ s'' => CX outer H s E e s'') (fun e' s'' => CX outer H s E e' s'') s'

theorem cell_has {sc : Scope} {n : Nat} {x : Str} (h : sc.names.lookup x = some .cell) : ∃ c, (cellsFrom n sc.names []).lookup x = some c := by
  have q := PySem.W.cellsFrom_some sc.names n [] (.inl h)
  exact Option.isSome_iff_exists.mp q

theorem inv_start {CX : CXT} {P : Program} {w : World} {K : PySem.W.Frag} {mg : Str → Option Value} {base : Heap} {N ps : List Str} {qual : Str} {scope : Scope} {f : Addr} {cd : Value} {A : Around} {outer : List Env} {s s1 : Shared} {H : Hp} {E : XK} {us : List Value} {vs : List V}
    (S : FnScope N ps scope) (hd : A.handled = none) (e0 : Env0 P w K mg base A outer s H) (hl : vs.length = ps.length) (r : Vals vs us)
    (x : InCallC s s.heap.objs.size (bindL (envOfC qual scope s.heap.objs.size f cd).kindOf (ps.zip us) fun _ => none) (cellsFrom (s.heap.objs.size + 1) scope.names []) (bindC (envOfC qual scope s.heap.objs.size f cd).kindOf (ps.zip us) fun _ => none) s1) :
    Inv (cxOf CX P w K mg base N qual scope f cd A outer s H E) [] (start N vs) H s1 := by
  have hpl : ps.length ≤ N.length := by have := congrArg List.length S.pre; rw [List.length_take] at this; omega
  obtain ⟨h1, tk, rfl, hk⟩ := x.done
  have noA : ∀ b : Addr, b ∉ (cxOf CX P w K mg base N qual scope f cd A outer s H E).ex := fun b z => absurd (show b ∈ ([] : List Addr) from z) (by simp)
  refine ⟨⟨e0.mod, S.kind, rfl, rfl, Nat.le_refl _, fun y z c h1 h2 => ?_, fun y hy => ?_, fun y c _ h => ?_, fun _ => hd, Around.frames_deeper e0.frames, .inr ⟨rfl, rfl⟩, fun b z => absurd z (noA b), e0.bs, e0.bsz, fun b _ _ => noA b, fun b z => absurd z (noA b), e0.funs, e0.frf⟩,
    rfl, e0.bare, Un.kept hk, ⟨_, x.toInCall.ns, fun i y v h1 h2 h3 => ?_⟩, fun y c h => ⟨_, x.cell y c h⟩, e0.hok.fresh (Nat.le_refl _), fun y c h => ?_, fun p hp => absurd (show p ∈ ([] : List (Addr × Obj)) from hp) (by simp), e0.hok.kept hk, ?_⟩
  · exact name_of_addr x.apart (PySem.mem_of_lookup h1) (PySem.mem_of_lookup h2)
  · have hy : scope.names.lookup y = some .cell ∨ scope.names.lookup y = some .free := hy
    rcases hy with hy | hy
    · exact cell_has hy
    · exact absurd rfl (S.nofree _ (PySem.mem_of_lookup hy))
  · exact Nat.le_of_lt (x.above y c (PySem.mem_of_lookup h))
  · have hi : i < vs.length := by
      unfold start at h2
      by_cases hi : i < vs.length
      · exact hi
      · rw [List.getElem?_append_right (by simpa using hi)] at h2
        rw [List.getElem?_replicate] at h2
        split at h2 <;> cases h2
    have ha : vs[i]? = some v := by
      unfold start at h2
      rw [List.getElem?_append_left (by simpa using hi), List.getElem?_map] at h2
      cases e : vs[i]? with
      | none => rw [e] at h2; cases h2
      | some a => rw [e] at h2; cases h2; rfl
    obtain ⟨u, hu, rv⟩ := r.get ha
    have hp : ps[i]? = some y := by
      rw [← S.pre, List.getElem?_take_of_lt (by omega)]; exact h1
    have ndP : ps.Nodup := by rw [← S.pre]; exact S.nd.sublist (List.take_sublist _ _)
    refine ⟨u, rv, ?_⟩
    rcases S.par y (List.mem_of_getElem? hp) with k | k
    · exact .inl ⟨k, bindL_get ndP hp hu k⟩
    · obtain ⟨c, e⟩ := cell_has (n := s.heap.objs.size + 1) k
      refine .inr ⟨.inl k, c, e, ?_⟩
      have q := x.cell y c e
      rw [bindC_get ndP hp hu (by show scope.names.lookup y ≠ _; rw [k]; decide)] at q
      exact q
  · exact e0.hok.fresh (Nat.le_of_lt (x.above y c (PySem.mem_of_lookup h)))
  · unfold start
    show _ = N.length
    rw [List.length_append, List.length_map, List.length_replicate]
    omega

theorem fn_of {CX : CXT} {P : Program} {w : World} {K : PySem.W.Frag} {mg : Str → Option Value} {base : Heap} {k : Nat} {f : Addr} {name qual : Str} {params : Arguments} {body : List Stmt} {scope : Scope} {dV kV doc pm cdv ct oc : Value} {an od : Option Addr}
    {osl : Array (Option Value)} {N ps : List Str} {sp : Sp} (lk : K.lookup f = some ⟨oc, od, .func (PySem.W.fnOf name qual params body scope dV kV doc pm an cdv ct), osl⟩) (hcd : PySem.W.codeIn K cdv qual = true) (S : FnScope N ps scope)
    (len : ∀ vs H Q E, sp vs H Q E → vs.length = ps.length)
    (hbody : ∀ (A : Around) (outer : List Env) (s : Shared) (H : Hp) (vs : List V) (Q : VK) (E : XK), Room k (A.deeper (envOfC qual scope s.heap.objs.size f cdv)) → sp vs H Q E →
      ∃ t, PSs (cxOf CX P w K mg base N qual scope f cdv A outer s H E) body t ∧ t { nx := fun _ H' => Q .non H', rt := Q } (start N vs) H) :
    FnOk P w K mg base CX (k + 1) f (PySem.W.fnOf name qual params body scope dV kV doc pm an cdv ct) ps sp := by
  refine ⟨len, fun A outer s H args us vs Q E hr e0 hb r hsp => ?_⟩
  have hl := len _ _ _ _ hsp
  have KX : K.In s.heap := e0.mod.kin.keeps fun b o e => (e0.bs b o e).1
  have lim : s.heap.NoLimit := e0.mod.nolimit.keeps fun b o e => (e0.bs b o e).1
  have hkind : ∀ y ∈ ps.zip us, scope.names.lookup y.1 = some .local ∨ (scope.names.lookup y.1 = some .cell ∧ ((cellsFrom (s.heap.objs.size + 1) scope.names []).lookup y.1).isSome = true) := fun ⟨n, v⟩ hy => by
    rcases S.par n (List.of_mem_zip hy).1 with q | q
    · exact .inl q
    · exact .inr ⟨q, PySem.W.cellsFrom_some _ _ _ (.inl q)⟩
  refine codeAny_call_function hr.depth (KX _ _ lk) rfl S.co S.gen rfl (PySem.W.codeRec_of KX hcd) (hb _ _ _ _ ?_)
  refine wpAny_newFunctionEnv_cells S.kind hkind fun env he s1 x => ?_
  subst he
  refine ⟨lim.keeps x.toInCall.keep, codeAny_func ?_⟩
  obtain ⟨t, ht, hq⟩ := hbody A outer s H vs Q E (hr.deeper _) hsp
  have I : Inv (cxOf CX P w K mg base N qual scope f cdv A outer s H E) [] (start N vs) H s1 := inv_start S hr.hd e0 hl r x
  refine wpAny_mono (ht [] s1 (start N vs) H _ I hq) (fun fl s' hs => ?_) fun e s' hs => hs
  have fin : ∀ {σ' : St} {H' : Hp} {v : V} {u : Value}, Inv (cxOf CX P w K mg base N qual scope f cdv A outer s H E) [] σ' H' s' → RelV v u → Q v H' → CE outer P w H s Q u s' :=
    fun {σ' H' v u} J rv q => ⟨v, H', J.os, J.bare, J.base, J.hok, rv, q⟩
  cases fl with
  | ret u =>
    obtain ⟨v, σ', H', J, rv, q⟩ := hs
    exact fin J rv q
  | next =>
    obtain ⟨σ', H', J, q⟩ := hs
    exact fin (v := V.non) (u := Value.none) J rfl q
  | brk =>
    obtain ⟨_, _, _, q⟩ := hs
    exact False.elim q
  | cont =>
    obtain ⟨_, _, _, q⟩ := hs
    exact False.elim q
end L2

namespace L2
open PySem PySem.Spec PyProof.Rows
section
variable {X : Cx} {x : Str} {p pos : Pos} {e : Expr} {es : List Expr} {t : TA} {id T : String} {r : List V → Hp → VK → Prop}

noncomputable def tCB (r : List V → Hp → VK → Prop) (t : TA) : TE := fun σ H Q => t σ H fun vs H1 => r vs H1 Q
theorem pe_callB (hc : CallR X (.builtin id) r) (hg : Gl X x) (hm : X.mg x = none) (hv : bootBuiltins x = some (.builtin id)) (ha : PA X (e :: es) t) (hn : x ≠ "__name__" := by decide) (hdb : (x == ("__debug__" : Str)) = false := by decide)
    (he : starEach (e :: es) X.env = (false, eval e X.env) :: starEach es X.env := by rfl) (hpl : (backTo pos (starEach es X.env)).any (·.1) = false := by rfl) : PE X (.Call (.Name x p) (e :: es) [] pos) (tCB r t) := by
  intro pins s σ H Q I h
  refine wpAny_Call_Name_kw (ld_blt I hg hm hv ?_ hn hdb)
  exact PyProof.Rows.callWith_builtin1 (thn (ha pos pins s σ H _ I h) fun us s1 ⟨vs, H1, I1, r1, q1⟩ => hc pins s1 σ H1 vs us Q I1 r1 q1) he hpl
theorem pe_callTy (hc : CallR X (.type T) r) (hg : Gl X x) (hm : X.mg x = none) (hv : bootBuiltins x = some (.type T)) (ha : PA X (e :: es) t) (hn : x ≠ "__name__" := by decide) (hdb : (x == ("__debug__" : Str)) = false := by decide)
    (he : starEach (e :: es) X.env = (false, eval e X.env) :: starEach es X.env := by rfl) (hpl : (backTo pos (starEach es X.env)).any (·.1) = false := by rfl) : PE X (.Call (.Name x p) (e :: es) [] pos) (tCB r t) := by
  intro pins s σ H Q I h
  refine wpAny_Call_Name_kw (ld_blt I hg hm hv ?_ hn hdb)
  exact PyProof.Rows.callWith_type1 (thn (ha pos pins s σ H _ I h) fun us s1 ⟨vs, H1, I1, r1, q1⟩ => hc pins s1 σ H1 vs us Q I1 r1 q1) he hpl
end
end L2

namespace HT
open PySem PyProof.Rows

section
open PySem.SeqAt
open PySem.AutoSeq1 (wpAny_loadPart')
open PySem.MeetsSeq PySem.MeetsSeq2 PySem.MeetsSeq3

end

section
variable {prog : Program} {w : World} {A : Around} {E : Value → Shared → Prop} {s : Shared}

noncomputable def sIx (n d : Nat) : Option Int → Nat
  | none => d
  | some v => if v < 0 then (v + (n : Int)).toNat else min v.toNat n
theorem sIx_none (n d : Nat) : sIx n d none = d := rfl
theorem sIx_nat (n d k : Nat) : sIx n d (some (k : Int)) = min k n := by
  show (if (k : Int) < 0 then ((k : Int) + (n : Int)).toNat else min (k : Int).toNat n) = min k n
  rw [if_neg (by omega), Int.toNat_natCast]
end
end HT

namespace L2
open PySem PySem.Spec PyProof.Rows

noncomputable abbrev TO := St → Hp → (Option Int → Hp → Prop) → Prop
noncomputable def PO (X : Cx) (e : Option Expr) (t : TO) : Prop :=
  ∀ (pins : List (Addr × Obj)) (s : Shared) (σ : St) (H : Hp) (Q : Option Int → Hp → Prop), Inv X pins σ H s → t σ H Q →
    wpAny (model X.prog X.w) X.A (evalPart e X.env) (fun u s' => ∃ o H', Inv X pins σ H' s' ∧ IsPart u o ∧ Q o H') X.xe s
noncomputable def tNoPart : TO := fun _ H Q => Q none H
noncomputable def tPart (t : TE) : TO := fun σ H Q => t σ H fun x H1 => ∃ i, x = .int i ∧ Q (some i) H1

section
variable {X : Cx} {e : Expr} {te : TE} {lo hi : Option Expr} {tl th : TO} {pos p2 : Pos}

theorem po_none : PO X none tNoPart := by
  intro pins s σ H Q I h
  rw [evalPart_none]
  exact wpAny_pure ⟨none, H, I, .none, h⟩
theorem po_some (h : PE X e te) : PO X (some e) (tPart te) := by
  intro pins s σ H Q I hw
  rw [evalPart_some]
  refine thn (h pins s σ H _ I hw) fun u s1 ⟨x, H1, I1, r1, q1⟩ => ?_
  obtain ⟨i, rfl, q⟩ := q1
  obtain ⟨t, rfl⟩ := r1
  exact ⟨some i, H1, I1, .int i t, q⟩

noncomputable def SlR (X : Cx) (r : V → Option Int → Option Int → Hp → VK → Prop) : Prop :=
  ∀ (pins : List (Addr × Obj)) (s : Shared) (σ : St) (H : Hp) (x : V) (v vl vu : Value) (lo hi : Option Int) (sl : Addr) (Q : VK), Inv X pins σ H s → RelV x v → s.heap.IsSliceOf sl vl vu .none → IsPart vl lo → IsPart vu hi → r x lo hi H Q →
    ∃ T id, typeLookup (.type T) "__getitem__" = pure (some (.builtin id)) ∧ s.TypeIs v T ∧ wpAny (model X.prog X.w) X.A (getItem v (.ref sl)) (EP X pins σ Q) X.xe s
noncomputable def tSl (r : V → Option Int → Option Int → Hp → VK → Prop) (te : TE) (tl th : TO) : TE := fun σ H Q => te σ H fun x H1 => tl σ H1 fun l H2 => th σ H2 fun u H3 => r x l u H3 Q
theorem pe_slice {r : V → Option Int → Option Int → Hp → VK → Prop} (hr : SlR X r) (he : PE X e te) (hl : PO X lo tl) (hu : PO X hi th) : PE X (.Subscript e (.Slice lo hi none p2) pos) (tSl r te tl th) := by
  intro pins s σ H Q I h
  refine Subscript_ (thn (he pins s σ H _ I h) fun v s1 ⟨x, H1, I1, r1, q1⟩ => ?_)
  refine wpAny_Slice (thn (hl pins s1 σ H1 _ I1 q1) fun vl s2 ⟨l, H2, I2, pl, q2⟩ => thn (hu pins s2 σ H2 _ I2 q2) fun vu s3 ⟨u, H3, I3, pu, q3⟩ => ?_)
  rw [evalPart_none]
  refine wpAny_pure ?_
  have I4 : Inv X pins σ H3 { s3 with heap := s3.heap.push { cls := .type "slice", data := .fields #[vl, vu, .none] } } := I3.kept (t' := s3.toks) fun b ob q => Heap.get?_push_of_some _ q
  obtain ⟨T, id, hT, ht, hg⟩ := hr pins { s3 with heap := s3.heap.push { cls := .type "slice", data := .fields #[vl, vu, .none] } } σ H3 x v vl vu l u s3.heap.objs.size Q I4 r1 (Heap.IsSliceOf.new ..) pl pu q3
  show wpAny (model X.prog X.w) X.A (subscriptTail e (.Slice lo hi none p2) v (.ref s3.heap.objs.size)) (EP X pins σ Q) X.xe { s3 with heap := s3.heap.push { cls := .type "slice", data := .fields #[vl, vu, .none] } }
  exact tail_any (ops := [.ref s3.heap.objs.size, v]) ht hT hg (by with_unfolding_all rfl)

noncomputable def cutV (xs : List V) (lo hi : Option Int) : List V := (xs.drop (HT.sIx xs.length 0 lo)).take (HT.sIx xs.length xs.length hi - HT.sIx xs.length 0 lo)
theorem cutV_length (xs : List V) (lo hi : Option Int) : (cutV xs lo hi).length ≤ xs.length := by
  unfold cutV
  rw [List.length_take, List.length_drop]
  omega
end
end L2

namespace L2
open PySem PySem.Spec PyProof.Rows

noncomputable def ixN (n : Nat) (i : Int) : Option Nat := if 0 ≤ i then (if i < n then some i.toNat else none) else if -(n : Int) ≤ i then some (i + n).toNat else none
noncomputable def atI {α : Type} (xs : List α) (i : Int) : Option α := (ixN xs.length i).bind fun j => xs[j]?
theorem ixN_seq {n : Nat} {i : Int} {j : Nat} (h : ixN n i = some j) : seqIndex? i n = some j ∧ j < n ∧ -(n : Int) ≤ i ∧ i < n := by
  unfold ixN at h
  by_cases h0 : 0 ≤ i
  · rw [if_pos h0] at h
    by_cases h1 : i < n
    · rw [if_pos h1] at h
      have e : i.toNat = j := Option.some.inj h
      exact ⟨by rw [seqIndex_of h0 h1, e], by omega, by omega, h1⟩
    · rw [if_neg h1] at h; cases h
  · rw [if_neg h0] at h
    by_cases h1 : -(n : Int) ≤ i
    · rw [if_pos h1] at h
      have e : (i + n).toNat = j := Option.some.inj h
      exact ⟨by rw [seqIndex_neg (by omega) h1, e], by omega, h1, by omega⟩
    · rw [if_neg h1] at h; cases h
theorem atI_get {α : Type} {xs : List α} {i : Int} {v : α} (h : atI xs i = some v) : ∃ j, seqIndex? i xs.length = some j ∧ xs[j]? = some v ∧ j < xs.length ∧ -(xs.length : Int) ≤ i ∧ i < xs.length := by
  unfold atI at h
  cases e : ixN xs.length i with
  | none => rw [e] at h; cases h
  | some j =>
    rw [e] at h
    obtain ⟨h1, h2, h3, h4⟩ := ixN_seq e
    exact ⟨j, h1, h, h2, h3, h4⟩
noncomputable def PlainIx (b : Expr) : Prop := ∀ o i, subscripted b false o i = operate [o, i] (getItem o i)
noncomputable def IxR (X : Cx) (r : R2) : Prop :=
  ∀ (value slice : Expr) (pins : List (Addr × Obj)) (s : Shared) (σ : St) (H : Hp) (x y : V) (v u : Value) (Q : VK), Inv X pins σ H s → RelV x v → RelV y u → r x y H Q →
    subscripted slice false v u = operate [v, u] (getItem v u) → wpAny (model X.prog X.w) X.A (subscriptTail value slice v u) (EP X pins σ Q) X.xe s
noncomputable def MtR (X : Cx) (id : String) (r : V → List V → Hp → VK → Prop) : Prop :=
  ∀ (pins : List (Addr × Obj)) (s : Shared) (σ : St) (H : Hp) (x : V) (xs : List V) (v : Value) (us : List Value) (Q : VK), Inv X pins σ H s → RelV x v → Vals xs us → r x xs H Q →
    wpAny (model X.prog X.w) X.A (call (.builtin id) (v :: us)) (EP X pins σ Q) X.xe s
section
variable {X : Cx} {a b : Expr} {ta tb : TE} {pos : Pos}
theorem pe_ix {r : R2} (hr : IxR X r) (ha : PE X a ta) (hb : PE X b tb) (hs : PlainIx b) : PE X (.Subscript a b pos) (tOp r ta tb) := by
  intro pins s σ H Q I h
  exact Subscript_ (binT ha hb I h fun v u s2 x y H2 I2 rx ry q => hr a b pins s2 σ H2 x y v u Q I2 rx ry q (hs _ _))

noncomputable def rIxL (K : PySem.W.Frag) : R2 := fun x y H Q => ∃ p xs i v, x = .ref p ∧ y = .int i ∧ SqL K H p xs ∧ atI xs i = some v ∧ Q v H
noncomputable def rIxT (K : PySem.W.Frag) : R2 := fun x y H Q => ∃ p xs i v, x = .ref p ∧ y = .int i ∧ SqT K H p xs ∧ atI xs i = some v ∧ Q v H
noncomputable def rIxS : R2 := fun x y H Q => ∃ z i c, x = .str z ∧ y = .int i ∧ z.length ≤ sizeLine ∧ atI z.cps.toList i = some c ∧ Q (.str ⟨#[c]⟩) H
theorem ix_list : IxR X (rIxL X.K) := by
  intro value slice pins s σ H x y v u Q I rx ry h hs
  obtain ⟨p, xs, i, z, rfl, rfl, hq, he, q⟩ := h
  cases rx
  obtain ⟨t, rfl⟩ := ry
  obtain ⟨its, r, pl, hz⟩ := I.list hq
  obtain ⟨j, h1, h2, h3, h4, h5⟩ := atI_get he
  obtain ⟨w, ew, rw'⟩ := r.get h2
  have hl := r.length
  have hn := line63
  have fin : EP X pins σ Q w s := ⟨z, H, I, rw', q⟩
  by_cases h0 : 0 ≤ i
  · have hj : i.toNat = j := by
      rw [seqIndex_of h0 h5] at h1
      exact Option.some.inj h1
    exact item_listR pl.isList h0 (by omega) (by rw [hj]; simpa using ew) fin hs
  · have hj : (i + (its.toArray.size : Int)).toNat = j := by
      rw [seqIndex_neg (by omega) h4] at h1
      rw [List.size_toArray, ← hl]
      exact Option.some.inj h1
    exact subscriptTail_builtinR (x := w) pl.isList.typeIs slot_list_getitem.lookup
      (wpAny_getItem_list_neg (Q := fun r s' => r = w ∧ EP X pins σ Q r s') pl.isList (by omega) (by rw [List.size_toArray] <;> omega) (by omega) (by rw [hj]; simpa using ew) ⟨rfl, fin⟩) hs
theorem ix_tup : IxR X (rIxT X.K) := by
  intro value slice pins s σ H x y v u Q I rx ry h hs
  obtain ⟨p, xs, i, z, rfl, rfl, hq, he, q⟩ := h
  cases rx
  obtain ⟨t, rfl⟩ := ry
  obtain ⟨its, r, pl, hz⟩ := I.tuple hq
  obtain ⟨j, h1, h2, h3, h4, h5⟩ := atI_get he
  obtain ⟨w, ew, rw'⟩ := r.get h2
  have hl := r.length
  have hn := line63
  have fin : EP X pins σ Q w s := ⟨z, H, I, rw', q⟩
  exact subscriptTail_builtinR (x := w) pl.typeIs slot_tuple_getitem.lookup
    (getItem_tuple (j := j) (Q := fun r s' => r = w ∧ EP X pins σ Q r s') pl (by omega) (by omega) (by rw [List.size_toArray, ← hl]; exact h1) (by simpa using ew) ⟨rfl, fin⟩) hs
theorem ix_str : IxR X rIxS := by
  intro value slice pins s σ H x y v u Q I rx ry h hs
  obtain ⟨z, i, c, rfl, rfl, hz, he, q⟩ := h
  obtain ⟨t, rfl⟩ := rx
  obtain ⟨t', rfl⟩ := ry
  obtain ⟨j, h1, h2, h3, h4, h5⟩ := atI_get he
  have hl : z.cps.toList.length = z.length := by simp [Str.length]
  rw [hl] at h1 h4 h5
  have hn := line63
  exact tail_any (typeIs_str s z t) slot_str_getitem.lookup (getItem_str (c := c) (by
    have e1 : decide (i < -(2 ^ 63 : Int)) = false := decide_eq_false (by omega)
    have e2 : decide (i ≥ 2 ^ 63) = false := decide_eq_false (by omega)
    rw [e1, e2, Bool.or_false]) (by rw [h1]; simpa using h2) ⟨.str ⟨#[c]⟩, H, I.tok _, ⟨_, rfl⟩, q⟩) hs
theorem mapSeq_set (its : List Value) (n j : Nat) (u : Value) : Obj.mapSeq (·.setIfInBounds j u) { cls := .type "list", data := .seq its.toArray n } = { cls := .type "list", data := .seq (its.set j u).toArray n } := by
  simp [Obj.mapSeq]
theorem Inv.lst {pins : List (Addr × Obj)} {σ : St} {H : Hp} {s : Shared} {p : Addr} {xs : List V} (I : Inv X pins σ H s) (h : H p = some (.lst xs)) :
    ∃ (its : List Value) (n : Nat), Vals xs its ∧ s.heap.get? p = some { cls := .type "list", data := .seq its.toArray n } ∧ xs.length ≤ sizeLine := by
  obtain ⟨z, its, n, r, e⟩ := I.hok p _ h
  exact ⟨its, n, r, e, z⟩
theorem Inv.lstUpd {pins : List (Addr × Obj)} {σ : St} {H : Hp} {s : Shared} {p : Addr} {xs ys : List V} {its its' : List Value} {n n' : Nat} {f : Obj → Obj} (I : Inv X pins σ H s) (h : H p = some (.lst xs))
    (ho : s.heap.get? p = some { cls := .type "list", data := .seq its.toArray n }) (hf : f { cls := .type "list", data := .seq its.toArray n } = { cls := .type "list", data := .seq its'.toArray n' }) (r : Vals ys its') (hz : ys.length ≤ sizeLine) (t : Nat) :
    Inv X pins σ (upd H p (.lst ys)) { s with heap := s.heap.update p f, toks := t } := by
  have e : (s.heap.update p f).get? p = some { cls := .type "list", data := .seq its'.toArray n' } := by
    rw [Heap.get?_update_self f ho (by rw [hf] <;> rfl), hf]
  refine I.write (x := p) (e := p) (by rw [h]; trivial) (.inl rfl) (fun b u hb q => (Heap.get?_update_other _ _ (Ne.symm hb)).trans q) ⟨_, e⟩ ?_
  exact ⟨hz, its', n', r, e⟩
noncomputable def rSetL : V → V → V → Hp → (Hp → Prop) → Prop := fun o i v H Q => ∃ p xs k j, o = .ref p ∧ i = .int k ∧ H p = some (.lst xs) ∧ ixN xs.length k = some j ∧ Q (upd H p (.lst (xs.set j v)))
theorem set_list : PSet X rSetL := by
  intro pins s σ H o i v ov iv u Q I ro ri rv h
  obtain ⟨p, xs, k, j, rfl, rfl, hp, hj, q⟩ := h
  cases ro
  obtain ⟨t, rfl⟩ := ri
  obtain ⟨its, n, r, ho, hz⟩ := I.lst hp
  obtain ⟨h1, h2, h3, h4⟩ := ixN_seq hj
  have hl := r.length
  have hn := line63
  have I' : Inv X pins σ (upd H p (.lst (xs.set j v))) { s with heap := s.heap.update p (Obj.mapSeq (·.setIfInBounds j u)) } :=
    I.lstUpd hp ho (mapSeq_set its n j u) (r.set rv j) (by rw [List.length_set]; exact hz) s.toks
  by_cases h0 : 0 ≤ k
  · have hk : k.toNat = j := by
      rw [seqIndex_of h0 h4] at h1
      exact Option.some.inj h1
    exact PySem.W.ki_setAt ho h0 (by omega) (by rw [List.size_toArray, ← hl]; exact h4) (by rw [hk]; exact ⟨_, I', q⟩)
  · have hk : (k + (its.toArray.size : Int)).toNat = j := by
      rw [seqIndex_neg (by omega) h3] at h1
      rw [List.size_toArray, ← hl]
      exact Option.some.inj h1
    exact PySem.W.ki_setBack ho (by omega) (by rw [List.size_toArray, ← hl]; exact h3) (by omega) (by rw [hk]; exact ⟨_, I', q⟩)

theorem slice_bounds (lo hi : Option Int) (n : Nat) : (sliceBounds lo hi none n).1 = ((HT.sIx n 0 lo : Nat) : Int) ∧ (sliceBounds lo hi none n).2.1 = ((HT.sIx n n hi : Nat) : Int) ∧ (sliceBounds lo hi none n).2.2 = 1 := by
  refine ⟨?_, ?_, rfl⟩
  · cases lo with
    | none => simp [sliceBounds, HT.sIx]
    | some i =>
      simp only [sliceBounds, HT.sIx, Option.getD_none, show (1 : Int) > 0 by decide, if_true]
      by_cases h : i < 0
      · simp only [h, if_true] <;> omega
      · simp only [h, if_false] <;> omega
  · cases hi with
    | none => simp [sliceBounds, HT.sIx]
    | some i =>
      simp only [sliceBounds, HT.sIx, Option.getD_none, show (1 : Int) > 0 by decide, if_true]
      by_cases h : i < 0
      · simp only [h, if_true] <;> omega
      · simp only [h, if_false] <;> omega
theorem slicePick_cut (its : List Value) (lo hi : Option Int) : slicePick its.toArray lo hi none = ((its.drop (HT.sIx its.length 0 lo)).take (HT.sIx its.length its.length hi - HT.sIx its.length 0 lo)).toArray := by
  obtain ⟨h1, h2, h3⟩ := slice_bounds lo hi its.toArray.size
  unfold slicePick
  rw [h1, h2, h3]
  simp only [sliceRange_one, pick_run, List.size_toArray] <;> rfl
noncomputable def rSlL (K : PySem.W.Frag) : V → Option Int → Option Int → Hp → VK → Prop := fun x lo hi H Q => ∃ a xs, x = .ref a ∧ SqL K H a xs ∧ ∀ p, H p = none → Q (.ref p) (upd H p (.lst (cutV xs lo hi)))
theorem sl_list : SlR X (rSlL X.K) := by
  intro pins s σ H x v vl vu lo hi sl Q I rx hs pl pu h
  obtain ⟨a, xs, rfl, hx, q⟩ := h
  cases rx
  obtain ⟨its, r, ht, hz⟩ := I.list hx
  have hlen := r.length
  refine ⟨"list", _, slot_list_getitem.lookup, ht.isList.typeIs, ?_⟩
  refine wpAny_getItem_list_slice ht.isList hs pl pu .none (by simp) ?_ (by rw [List.size_toArray] <;> omega)
  rw [slicePick_cut, ← hlen]
  refine ⟨.ref s.heap.objs.size, _, I.laid (t' := s.toks) (o := .lst (cutV xs lo hi)) (fun b ob q => Heap.get?_push_of_some _ q) (Nat.le_refl _) ?_, rfl, q _ (I.hok.fresh (Nat.le_refl _))⟩
  exact ⟨Nat.le_trans (cutV_length xs lo hi) hz, _, 0, (r.drop (HT.sIx xs.length 0 lo)).take (HT.sIx xs.length xs.length hi - HT.sIx xs.length 0 lo), Heap.get?_push_size _ rfl⟩

noncomputable def flatV : V → Bool
  | .non => true
  | .bl _ => true
  | .int _ => true
  | .str _ => true
  | _ => false
noncomputable def eqV : V → V → Bool
  | .non, .non => true
  | .bl a, .bl b => a == b
  | .bl a, .int b => (if a then 1 else 0) == b
  | .int a, .bl b => a == (if b then 1 else 0)
  | .int a, .int b => a == b
  | .str a, .str b => a == b
  | _, _ => false
theorem eqAt_V {A : Around} {s : Shared} {y x : V} {u v : Value} (ry : RelV y u) (rx : RelV x v) (fy : flatV y = true) (fx : flatV x = true) : SeqAt.EqAt A s u v (eqV y x) := by
  cases y with
  | non =>
    cases ry
    cases x with
    | non => cases rx; exact SeqAt.EqAt.same _
    | bl b => cases rx; exact SeqAt.EqAt.none_bool b
    | int b => obtain ⟨t, rfl⟩ := rx; exact SeqAt.EqAt.none_int b t
    | str b => obtain ⟨t, rfl⟩ := rx; exact SeqAt.EqAt.none_str b t
    | _ => exact absurd (show false = true from fx) Bool.false_ne_true
  | bl a =>
    cases ry
    cases x with
    | non => cases rx; exact SeqAt.EqAt.bool_none a
    | bl b => cases rx; exact SeqAt.EqAt.bool_bool a b
    | int b => obtain ⟨t, rfl⟩ := rx; exact SeqAt.EqAt.bool_int a b t
    | str b => obtain ⟨t, rfl⟩ := rx; exact SeqAt.EqAt.bool_str a b t
    | _ => exact absurd (show false = true from fx) Bool.false_ne_true
  | int a =>
    obtain ⟨t', rfl⟩ := ry
    cases x with
    | non => cases rx; exact SeqAt.EqAt.int_none a t'
    | bl b => cases rx; exact SeqAt.EqAt.int_bool a t' b
    | int b => obtain ⟨t, rfl⟩ := rx; exact SeqAt.EqAt.int_int a t' b t
    | str b => obtain ⟨t, rfl⟩ := rx; exact SeqAt.EqAt.int_str a t' b t
    | _ => exact absurd (show false = true from fx) Bool.false_ne_true
  | str a =>
    obtain ⟨t', rfl⟩ := ry
    cases x with
    | non => cases rx; exact SeqAt.EqAt.str_none a t'
    | bl b => cases rx; exact SeqAt.EqAt.str_bool a t' b
    | int b => obtain ⟨t, rfl⟩ := rx; exact SeqAt.EqAt.str_int a t' b t
    | str b => obtain ⟨t, rfl⟩ := rx; exact SeqAt.EqAt.str_str a t' b t
    | _ => exact absurd (show false = true from fx) Bool.false_ne_true
  | _ => exact absurd (show false = true from fy) Bool.false_ne_true
noncomputable def eqU (x : V) (u : Value) : Bool := match u with
  | .none => eqV .non x
  | .bool b => eqV (.bl b) x
  | .int i _ => eqV (.int i) x
  | .str z _ => eqV (.str z) x
  | _ => false
theorem eqU_of {x y : V} {u : Value} (r : RelV y u) (f : flatV y = true) : eqU x u = eqV y x := by
  cases y with
  | non => cases r; rfl
  | bl b => cases r; rfl
  | int i => obtain ⟨t, rfl⟩ := r; rfl
  | str z => obtain ⟨t, rfl⟩ := r; rfl
  | _ => exact absurd (show false = true from f) Bool.false_ne_true
theorem any_eqU {x : V} : ∀ {xs : List V} {us : List Value}, Vals xs us → xs.all flatV = true → us.any (eqU x) = xs.any fun y => eqV y x
  | _, _, .nil, _ => rfl
  | y :: xs, u :: us, .cons r t, f => by
    rw [List.all_cons, Bool.and_eq_true] at f
    rw [List.any_cons, List.any_cons, eqU_of r f.1, any_eqU t f.2]
theorem mem_eqAt {A : Around} {s : Shared} {x : V} {v : Value} (rx : RelV x v) (fx : flatV x = true) : ∀ {xs : List V} {us : List Value}, Vals xs us → xs.all flatV = true → ∀ u ∈ us, SeqAt.EqAt A s u v (eqU x u)
  | _, _, .nil, _ => fun u hu => by cases hu
  | y :: xs, u :: us, .cons r t, f => fun u' hu => by
    rw [List.all_cons, Bool.and_eq_true] at f
    rcases List.mem_cons.mp hu with rfl | hu
    · rw [eqU_of r f.1]; exact eqAt_V r rx f.1 fx
    · exact mem_eqAt rx fx t f.2 u' hu
noncomputable def inV (x : V) (xs : List V) : Bool := xs.any fun y => eqV y x
noncomputable def rIn (K : PySem.W.Frag) (neg : Bool) : R2 := fun x y H Q => ∃ p xs, y = .ref p ∧ (SqL K H p xs ∨ SqT K H p xs) ∧ flatV x = true ∧ xs.all flatV = true ∧ Q (.bl (if neg then !inV x xs else inV x xs)) H
theorem op_in_seq : OpR X (compareOp .In) (rIn X.K false) := by
  intro pins s σ H x y v u Q I rx ry h
  obtain ⟨p, xs, rfl, hq, fx, fs, q⟩ := h
  cases ry
  rcases hq with hq | hq
  · obtain ⟨its, r, pl, hz⟩ := I.list hq
    refine SeqAt.in_listAt (eqU x) pl.isList (fun w hw => mem_eqAt rx fx r fs w (by simpa using hw)) ⟨.bl _, H, I, rfl, ?_⟩
    rw [show its.toArray.any (eqU x) = its.any (eqU x) by simp, any_eqU r fs]
    exact q
  · obtain ⟨its, r, pl, hz⟩ := I.tuple hq
    refine SeqAt.in_tupleAt (eqU x) pl (fun w hw => mem_eqAt rx fx r fs w (by simpa using hw)) ⟨.bl _, H, I, rfl, ?_⟩
    rw [show its.toArray.any (eqU x) = its.any (eqU x) by simp, any_eqU r fs]
    exact q
theorem call_len_seq : CallR X (.builtin "len") (fun xs H Q => ∃ p ys, xs = [.ref p] ∧ (SqL X.K H p ys ∨ SqT X.K H p ys) ∧ Q (.int ys.length) H) := by
  intro pins s σ H xs us Q I r h
  obtain ⟨p, ys, rfl, hq, q⟩ := h
  obtain ⟨u, rfl, rx⟩ := vals1 r
  cases rx
  have hn := line63
  rcases hq with hq | hq
  · obtain ⟨its, r', pl, hz⟩ := I.list hq
    have hlen := r'.length
    exact Calls.call_len_list pl.isList (by simp only [List.size_toArray] <;> omega) ⟨.int ys.length, H, I.tok _, ⟨s.toks + 1, by rw [List.size_toArray, hlen]⟩, q⟩
  · obtain ⟨its, r', pl, hz⟩ := I.tuple hq
    have hlen := r'.length
    exact len_tuple pl (by simp only [List.size_toArray] <;> omega) ⟨.int ys.length, H, I.tok _, ⟨s.toks + 1, by rw [List.size_toArray, hlen]⟩, q⟩
theorem call_len_str : CallR X (.builtin "len") (fun xs H Q => ∃ z, xs = [.str z] ∧ z.length ≤ sizeLine ∧ Q (.int z.length) H) := by
  intro pins s σ H xs us Q I r h
  obtain ⟨z, rfl, hz, q⟩ := h
  obtain ⟨u, rfl, t, rfl⟩ := vals1 r
  have hn := line63
  exact len_str (by omega) ⟨.int z.length, H, I.tok _, ⟨_, rfl⟩, q⟩
theorem call_list_of : CallR X (.type "list") (fun xs H Q => ∃ p ys, xs = [.ref p] ∧ (SqL X.K H p ys ∨ SqT X.K H p ys) ∧ ∀ l, H l = none → Q (.ref l) (upd H l (.lst ys))) := by
  intro pins s σ H xs us Q I r h
  obtain ⟨p, ys, rfl, hq, q⟩ := h
  obtain ⟨u, rfl, rx⟩ := vals1 r
  cases rx
  have fin : ∀ (its : List Value), Vals ys its → ys.length ≤ sizeLine → ∀ (h' : Heap) (c' : Nat), (∀ b o', s.heap.get? b = some o' → h'.get? b = some o') →
      h'.get? s.heap.objs.size = some { cls := .type "list", dict := none, data := .seq its.toArray c', slots := #[] } → EP X pins σ Q (.ref s.heap.objs.size) { s with heap := h' } := fun its r' hz h' c' kp e =>
    ⟨.ref s.heap.objs.size, _, I.laid (t' := s.toks) kp (Nat.le_refl _) (show ObjOk X.prog X.w _ h' _ (.lst ys) from ⟨hz, its, c', r', e⟩), rfl, q _ (I.hok.fresh (Nat.le_refl _))⟩
  rcases hq with hq | hq
  · obtain ⟨its, r', pl, hz⟩ := I.list hq
    have hlen := r'.length
    obtain ⟨o, ho, hc, n, hd⟩ := pl.isList
    exact call_list_seq p (.inl rfl) ho hc hd (fun h' c' kp e => fin its r' hz h' c' kp e) (by simp only [List.size_toArray] <;> omega)
  · obtain ⟨its, r', pl, hz⟩ := I.tuple hq
    have hlen := r'.length
    obtain ⟨o, ho, hc, n, hd⟩ := pl
    exact call_list_seq p (.inr rfl) ho hc hd (fun h' c' kp e => fin its r' hz h' c' kp e) (by simp only [List.size_toArray] <;> omega)
theorem call_tuple_of : CallR X (.type "tuple") (fun xs H Q => ∃ p ys, xs = [.ref p] ∧ ((SqL X.K H p ys ∧ ∀ l, H l = none → Q (.ref l) (upd H l (.tup ys))) ∨ (SqT X.K H p ys ∧ Q (.ref p) H))) := by
  intro pins s σ H xs us Q I r h
  obtain ⟨p, ys, rfl, h⟩ := h
  obtain ⟨u, rfl, rx⟩ := vals1 r
  cases rx
  rcases h with ⟨hq, q⟩ | ⟨hq, q⟩
  · obtain ⟨its, r', pl, hz⟩ := I.list hq
    have hlen := r'.length
    refine call_tuple_list pl.isList (fun h' kp => ?_) (by simp only [List.size_toArray] <;> omega)
    have I1 : Inv X pins σ H { s with heap := h' } := I.kept (t' := s.toks) kp
    have I2 : Inv X pins σ (upd H h'.objs.size (.tup ys)) { s with heap := h'.push { cls := .type "tuple", data := .seq its.toArray } } :=
      I1.laid (t' := s.toks) (fun b o e => Heap.get?_push_of_some _ e) (Nat.le_refl _) (show ObjOk X.prog X.w _ _ _ (.tup ys) from ⟨hz, its, r', IsTup.new _ _⟩)
    exact ⟨.ref h'.objs.size, _, I2, rfl, q _ (I1.hok.fresh (Nat.le_refl _))⟩
  · obtain ⟨its, r', pl, hz⟩ := I.tuple hq
    exact call_tuple_same pl ⟨.ref p, H, I, rfl, q⟩

noncomputable def tyV (K : PySem.W.Frag) (T : String) (x : V) (H : Hp) : Prop := match x with
  | .str _ => T = "str"
  | .int _ => T = "int"
  | .ref p => (T = "list" ∧ ∃ xs, SqL K H p xs) ∨ (T = "tuple" ∧ ∃ o, K.lookup p = some o ∧ o.cls = .type "tuple" ∧ o.dict = none) ∨
      (T = "dict" ∧ ((∃ kvs, H p = some (.dK kvs)) ∨ ∃ kvs, H p = some (.dT kvs))) ∨ (T = "set" ∧ ∃ S n, H p = some (.set S n))
  | _ => False
theorem tyV_is {pins : List (Addr × Obj)} {σ : St} {H : Hp} {s : Shared} {T : String} {x : V} {v : Value} (I : Inv X pins σ H s) (r : RelV x v) (ty : tyV X.K T x H) :
    s.TypeIs v T ∧ ∀ a, v = .ref a → ∃ ob, s.heap.get? a = some ob ∧ ob.dict = none := by
  cases x with
  | str z =>
    obtain ⟨t, rfl⟩ := r
    cases (show T = "str" from ty)
    exact ⟨typeIs_str s z t, fun _ e => nomatch e⟩
  | int i =>
    obtain ⟨t, rfl⟩ := r
    cases (show T = "int" from ty)
    exact ⟨typeIs_int s i t, fun _ e => nomatch e⟩
  | ref p =>
    cases r
    rcases ty with ⟨rfl, xs, hq⟩ | ⟨rfl, o, hk, hc, hd⟩ | ⟨rfl, hk⟩ | ⟨rfl, S, n, hk⟩
    · obtain ⟨its, _, pl, _⟩ := I.list hq
      refine ⟨pl.isList.typeIs, fun a e => ?_⟩
      cases e
      obtain ⟨o, n, e, c, hd, _⟩ := pl
      exact ⟨o, e, hd⟩
    · refine ⟨⟨o, I.kIn p o hk, hc⟩, fun a e => ?_⟩
      cases e
      exact ⟨o, I.kIn _ o hk, hd⟩
    · have z : ∃ o, s.heap.get? p = some o ∧ o.ExactDict := by
        rcases hk with ⟨kvs, hk⟩ | ⟨kvs, hk⟩
        · obtain ⟨_, _, _, _, o, _, _, e, ex, _⟩ := I.hok p _ hk
          exact ⟨o, e, ex⟩
        · obtain ⟨_, _, _, _, o, _, _, e, ex, _⟩ := I.hok p _ hk
          exact ⟨o, e, ex⟩
      obtain ⟨o, e, ex⟩ := z
      refine ⟨⟨o, e, ex.1⟩, fun a e2 => ?_⟩
      cases e2
      exact ⟨o, e, ex.2.1⟩
    · obtain ⟨o, _, _, _, e, ex, _⟩ := I.hok p _ hk
      refine ⟨⟨o, e, ex.1⟩, fun a e2 => ?_⟩
      cases e2
      exact ⟨o, e, ex.2.1⟩
  | _ => exact False.elim ty
noncomputable def tBM (K : PySem.W.Frag) (T : String) (r : V → List V → Hp → VK → Prop) (to : TE) (t : TA) : TE := fun σ H Q => to σ H fun x H1 => tyV K T x H1 ∧ t σ H1 fun xs H2 => r x xs H2 Q
variable {o e : Expr} {es : List Expr} {to : TE} {t : TA} {name : Str} {apos cpos : Pos} {T id : String} {r : V → List V → Hp → VK → Prop}
theorem pe_bm (pa : PlainAttrs T) (slot : Slot T name id) (hty : typeOf (.builtin id) = pure (.type "method_descriptor")) (hm : MtR X id r) (ho : PE X o to) (ha : PA X (e :: es) t)
    (hbase : attributeBase o name X.env (eval o X.env) = eval o X.env := by rfl)
    (hfew : ((backTo cpos (starEach (e :: es) X.env)).all (fun x => !x.1) && (backToKw cpos (keywordEach [] X.env)).all (fun x => x.1.isSome)
      && decide ((e :: es).length + ([] : List Keyword).length + (if ([] : List Keyword).isEmpty then 0 else 1) < 30)) = true := by rfl)
    (hline : (apos.endLine == cpos.line) = true := by rfl) (hs : starEach (e :: es) X.env = (false, eval e X.env) :: starEach es X.env := by rfl) (hplain : (backTo cpos (starEach es X.env)).any (·.1) = false := by rfl) :
    PE X (.Call (.Attribute o name apos) (e :: es) [] cpos) (tBM X.K T r to t) := by
  intro pins s σ H Q I h
  refine wpAny_Call_method_late hbase hfew hline rfl (thn (ho pins s σ H _ I h) fun v s1 ⟨x, H1, I1, r1, ty, q1⟩ => ?_)
  obtain ⟨h1, h2⟩ := tyV_is I1 r1 ty
  refine ⟨T, id, pa, slot, hty, h1, h2, ?_⟩
  have hA := ha cpos pins s1 σ H1 _ I1 q1
  rw [hs] at hA ⊢
  refine Calls.callWith_builtin (by show (false || (backTo cpos (starEach es X.env)).any (·.1)) = false; rw [hplain] <;> rfl) (Calls.evalArgs_plain ?_)
  exact thn hA fun us s2 ⟨vs, H2, I2, r2, q2⟩ => hm pins s2 σ H2 x vs v us Q I2 r1 r2 q2
end
end L2

namespace L2
open PySem PySem.Spec PyProof.Rows

noncomputable def MtM (X : Cx) (id : String) (r : V → List V → Hp → VK → Prop) : Prop :=
  ∀ (pins : List (Addr × Obj)) (s : Shared) (σ : St) (H : Hp) (x : V) (xs : List V) (v : Value) (us : List Value) (Q : VK), Inv X pins σ H s → RelV x v → Vals xs us → r x xs H Q →
    wpAny (model X.prog X.w) X.A (call (.builtin id) (v :: us)) (EP X pins σ Q) X.xe s

theorem Vals.one : ∀ {x : V} {us : List Value}, Vals [x] us → ∃ u, us = [u] ∧ RelV x u
  | _, _, .cons r .nil => ⟨_, rfl, r⟩
theorem Vals.eraseIdx : ∀ {xs : List V} {us : List Value} (i : Nat), Vals xs us → Vals (xs.eraseIdx i) (us.eraseIdx i)
  | _, _, _, .nil => .nil
  | _, _, 0, .cons _ t => t
  | _, _, i + 1, .cons r t => .cons r (Vals.eraseIdx i t)
theorem len_erase {α : Type} : ∀ (l : List α) (i : Nat), (l.eraseIdx i).length ≤ l.length
  | [], _ => Nat.le_refl _
  | _ :: _, 0 => Nat.le_succ _
  | _ :: r, i + 1 => Nat.succ_le_succ (len_erase r i)
section
variable {X : Cx} {pins : List (Addr × Obj)} {σ : St} {H : Hp} {s : Shared} {l b : Addr} {xs ys zs : List V}

theorem Inv.lset {its its' : List Value} {n : Nat} {f : Array Value → Array Value} {t' : Nat} (I : Inv X pins σ H s) (hH : H l = some (.lst xs))
    (e : s.heap.get? l = some { cls := .type "list", data := .seq its.toArray n }) (hf : f its.toArray = its'.toArray) (hv : Vals ys its') (hz : ys.length ≤ sizeLine) :
    Inv X pins σ (upd H l (.lst ys)) { s with heap := s.heap.update l (Obj.mapSeq f), toks := t' } := by
  have q := PySem.IsL.update e f
  rw [hf] at q
  refine I.write (x := l) (e := l) (by rw [hH]; exact trivial) (.inl rfl) (fun b' u hb hu => (Heap.get?_update_other s.heap (Obj.mapSeq f) (Ne.symm hb)).trans hu) ⟨_, q⟩ ?_
  exact ⟨hz, its', _, hv, q⟩
theorem Inv.lnew {its : List Value} {t' : Nat} (I : Inv X pins σ H s) (hv : Vals ys its) (hz : ys.length ≤ sizeLine) :
    Inv X pins σ (upd H s.heap.objs.size (.lst ys)) { s with heap := s.heap.push { cls := .type "list", data := .seq its.toArray }, toks := t' } :=
  I.laid (fun _ _ q => Heap.get?_push_of_some _ q) (Nat.le_refl _) ⟨hz, its, 0, hv, Heap.get?_push_size _ rfl⟩
theorem Inv.fresh (I : Inv X pins σ H s) : H s.heap.objs.size = none := I.hok.fresh (Nat.le_refl _)
theorem Inv.lstM (I : Inv X pins σ H s) (hH : H l = some (.lst xs)) : xs.length ≤ sizeLine ∧ ∃ (its : List Value) (n : Nat), Vals xs its ∧ xs.length = its.length ∧ s.heap.get? l = some { cls := .type "list", data := .seq its.toArray n } := by
  obtain ⟨z, its, n, r, e⟩ := I.hok l _ hH
  exact ⟨z, its, n, r, r.length, e⟩

end

section
variable {X : Cx}

noncomputable def rAppend : V → List V → Hp → VK → Prop := fun x vs H Q => ∃ l xs y, x = .ref l ∧ vs = [y] ∧ H l = some (.lst xs) ∧ xs.length < sizeLine ∧ Q .non (upd H l (.lst (xs ++ [y])))
theorem mt_append : MtM X "list.append" rAppend := by
  intro pins s σ H x vs v us Q I rx rv h
  obtain ⟨l, xs, y, rfl, rfl, hH, hz, q⟩ := h
  cases rx
  obtain ⟨u, rfl, ru⟩ := rv.one
  obtain ⟨z, its, n, r, hl, e⟩ := I.lstM hH
  refine call_meets F.slot_list_append ⟨_, e, rfl⟩ F.entry_list_append (F.args_list_append_2 _ _) (PySem.list_append l its.toArray n u (by rw [List.size_toArray]; omega)) ⟨e, ?_⟩
  refine ⟨.non, _, I.lset (its' := its ++ [u]) hH e (by simp) (r.append (.cons ru .nil)) ?_, rfl, q⟩
  rw [List.length_append, List.length_singleton]
  omega

noncomputable def rPopAt : V → List V → Hp → VK → Prop := fun x vs H Q => ∃ l xs i k y, x = .ref l ∧ vs = [.int i] ∧ H l = some (.lst xs) ∧ -(2 ^ 63) ≤ i ∧ i < 2 ^ 63 ∧ seqIndex? i xs.length = some k ∧ xs[k]? = some y ∧ Q y (upd H l (.lst (xs.eraseIdx k)))
theorem mt_popAt : MtM X "list.pop" rPopAt := by
  intro pins s σ H x vs v us Q I rx rv h
  obtain ⟨l, xs, i, k, y, rfl, rfl, hH, h1, h2, hk, hy, q⟩ := h
  cases rx
  obtain ⟨u, rfl, ru⟩ := rv.one
  obtain ⟨t, rfl⟩ := ru
  obtain ⟨z, its, n, r, hl, e⟩ := I.lstM hH
  obtain ⟨w, hw, rw'⟩ := r.get hy
  refine call_meets F.slot_list_pop ⟨_, e, rfl⟩ F.entry_list_pop (F.args_list_pop_2 _ _)
    (MeetsSeq.list_pop_at l its.toArray n i t k w (fitsIndex_both h1 h2) (by rw [List.size_toArray, ← hl]; exact hk) (by rw [← Array.getElem?_toList]; exact hw) (by rw [List.size_toArray]; omega)) ⟨e, ?_⟩
  refine ⟨y, _, I.lset (its' := its.eraseIdx k) hH e ?_ (r.eraseIdx k) ?_, rw', q⟩
  · show its.toArray.eraseIdxIfInBounds k = (its.eraseIdx k).toArray
    rw [List.eraseIdxIfInBounds_toArray]
  · have := len_erase xs k
    omega

noncomputable def rCat : R2 := fun x y H Q => ∃ l b xs zs, x = .ref l ∧ y = .ref b ∧ H l = some (.lst xs) ∧ H b = some (.lst zs) ∧ xs.length + zs.length ≤ sizeLine ∧ ∀ p, H p = none → Q (.ref p) (upd H p (.lst (xs ++ zs)))
theorem op_cat : OpR X (binaryOp .Add) rCat := by
  intro pins s σ H x y v u Q I rx ry h
  obtain ⟨l, b, xs, zs, rfl, rfl, hH, hB, hz, q⟩ := h
  cases rx
  cases ry
  obtain ⟨z, its, n, r, hl, e⟩ := I.lstM hH
  obtain ⟨z2, its2, n2, r2, hl2, e2⟩ := I.lstM hB
  refine PySem.P.add_list e e2 ?_ (by rw [List.size_toArray, List.size_toArray]; omega)
  have ea : its.toArray ++ its2.toArray = (its ++ its2).toArray := by simp
  rw [ea]
  exact ⟨.ref _, _, I.lnew (t' := s.toks) (r.append r2) (by rw [List.length_append]; omega), rfl, q _ I.fresh⟩
end

section
variable {prog : Program} {w : World} {A : Around} {E : Value → Shared → Prop} {s : Shared}
end

section
variable {X : Cx}
end
end L2

namespace L2
open PySem PySem.Spec PyProof.Rows

section
variable {κ : Type} [DecidableEq κ]
noncomputable def valV (kvs : List (κ × V)) (k : κ) : Option V := (kvs.find? fun kv => decide (kv.1 = k)).map (·.2)
noncomputable def putK (kvs : List (κ × V)) (k : κ) (v : V) : List (κ × V) :=
  if (kvs.any fun kv => decide (kv.1 = k)) = true then kvs.map (fun kv => if kv.1 = k then (kv.1, v) else kv) else kvs ++ [(k, v)]
theorem valV_nil {k : κ} : valV ([] : List (κ × V)) k = none := rfl
theorem valV_pos {p : κ × V} {r : List (κ × V)} {k : κ} (e : p.1 = k) : valV (p :: r) k = some p.2 := by simp [valV, List.find?_cons, e]
theorem valV_neg {p : κ × V} {r : List (κ × V)} {k : κ} (e : ¬ p.1 = k) : valV (p :: r) k = valV r k := by simp [valV, List.find?_cons, e]
theorem valV_any (k : κ) : ∀ kvs : List (κ × V), (kvs.any fun kv => decide (kv.1 = k)) = (valV kvs k).isSome
  | [] => rfl
  | p :: r => by
    rw [List.any_cons]
    by_cases e : p.1 = k
    · simp only [valV_pos e, decide_eq_true e, Bool.true_or, Option.isSome_some]
    · rw [valV_neg e, decide_eq_false e, Bool.false_or]; exact valV_any k r
theorem length_putK (kvs : List (κ × V)) (k : κ) (v : V) : (putK kvs k v).length ≤ kvs.length + 1 := by
  unfold putK
  split
  · rw [List.length_map]; omega
  · rw [List.length_append, List.length_cons, List.length_nil]; omega
theorem putK_new {kvs : List (κ × V)} {k : κ} (v : V) (h : valV kvs k = none) : putK kvs k v = kvs ++ [(k, v)] := by
  unfold putK
  rw [valV_any, h]
  exact if_neg (by decide)

theorem RelO.isSome_eq {o : Option V} {u : Option Value} (r : RelO o u) : o.isSome = u.isSome := by
  cases o with
  | none => cases u with
    | none => rfl
    | some _ => exact (show False from r).elim
  | some _ => cases u with
    | none => exact (show False from r).elim
    | some _ => rfl
theorem KV.val {kvs : List (κ × V)} {vs : List (κ × Value)} (r : KV kvs vs) (k : κ) : RelO (valV kvs k) (valueAt vs k) := by
  unfold KV at r
  induction r with
  | nil => exact True.intro
  | @cons p q ps qs h t ih =>
    obtain ⟨h1, h2⟩ := h
    by_cases e : p.1 = k
    · have e' : q.1 = k := h1.symm.trans e
      have b : valueAt (q :: qs) k = some q.2 := by simp [valueAt, List.find?_cons, e']
      rw [valV_pos e, b]; exact h2
    · have e' : ¬ q.1 = k := fun z => e (h1.trans z)
      have b : valueAt (q :: qs) k = valueAt qs k := by simp [valueAt, List.find?_cons, e']
      rw [valV_neg e, b]; exact ih
theorem KV.any {kvs : List (κ × V)} {vs : List (κ × Value)} (r : KV kvs vs) (k : κ) : (kvs.any fun kv => decide (kv.1 = k)) = vs.any fun kv => decide (kv.1 = k) := by
  unfold KV at r
  induction r with
  | nil => rfl
  | cons h t ih => rw [List.any_cons, List.any_cons, ih, h.1]
theorem KV.repl {kvs : List (κ × V)} {vs : List (κ × Value)} (r : KV kvs vs) (k : κ) {y : V} {u : Value} (ry : RelV y u) :
    KV (kvs.map fun kv => if kv.1 = k then (kv.1, y) else kv) (vs.map fun kv => if kv.1 = k then (kv.1, u) else kv) := by
  unfold KV at r ⊢
  induction r with
  | nil => exact .nil
  | @cons p q ps qs h t ih =>
    rw [List.map_cons, List.map_cons]
    refine .cons ?_ ih
    obtain ⟨h1, h2⟩ := h
    by_cases e : p.1 = k
    · rw [if_pos e, if_pos (h1.symm.trans e)]; exact ⟨h1, ry⟩
    · rw [if_neg e, if_neg (fun z => e (h1.trans z))]; exact ⟨h1, h2⟩
theorem KV.put {kvs : List (κ × V)} {vs : List (κ × Value)} (r : KV kvs vs) (k : κ) {y : V} {u : Value} (ry : RelV y u) : KV (putK kvs k y) (stored vs k u) := by
  unfold putK stored
  rw [r.any k]
  by_cases e : (vs.any fun kv => decide (kv.1 = k)) = true
  · rw [if_pos e, if_pos e]; exact r.repl k ry
  · rw [if_neg e, if_neg e]; exact Paired.snoc r ⟨rfl, ry⟩
theorem KV.length {kvs : List (κ × V)} {vs : List (κ × Value)} (r : KV kvs vs) : kvs.length = vs.length := Paired.length r
end


theorem kV_is {P : Program} {w : World} {k : Key} {u : Value} (r : RelV (kV k) u) : (mixKind P w).is k u = true := by
  cases k with
  | inl i => obtain ⟨t, e⟩ := (show ∃ t, u = Value.int i t from r); subst e; exact mixKind_int P w i t
  | inr x => obtain ⟨t, e⟩ := (show ∃ t, u = Value.str x t from r); subst e; exact mixKind_str P w x t
theorem items_are {P : Program} {w : World} : ∀ {ks : List Key} {us : List Value}, Vals (ks.map kV) us → ItemsAre (mixKind P w) ks us
  | [], _, r => by rw [List.map_nil] at r; cases r; exact .nil
  | k :: ks, _, r => by
    rw [List.map_cons] at r
    cases r with
    | cons h t => exact .cons (kV_is h) (items_are t)

noncomputable abbrev KT (H : Hp) : List (List Key × V) → List (List Key × Addr × Value) → Prop := Paired fun p q => p.1 = q.1 ∧ H q.2.1 = some (.tup (p.1.map kV)) ∧ RelV p.2 q.2.2
theorem KT.val {H : Hp} {kvs : List (List Key × V)} {xs : List (List Key × Addr × Value)} (r : KT H kvs xs) (k : List Key) : RelO (valV kvs k) ((atKey xs k).map (·.2)) := by
  induction r with
  | nil => exact True.intro
  | @cons p q ps qs h t ih =>
    obtain ⟨h1, _, h2⟩ := h
    by_cases e : p.1 = k
    · have e' : q.1 = k := h1.symm.trans e
      have b : atKey (q :: qs) k = some q.2 := by simp [atKey, List.find?_cons, e']
      rw [valV_pos e, b]; exact h2
    · have e' : ¬ q.1 = k := fun z => e (h1.trans z)
      have b : atKey (q :: qs) k = atKey qs k := by simp [atKey, List.find?_cons, e']
      rw [valV_neg e, b]; exact ih
theorem KT.repl {H : Hp} {kvs : List (List Key × V)} {xs : List (List Key × Addr × Value)} (r : KT H kvs xs) (k : List Key) {y : V} {u : Value} (ry : RelV y u) :
    KT H (kvs.map fun kv => if kv.1 = k then (kv.1, y) else kv) (xs.map (putAt k u)) := by
  induction r with
  | nil => exact .nil
  | @cons p q ps qs h t ih =>
    rw [List.map_cons, List.map_cons]
    refine .cons ?_ ih
    obtain ⟨h1, h2, h3⟩ := h
    unfold putAt
    by_cases e : p.1 = k
    · rw [if_pos e, if_pos (h1.symm.trans e)]; exact ⟨h1, h2, ry⟩
    · rw [if_neg e, if_neg (fun z => e (h1.trans z))]; exact ⟨h1, h2, h3⟩
theorem KT.put {H : Hp} {kvs : List (List Key × V)} {xs : List (List Key × Addr × Value)} (r : KT H kvs xs) (k : List Key) {b : Addr} {y : V} {u : Value} (hb : H b = some (.tup (k.map kV))) (ry : RelV y u) :
    KT H (putK kvs k y) (storedH xs k b u) := by
  have e : (kvs.any fun kv => decide (kv.1 = k)) = (atKey xs k).isSome := by
    rw [valV_any, (r.val k).isSome_eq, Option.isSome_map]
  unfold putK storedH
  rw [e]
  by_cases q : (atKey xs k).isSome = true
  · rw [if_pos q, if_pos q]; exact r.repl k ry
  · rw [if_neg q, if_neg q]; exact Paired.snoc r ⟨rfl, hb, ry⟩
theorem KT.keeps {H H' : Hp} {kvs : List (List Key × V)} {xs : List (List Key × Addr × Value)} (r : KT H kvs xs) (ht : ∀ b ys, H b = some (.tup ys) → H' b = some (.tup ys)) : KT H' kvs xs :=
  Paired.mapP r fun _ _ z => ⟨z.1, ht _ _ z.2.1, z.2.2⟩

section
variable {P : Program} {w : World} {H : Hp} {h : Heap} {a : Addr}
theorem rd_of {u : HO} (ok : HOk P w H h) (e : Rd H a u) : ObjOk P w H h a u := e.ok ok
theorem dk_rd {kvs : List (Key × V)} (ok : HOk P w H h) (e : Rd H a (.dK kvs)) : kvs.length ≤ sizeLine ∧ (a == sysModules) = false ∧ ∃ vs, KV kvs vs ∧ h.DictOf (mixKind P w) a vs :=
  show ObjOk P w H h a (.dK kvs) from rd_of ok e
theorem dk_of {kvs : List (Key × V)} (ok : HOk P w H h) (e : H a = some (.dK kvs)) : kvs.length ≤ sizeLine ∧ (a == sysModules) = false ∧ ∃ vs, KV kvs vs ∧ h.DictOf (mixKind P w) a vs := dk_rd ok (.inl e)
theorem key_of {ks : List Key} (ok : HOk P w H h) (e : H a = some (.tup (ks.map kV))) : (tupleKind (mixKind P w)).is h ks a := by
  obtain ⟨_, its, r, o, h1, h2, n, h3⟩ := (show ObjOk P w H h a (.tup (ks.map kV)) from ok a _ e)
  exact ⟨o, its.toArray, n, h1, h2, h3, by simpa using items_are r⟩
theorem dt_rd {kvs : List (List Key × V)} (ok : HOk P w H h) (e : Rd H a (.dT kvs)) : kvs.length ≤ sizeLine ∧ (a == sysModules) = false ∧
    ∃ xs, KT H kvs xs ∧ h.DictOfH (tupleKind (mixKind P w)) a xs := by
  obtain ⟨z, y, xs, r, o, es, ep, h1, h2, h3, h4, h5⟩ := (show ObjOk P w H h a (.dT kvs) from rd_of ok e)
  refine ⟨z, y, xs, r, o, es, ep, h1, h2, h3, h4, fun x hx => ?_, h5⟩
  have all : ∀ {l : List (List Key × V)} {m : List (List Key × Addr × Value)}, KT H l m → ∀ x ∈ m, (tupleKind (mixKind P w)).is h x.1 x.2.1 := by
    intro l m q
    induction q with
    | nil => intro x hx; exact nomatch hx
    | @cons p q ps qs hq t ih =>
      intro x hx
      rcases List.mem_cons.mp hx with e | hx
      · subst e
        exact key_of ok (by rw [← hq.1]; exact hq.2.1)
      · exact ih x hx
  exact all r x hx
theorem dt_of {kvs : List (List Key × V)} (ok : HOk P w H h) (e : H a = some (.dT kvs)) : kvs.length ≤ sizeLine ∧ (a == sysModules) = false ∧
    ∃ xs, KT H kvs xs ∧ h.DictOfH (tupleKind (mixKind P w)) a xs := dt_rd ok (.inl e)
end

noncomputable def DGet (H : Hp) (a : Addr) (y : V) (r : Option V) : Prop :=
  (∃ kvs k, Rd H a (.dK kvs) ∧ y = kV k ∧ r = valV kvs k) ∨ ∃ kvs k b, Rd H a (.dT kvs) ∧ y = .ref b ∧ H b = some (.tup (k.map kV)) ∧ r = valV kvs k
noncomputable def DPut (H : Hp) (a : Addr) (y v : V) (H' : Hp) : Prop :=
  (∃ kvs k, H a = some (.dK kvs) ∧ y = kV k ∧ kvs.length < sizeLine ∧ H' = upd H a (.dK (putK kvs k v))) ∨
  ∃ kvs k b, H a = some (.dT kvs) ∧ y = .ref b ∧ H b = some (.tup (k.map kV)) ∧ kvs.length < sizeLine ∧ H' = upd H a (.dT (putK kvs k v))
theorem DGet.k {H : Hp} {a : Addr} {kvs : List (Key × V)} {k : Key} (e : H a = some (.dK kvs)) : DGet H a (kV k) (valV kvs k) := .inl ⟨kvs, k, .inl e, rfl, rfl⟩
theorem DPut.k {H : Hp} {a : Addr} {kvs : List (Key × V)} {k : Key} {v : V} (e : H a = some (.dK kvs)) (hl : kvs.length < sizeLine) : DPut H a (kV k) v (upd H a (.dK (putK kvs k v))) := .inl ⟨kvs, k, e, rfl, hl, rfl⟩
section
variable {X : Cx} {pins : List (Addr × Obj)} {σ : St} {H : Hp} {s : Shared} {a : Addr} {y v : V} {u r : Value} {o : Option V} {A : Around} {E : Value → Shared → Prop}

theorem Inv.big (I : Inv X pins σ H s) : sysModules < s.heap.objs.size := by
  have h : mainGlobals < s.heap.objs.size := (I.mod.glob.keeps I.bk).lt
  exact Nat.lt_trans (by decide) h

theorem d_getItem {Q : Value → Shared → Prop} (hu : A.units + 1 < cLine) (I : Inv X pins σ H s) (g : DGet H a y (some v)) (ry : RelV y u) (h : ∀ w' s', Inv X pins σ H s' → RelV v w' → Q w' s') :
    wpAny (model X.prog X.w) A (getItem (.ref a) u) Q E s := by
  rcases g with ⟨kvs, k, e, ey, l⟩ | ⟨kvs, k, b, e, ey, eb, l⟩
  · subst ey
    obtain ⟨z, hd, vs, rel, dd⟩ := dk_rd I.hok e
    obtain ⟨w', hw, rw'⟩ := RelO.some_of (v := v) (o := valueAt vs k) (by rw [l]; exact rel.val k)
    exact wpAny_getItem_of (kV_is ry) dd.mapOf hw (h w' _ (I.tok _) rw')
  · subst ey
    cases (show u = Value.ref b from ry)
    obtain ⟨z, hd, xs, rel, dd⟩ := dt_rd I.hok e
    obtain ⟨w', hw, rw'⟩ := RelO.some_of (v := v) (o := (atKey xs k).map (·.2)) (by rw [l]; exact rel.val k)
    obtain ⟨p, hp, hp2⟩ := Option.map_eq_some_iff.mp hw
    refine wpAny_getItem_heap (tupleKind_room_in1 hu) (key_of I.hok eb) dd hp ?_
    rw [hp2]
    exact h w' _ (I.tok _) rw'
theorem d_write {h' : Heap} {t' : Nat} {ob : HO} (I : Inv X pins σ H s) (mu : Mut (H a)) (hs : Heap.SameBut a s.heap h') (he : ∃ q, h'.get? a = some q) (new : ObjOk X.prog X.w (upd H a ob) h' a ob) :
    Inv X pins σ (upd H a ob) { s with heap := h', toks := t' } :=
  I.write (x := a) (e := a) mu (.inl rfl) (fun b q hb z => (hs.2 b hb).trans z) he new
theorem dk_new {P : Program} {w : World} {H' : Hp} {h' : Heap} {kvs : List (Key × V)} {vs : List (Key × Value)} (z : kvs.length ≤ sizeLine) (hd : (a == sysModules) = false) (rel : KV kvs vs) (dd : h'.DictOf (mixKind P w) a vs) :
    ObjOk P w H' h' a (.dK kvs) := ⟨z, hd, vs, rel, dd⟩
theorem d_setItem {H' : Hp} {Q : Unit → Shared → Prop} (hu : A.units + 1 < cLine) (I : Inv X pins σ H s) (g : DPut H a y v H') (ry : RelV y u) (rv : RelV v r) (h : ∀ s', Inv X pins σ H' s' → Q () s') :
    wpAny (model X.prog X.w) A (setItem (.ref a) u r) Q E s := by
  rcases g with ⟨kvs, k, e, ey, l, eH⟩ | ⟨kvs, k, b, e, ey, eb, l, eH⟩
  · subst ey eH
    obtain ⟨z, hd, vs, rel, dd⟩ := dk_of I.hok e
    have hz : vs.length ≤ sizeLine := by rw [← rel.length]; exact z
    have hl : (putK kvs k v).length ≤ sizeLine := by have := length_putK kvs k v; omega
    refine wpAny_setItem_pairs (hsz := hz) (kV_is ry) dd fun h' dd' hs => h _ ?_
    have he : ∃ q, h'.get? a = some q := let ⟨q, _, _, hq, _⟩ := dd'; ⟨q, hq⟩
    exact d_write I (by rw [e]; exact True.intro) hs he (dk_new hl hd (rel.put k rv) dd')
  · subst ey eH
    cases (show u = Value.ref b from ry)
    obtain ⟨z, hd, xs, rel, dd⟩ := dt_of I.hok e
    have hz : xs.length ≤ sizeLine := by rw [← Paired.length rel]; exact z
    have hl : (putK kvs k v).length ≤ sizeLine := by have := length_putK kvs k v; omega
    refine wpAny_setItem_heap (hsz := hz) (tupleKind_room_in1 hu) (key_of I.hok eb) dd fun h' dd' hs => h _ ?_
    obtain ⟨q, es, ep, hq, h2, h3, h4, _, h5⟩ := dd'
    refine d_write I (by rw [e]; exact True.intro) hs ⟨q, hq⟩ ⟨hl, hd, _, (rel.put k eb rv).keeps fun c ys ec => ?_, q, es, ep, hq, h2, h3, h4, h5⟩
    rw [upd_ne (ne_of ec e (fun z => nomatch z))]
    exact ec
end

section
variable {X : Cx} {pins : List (Addr × Obj)} {σ : St} {H : Hp} {s : Shared} {a : Addr} {kvs : List (Key × V)} {k : Key} {u : Value} {A : Around} {E : Value → Shared → Prop}
end


noncomputable def NoSl (i : Expr) : Prop := ∀ ov iv, subscripted i false ov iv = operate [ov, iv] (getItem ov iv)
theorem subD_of {prog : Program} {w : World} {A : Around} {E : Value → Shared → Prop} {s : Shared} {env : Env} {value slice : Expr} {pos : Pos} {T id : String} {Q : Value → Shared → Prop}
    (hl : typeLookup (.type T) "__getitem__" = pure (some (.builtin id))) (hs : NoSl slice)
    (h : wpAny (model prog w) A (eval value env) (fun o s₁ => wpAny (model prog w) A (eval slice env) (fun i s₂ => s₂.TypeIs o T ∧ wpAny (model prog w) A (getItem o i) Q E s₂) E s₁) E s) :
    wpAny (model prog w) A (eval (.Subscript value slice pos) env) Q E s := by
  refine Subscript_ (wpAny_mono h (fun o s₁ h₁ => wpAny_mono h₁ (fun i s₂ h₂ => ?_) fun _ _ x => x) fun _ _ x => x)
  obtain ⟨hT, h₂⟩ := h₂
  unfold subscriptTail
  refine wpAny_bind ?_
  rw [getitemInPython_of_ne hT.not_modules]
  refine wpAny_bind (wpAny_specialOf hT hl ?_)
  have fin : wpAny (model prog w) A (subscripted slice false o i) (fun r s₃ => wpAny (model prog w) A (letTemporaryGo value o r >>= fun _ => pure r) Q E s₃) E s₂ := by
    rw [hs o i]
    exact wpAny_operating (wpAny_mono h₂ (fun r s₃ h₃ => wpAny_bind (wpAny_letTemporaryGo (wpAny_pure h₃))) fun _ _ x => x)
  first
    | exact wpAny_pure (wpAny_bind fin)
    | exact wpAny_bind (wpAny_pure (wpAny_bind fin))
    | exact wpAny_bind fin

theorem dict_typeIs {X : Cx} {pins : List (Addr × Obj)} {σ : St} {H : Hp} {s : Shared} {a : Addr} {y : V} {o : Option V} (I : Inv X pins σ H s) (g : DGet H a y o) : s.TypeIs (.ref a) "dict" := by
  rcases g with ⟨kvs, k, e, _, _⟩ | ⟨kvs, k, b, e, _, _, _⟩
  · obtain ⟨_, _, vs, _, dd⟩ := dk_rd I.hok e
    exact dd.typeIs
  · obtain ⟨_, _, xs, _, dd⟩ := dt_rd I.hok e
    exact dd.typeIs
noncomputable def tDGet (td ty : TE) : TE := fun σ H Q => td σ H fun x H1 => ty σ H1 fun y H2 => ∃ a v, x = .ref a ∧ DGet H2 a y (some v) ∧ Q v H2
noncomputable def sDPut (td ty tv : TE) : TS := fun D σ H => tv σ H fun v H1 => td σ H1 fun x H2 => ty σ H2 fun y H3 => ∃ a H4, x = .ref a ∧ DPut H3 a y v H4 ∧ D.nx σ H4
section
variable {X : Cx} {o i e value : Expr} {pos pos' tpos : Pos} {td ty tv : TE}
theorem pe_dget (hu : X.A.units + 1 < cLine) (ho : PE X o td) (hi : PE X i ty) (hs : NoSl i) : PE X (.Subscript o i pos) (tDGet td ty) := by
  intro pins s σ H Q I h
  refine subD_of PySem.F.slot_dict_getitem.lookup hs (thn (ho pins s σ H _ I h) fun u s1 ⟨x, H1, I1, rx, q1⟩ => thn (hi pins s1 σ H1 _ I1 q1) fun iv s2 ⟨y, H2, I2, ry, a, v, ex, g, q2⟩ => ?_)
  subst ex
  obtain rfl : u = Value.ref a := rx
  exact ⟨dict_typeIs I2 g, d_getItem hu I2 g ry fun w' s3 I3 rw' => ⟨v, H2, I3, rw', q2⟩⟩
theorem ps_dput (hu : X.A.units + 1 < cLine) (ho : PE X o td) (hi : PE X i ty) (hv : PE X value tv) (hs : swapsWith value (some (.Subscript o i pos')) pos.line X.env = pure false) :
    PS X (.Assign [.Subscript o i pos'] value pos) (sDPut td ty tv) := by
  intro pins s σ H D I h
  refine wpAny_Assign_Subscript (thn (hv pins s σ H _ I h) fun r s1 ⟨v, H1, I1, rv, q1⟩ => thn (ho pins s1 σ H1 _ I1 q1) fun u s2 ⟨x, H2, I2, rx, q2⟩ => thn (hi pins s2 σ H2 _ I2 q2) fun iv s3 ⟨y, H3, I3, ry, a, H4, ex, g, q3⟩ => ?_) hs
  subst ex
  obtain rfl : u = Value.ref a := rx
  exact d_setItem hu I3 g ry rv fun s4 I4 => ⟨σ, H4, I4, q3⟩
end


theorem dk_empty {P : Program} {w : World} {H : Hp} (h : Heap) (hb : sysModules < h.objs.size) : ObjOk P w H (h.push { cls := .type "dict", data := .dict #[] }) h.objs.size (.dK []) :=
  ⟨Nat.zero_le _, beq_eq_false_iff_ne.mpr (Ne.symm (Nat.ne_of_lt hb)), [], .nil, Heap.DictOf.new h⟩
section
variable {X : Cx} {pos : Pos}
end

noncomputable def tPairs : List (TE × TE) → St → Hp → (List (V × V) → Hp → Prop) → Prop
  | [], _, H, Q => Q [] H
  | (tk, tv) :: r, σ, H, Q => tk σ H fun x H1 => tv σ H1 fun y H2 => tPairs r σ H2 fun ps H3 => Q ((x, y) :: ps) H3
noncomputable abbrev VV : List (V × V) → List (Value × Value) → Prop := Paired fun p q => RelV p.1 q.1 ∧ RelV p.2 q.2
noncomputable def PPs (X : Cx) (pos : Pos) (keys : List (Option Expr)) (values : List Expr) (trs : List (TE × TE)) : Prop :=
  ∀ (pins : List (Addr × Obj)) (s : Shared) (σ : St) (H : Hp) (Q : List (V × V) → Hp → Prop), Inv X pins σ H s → tPairs trs σ H Q →
    wpAny (model X.prog X.w) X.A (evalPairs (pairTrees keys values X.env pos)) (fun vs s' => ∃ ps H', Inv X pins σ H' s' ∧ VV ps vs ∧ Q ps H') X.xe s
theorem pps_nil {X : Cx} {pos : Pos} : PPs X pos [] [] [] := fun pins s σ H Q I h => pairTrees_nil_walk ⟨[], H, I, .nil, h⟩
theorem pps_cons {X : Cx} {pos : Pos} {k v : Expr} {ks : List (Option Expr)} {vs : List Expr} {tk tv : TE} {trs : List (TE × TE)} (hk : PE X k tk) (hv : PE X v tv) (hr : PPs X pos ks vs trs) :
    PPs X pos (some k :: ks) (v :: vs) ((tk, tv) :: trs) := fun pins s σ H Q I h =>
  pairTrees_cons_walk (thn (hk pins s σ H _ I h) fun u s1 ⟨x, H1, I1, rx, q1⟩ => thn (hv pins s1 σ H1 _ I1 q1) fun w2 s2 ⟨y, H2, I2, ry, q2⟩ =>
    thn (hr pins s2 σ H2 _ I2 q2) fun ws s3 ⟨ps, H3, I3, rel, q3⟩ => ⟨(x, y) :: ps, H3, I3, .cons ⟨rx, ry⟩ rel, q3⟩)

noncomputable def mergeK (kvs more : List (Key × V)) : List (Key × V) := more.foldl (fun acc kv => putK acc kv.1 kv.2) kvs
theorem KV.merge : ∀ {more : List (Key × V)} {rs : List (Key × Value)} {kvs : List (Key × V)} {vs : List (Key × Value)}, KV more rs → KV kvs vs → KV (mergeK kvs more) (merged vs rs) := by
  intro more rs kvs vs r
  unfold KV at r
  induction r generalizing kvs vs with
  | nil => intro q; exact q
  | @cons p q ps qs h t ih =>
    intro r0
    have e : KV (putK kvs p.1 p.2) (stored vs q.1 q.2) := by
      have := r0.put p.1 h.2
      rw [← h.1]; exact this
    exact ih e
theorem length_mergeK : ∀ (more kvs : List (Key × V)), (mergeK kvs more).length ≤ kvs.length + more.length
  | [], kvs => by show kvs.length ≤ kvs.length + 0; omega
  | p :: r, kvs => by
    have h1 := length_mergeK r (putK kvs p.1 p.2)
    have h2 := length_putK kvs p.1 p.2
    show (mergeK (putK kvs p.1 p.2) r).length ≤ _
    rw [List.length_cons]; omega
theorem carries_of {P : Program} {w : World} : ∀ {kvs : List (Key × V)} {ws : List (Value × Value)}, VV (kvs.map fun kv => (kV kv.1, kv.2)) ws → ∃ rs, Carries (mixKind P w) ws rs ∧ KV kvs rs
  | [], _, r => by rw [List.map_nil] at r; cases r; exact ⟨[], True.intro, .nil⟩
  | p :: kvs, _, r => by
    rw [List.map_cons] at r
    cases r with
    | @cons a b as bs h t =>
      obtain ⟨rs, c, q⟩ := carries_of (P := P) (w := w) t
      obtain ⟨b1, b2⟩ := b
      exact ⟨(p.1, b2) :: rs, ⟨kV_is h.1, rfl, c⟩, .cons ⟨rfl, h.2⟩ q⟩
noncomputable def tDisp (trs : List (TE × TE)) : TE := fun σ H Q => ∀ p, H p = none → tPairs trs σ (upd H p (.dK [])) fun ps H2 => H2 p = some (.dK []) ∧ ∃ kvs : List (Key × V), ps = kvs.map (fun kv => (kV kv.1, kv.2)) ∧ kvs.length ≤ 15 ∧ Q (.ref p) (upd H2 p (.dK (mergeK [] kvs)))
theorem pe_disp {X : Cx} {pos : Pos} {keys : List (Option Expr)} {values : List Expr} {trs : List (TE × TE)} (h : PPs X pos keys values trs) (hall : keys.all (·.isSome) = true) (hl : keys.length = values.length) (h0 : keys ≠ [])
    (h15 : keys.length ≤ 15) : PE X (.Dict keys values pos) (tDisp trs) := by
  intro pins s σ H Q I q
  have hn := I.hok.fresh (Nat.le_refl s.heap.objs.size)
  have I1 := I.laid (a := s.heap.objs.size) (o := .dK []) (h' := s.heap.push { cls := .type "dict", data := .dict #[] }) (t' := s.toks) (fun _ _ q => Heap.get?_push_of_some _ q) (Nat.le_refl _) (dk_empty s.heap I.big)
  refine wpAny_Dict_walk (knd := mixKind X.prog X.w) hall hl h0 h15 (thn (h pins _ σ _ _ I1 (q _ hn)) fun ws s2 ⟨ps, H2, I2, rel, e, kvs, ep, lk, q2⟩ => ?_)
  subst ep
  obtain ⟨rs, c, rk⟩ := carries_of (P := X.prog) (w := X.w) rel
  obtain ⟨z, hd, vs0, r0, dd⟩ := dk_of I2.hok e
  cases r0
  refine ⟨rs, c, dd, fun h' dd' hs => ⟨.ref s.heap.objs.size, _, ?_, rfl, q2⟩⟩
  have hz : (mergeK [] kvs).length ≤ sizeLine := by
    have h1 := length_mergeK kvs []
    rw [List.length_nil] at h1
    rw [sizeLine_eq]; omega
  have he : ∃ q, h'.get? s.heap.objs.size = some q := let ⟨q, _, _, hq, _⟩ := dd'; ⟨q, hq⟩
  exact d_write I2 (by rw [e]; exact True.intro) hs he (dk_new hz hd (rk.merge .nil) dd')


section
variable {X : Cx} {pins : List (Addr × Obj)} {σ : St} {H : Hp} {s : Shared} {a : Addr} {y d : V} {u r : Value} {o : Option V} {A : Around} {E : Value → Shared → Prop}
end

section
variable {X : Cx} {o e f : Expr} {apos cpos : Pos} {td ty tx : TE}
end

section
variable {X : Cx} {pins : List (Addr × Obj)} {σ : St} {H : Hp} {s : Shared} {a : Addr} {kvs : List (Key × V)} {A : Around} {E : Value → Shared → Prop}
end


section
variable {X : Cx} {pins : List (Addr × Obj)} {σ : St} {H : Hp} {s : Shared} {a : Addr} {y : V} {u : Value} {A : Around} {E : Value → Shared → Prop}
end
end L2

namespace Att
open PySem PySem.W PySem.Calls PyProof.Rows

theorem ints_of_wellAll {P : Params} {h : Heap} : ∀ (ns : List Int) (vs : List Value), WellAll P h vs (ns.map WData.int) → IntsAre vs ns := by
  intro ns
  induction ns with
  | nil =>
    intro vs w
    rw [List.map_nil] at w
    cases w
    exact .nil
  | cons n ns ih =>
    intro vs w
    rw [List.map_cons] at w
    cases w with
    | cons a b =>
      cases a
      exact .cons _ _ (ih _ b)

theorem script_of {l : OpenLaw} {n : Nat} (hn : l.most = some n) {P : Params} {h : Heap} {args : List WData} {vals : List Value}
    (hpre : l.row.toRowW.claim.pre args = true) (hwl : WellAll P h vals args) :
    ∃ a vs ns, vals = [Value.ref a] ∧ args = [WData.list (ns.map WData.int)] ∧ h.get? a = some { cls := .type "list", data := .seq vs.toArray } ∧ IntsAre vs ns ∧ ns.length ≤ n := by
  have hsh : WShape.hasAll [] args [.list .int] = true := (pre_splitW hpre).1
  have hc : l.pre.holds [] { args := args } = true := (pre_splitW hpre).2
  obtain ⟨d, r, rfl, h1, h2⟩ := hasAllW_cons hsh
  obtain rfl := hasAllW_nil h2
  obtain ⟨xs, rfl, h3⟩ := hasW_list h1
  obtain ⟨ns, rfl⟩ := items_int h3
  have hlen : ns.length ≤ n := by
    unfold OpenLaw.pre at hc
    have h4 : (WTm.not (.lt (.lit (.int (n : Int))) (.len (.arg 0)))).holds [] { args := [.list (ns.map .int)] } = true := by
      have h4 := (holds_andW hc).1
      rw [hn] at h4
      exact h4
    have h5 := condW_of h4 (w_not (w_lt w_lit (w_len_list (w_arg rfl))))
    rw [List.length_map] at h5
    refine Nat.le_of_not_lt fun q => ?_
    have q' : (n : Int) < ((ns.length : Nat) : Int) := by omega
    first
      | (rw [decide_eq_true q'] at h5; exact absurd h5 (by decide))
      | (simp at h5; omega)
  cases hwl with
  | cons w1 w2 =>
    cases w2
    cases w1 with
    | list ho hall => exact ⟨_, _, ns, rfl, rfl, ho, ints_of_wellAll ns _ hall, hlen⟩

theorem post_true (l : OpenLaw) (args : List WData) : l.row.toRowW.claim.post args (.bool true) args = true :=
  postW_of (r := l.row.toRowW) (X := (true == true))
    (show WShape.has [] (.bool true) .bool = true by first | rfl | decide | simp [WShape.has, WShape.arms, WShape.armsAll])
    (show (WTm.eq .res (.lit (.bool true))).value [] { args := args, res := some (.bool true), after := args } = some (.bool (true == true)) from w_eq_bool (w_res rfl) w_lit) rfl

theorem attach_call {l : OpenLaw} {n : Nat} {q : Program} {loose : List Str} {XP : (Str → Option Value) → Heap → Prop} {YP : World → Heap → Prop} {d : DefRec}
    (hn : l.most = some n) (hdf : d.params.defaults = [])
    (call : ∀ (w : World) (s₀ s₁ : Shared) (mg mb : Str → Option Value) (fa : Addr) (o : Obj) (pm cd doc : Value) (a : Addr) (vs : List Value) (ns : List Int),
      Ground q loose [] XP w s₀ mg mb s₁.heap → YP w s₁.heap →
      s₁.heap.get? fa = some o → o.data = .func (docDef d.name d.params d.body d.scope pm cd doc) → s₁.heap.CodeRec cd d.name → mg d.name = some (.ref fa) →
      s₁.heap.get? a = some { cls := .type "list", data := .seq vs.toArray } → IntsAre vs ns → ns.length ≤ n → s₁.gens = #[] →
      codeAny (model l.prog w) callerA (.call (.ref fa) ⟨[.ref a], []⟩) (fun r s' => r = .ok (.ret (.bool true)) ∧ OldK s₁.heap s'.heap ∧ s'.os = s₁.os ∧ AllBare s'.gens) s₁) :
    WalkO q loose XP YP l.row.toRowW d [] (fun f vs => PySem.call f vs) := by
  intro w s₀ s₁ mg mb G Y fa o pm cd doc dV kV ho hd hcd hD hmg hg args vals as hpre hlay hrd hwl hlo
  obtain rfl : dV = .none := Dflts.none hD hdf
  obtain rfl : kV = .none := Dflts.noKw hD
  obtain ⟨a, vs, ns, rfl, rfl, hobj, hints, hlen⟩ := script_of hn hpre hwl
  refine enter_call (codeAny_mono (call w s₀ s₁ mg mb fa o pm cd doc a vs ns G Y ho (fd_plain hd) hcd hmg hobj hints hlen hg) fun r s' hq => ?_)
  obtain ⟨rfl, h2, h3, h4⟩ := hq
  exact ⟨.inl ⟨.bool true, .bool true, [], rfl, fun _ => rfl, .bool true, post_true l _, fun _ => ⟨List.Pairwise.nil, fun _ hm => (nomatch hm)⟩⟩, h2, h3, h4⟩

section
variable {prog : Program} {w : World} {A : Around} {E : Value → Shared → Prop} {s : Shared} {K : Frag}

end
end Att

namespace L2
open PySem PySem.Spec PyProof.Rows

theorem vals_ints : ∀ {vs : List Value} {ns : List Int}, IntsAre vs ns → Vals (ns.map V.int) vs
  | _, _, .nil => .nil
  | _, _, .cons n t h => .cons ⟨t, rfl⟩ (vals_ints h)

noncomputable def Only (H : Hp) : Prop := ∀ b, H b = none ∨ ∃ o xs, H b = some (.frz o (.lst xs))

theorem law_call {P : Program} {w : World} {K : PySem.W.Frag} {mg mb : Str → Option Value} {CX : CXT} {k : Nat} {fa a : Addr} {fd : FuncData} {x : Str} {sp : Sp} {s₁ : Shared} {vs : List Value} {ns : List Int}
    (KX : K.In s₁.heap) (hns : s₁.heap.Ns mainGlobals mg) (hb : s₁.heap.Ns builtinsNs mb) (hbb : ∀ x : Str, x ≠ "__name__" → mb x = bootBuiltins x) (hlim : s₁.heap.NoLimit) (hg : s₁.gens = #[])
    (ha : s₁.heap.get? a = some { cls := .type "list", data := .seq vs.toArray }) (hi : IntsAre vs ns) (hl : ns.length ≤ sizeLine) (hr : Room k callerA)
    (F : ∀ base : Heap, K.In base → base.Ns mainGlobals mg → FnOk P w K mg base CX k fa fd [x] sp) (hbind : ∀ (s : Shared) (u : Value), BindsTo s fd ⟨[u], []⟩ [(x, u)])
    (hsp : ∀ H : Hp, Only H → SqL K H a (ns.map V.int) → sp [.ref a] H (fun v _ => v = .bl true) fun _ _ _ => False)
    (hCX : ∀ H e s', CX [] H s₁ (fun _ _ _ => False) e s' → False) :
    codeAny (model P w) callerA (.call (.ref fa) ⟨[.ref a], []⟩) (fun r s' => r = .ok (.ret (.bool true)) ∧ OldK s₁.heap s'.heap ∧ s'.os = s₁.os ∧ AllBare s'.gens) s₁ := by
  have rv := vals_ints hi
  have lenV := hi.length
  -- from an abstract heap in which nothing but the script may be tracked
  have core : ∀ H : Hp, Only H → SqL K H a (ns.map V.int) → HOk P w H s₁.heap → (∀ b, H b ≠ none → b = a) → (H a ≠ none → K.lookup a = none) →
      codeAny (model P w) callerA (.call (.ref fa) ⟨[.ref a], []⟩) (fun r s' => r = .ok (.ret (.bool true)) ∧ OldK s₁.heap s'.heap ∧ s'.os = s₁.os ∧ AllBare s'.gens) s₁ := by
    intro H hO hS hok hA hK
    have base_of : ∀ {b : Addr} {o : Obj}, s₁.heap.get? b = some o → H b = none → (hidT s₁.heap H).get? b = some o := fun e n => hidT_get e n
    have noA : ∀ {b : Addr} {o : Obj} {es : Array DictEntry} {ep : Nat}, s₁.heap.get? b = some o → o.data = .dict es ep → H b = none := fun {b o es ep} e d => by
      cases q : H b with
      | none => rfl
      | some u =>
        have e' : b = a := hA b (by rw [q]; simp)
        subst e'
        rw [ha] at e; cases e
        have d' : Data.seq vs.toArray _ = Data.dict es ep := d
        cases d'
    have nsK : ∀ {b : Addr} {m : Str → Option Value}, s₁.heap.Ns b m → (hidT s₁.heap H).Ns b m := fun {b m} ⟨o, es, ep, e, d, r⟩ => ⟨o, es, ep, base_of e (noA e d), d, r⟩
    have hKb : K.In (hidT s₁.heap H) := fun b o e => base_of (KX b o e) (by
      cases q : H b with
      | none => rfl
      | some u =>
        have e' : b = a := hA b (by rw [q]; simp)
        subst e'
        rw [hK (by rw [q]; simp)] at e; cases e)
    have hM : Mod K mg (hidT s₁.heap H) := ⟨hKb, nsK hns, ⟨mb, nsK hb, hbb⟩, let ⟨mc, h1, h2⟩ := hlim; ⟨mc, nsK h1, h2⟩⟩
    have e0 : Env0 P w K mg (hidT s₁.heap H) callerA [] s₁ H := ⟨rfl, hM, fun b o e => of_hidT e, Nat.le_of_eq (hidT_size _ _), trivial, fun b hb => absurd (show b ∈ ([] : List Addr) from hb) (by simp), hok, .of_eq hg⟩
    refine codeAny_mono ((F _ hKb (nsK hns)).run callerA [] s₁ H ⟨[.ref a], []⟩ [.ref a] [.ref a] _ _ hr e0 (hbind s₁ (.ref a)) (.cons rfl .nil) (hsp H hO hS)) fun r s' h => ?_
    cases r with
    | error e => exact (hCX H e s' h).elim
    | ok fl =>
      cases fl with
      | next => exact False.elim h
      | brk => exact False.elim h
      | cont => exact False.elim h
      | ret u =>
        obtain ⟨v, H', os, bare, un, hok', r', q⟩ := h
        have q' : v = .bl true := q
        subst q'
        obtain rfl : u = Value.bool true := r'
        refine ⟨rfl, OldK.of_keep fun b o e => ?_, os, bare⟩
        cases q : H b with
        | none => exact un.keep b o e q (by intro z; exact absurd (show b ∈ ([] : List Addr) from z) (by simp)) (by simp)
        | some u =>
          rcases hO b with z | ⟨ob, xs, z⟩
          · rw [q] at z; cases z
          · have z2 := un.frzs b ob _ z
            obtain ⟨e1, _⟩ := hok b _ z
            obtain ⟨e2, _⟩ := hok' b _ z2
            rw [e] at e1; cases e1
            exact e2
  cases hk : K.lookup a with
  | some o =>
    -- the script is one of the module's own objects
    have e := KX a o hk
    rw [ha] at e
    cases e
    refine core (fun _ => none) (fun _ => .inl rfl) (.inr ⟨_, vs.toArray, _, hk, rfl, rfl, rfl, by rw [List.size_toArray, lenV]; exact hl, by simpa using rv⟩) (fun b u z => by have z' : (none : Option HO) = some u := z; cases z') (fun b z => absurd rfl z) fun z => absurd rfl z
  | none =>
    refine core (fun b => if b = a then some (.frz { cls := .type "list", data := .seq vs.toArray } (.lst (ns.map V.int))) else none) (fun b => ?_) (.inl (.inr ⟨{ cls := .type "list", data := .seq vs.toArray }, if_pos rfl⟩)) (fun b u z => ?_) (fun b z => ?_) fun _ => hk
    · by_cases hb : b = a
      · exact .inr ⟨_, _, if_pos hb⟩
      · exact .inl (if_neg hb)
    · by_cases hb : b = a
      · have z' := (if_pos hb).symm.trans z
        cases z'
        subst hb
        exact ⟨ha, by rw [List.length_map]; exact hl, vs, _, rv, ha⟩
      · have z' := (if_neg hb).symm.trans z
        cases z'
    · by_cases hb : b = a
      · exact hb
      · exact absurd (if_neg hb) z
end L2

namespace L2
open PySem PySem.Spec PyProof.Rows

theorem walk_of {l : PySem.W.OpenLaw} {n k : Nat} {q : Program} {loose : List Str} {XP : (Str → Option Value) → Heap → Prop} {YP : World → Heap → Prop} {d : DefRec} {K : Params → PySem.W.Frag} {CX : World → CXT} {sp : World → Sp} {x : Str}
    (hn : l.most = some n) (hn2 : n ≤ sizeLine) (hdf : d.params.defaults = []) (hr : Room k callerA)
    (hY : ∀ (w : World) (h : Heap), YP w h → (K w.params).In h)
    (F : ∀ (w : World) (mg : Str → Option Value) (fa : Addr) (h : Heap), (K w.params).In h → h.Ns mainGlobals mg → mg d.name = some (.ref fa) →
      ∃ fd : FuncData, (∀ (s : Shared) (u : Value), BindsTo s fd ⟨[u], []⟩ [(x, u)]) ∧
        ∀ base : Heap, (K w.params).In base → base.Ns mainGlobals mg → FnOk l.prog w (K w.params) mg base (CX w) k fa fd [x] (sp w))
    (hsp : ∀ (w : World) (H : Hp) (a : Addr) (ns : List Int), ns.length ≤ n → Only H → SqL (K w.params) H a (ns.map V.int) → sp w [.ref a] H (fun v _ => v = .bl true) fun _ _ _ => False)
    (hCX : ∀ (w : World) (H : Hp) (s : Shared) (e : Value) (s' : Shared), CX w [] H s (fun _ _ _ => False) e s' → False) :
    PySem.W.WalkO q loose XP YP l.row.toRowW d [] (fun f vs => PySem.call f vs) := by
  refine Att.attach_call hn hdf fun w s₀ s₁ mg mb fa o pm cd doc a vs ns G Y ho hd hcd hmg hobj hints hlen hg => ?_
  have KX := hY w _ Y
  obtain ⟨fd, hb, hF⟩ := F w mg fa _ KX G.T.g hmg
  exact law_call KX G.T.g G.T.b G.T.builtins G.T.nolimit hg hobj hints (Nat.le_trans hlen hn2) hr hF hb (fun H hO hS => hsp w H a ns hlen hO hS) fun H e s' => hCX w H s₁ e s'
end L2


namespace L2
open PySem PySem.Spec PyProof.Rows

noncomputable def defArgs (s : Stmt) : Arguments := match s with
  | .FunctionDef _ a _ _ _ _ _ _ _ _ => a
  | _ => { posonlyargs := [], args := [], vararg := none, kwonlyargs := [], kw_defaults := [], kwarg := none, defaults := [] }
noncomputable def defBody (s : Stmt) : List Stmt := match s with
  | .FunctionDef _ _ b _ _ _ _ _ _ _ => b
  | _ => []
noncomputable def defScope (s : Stmt) : Scope := match s with
  | .FunctionDef _ _ _ _ _ _ sc _ _ _ => sc
  | _ => { kind := .function, names := [], isGenerator := false, isCoroutine := false }

noncomputable abbrev CX0 : CXT := fun _ _ _ _ _ _ => False
noncomputable abbrev E0 : XK := fun _ _ _ => False
theorem pass0 {X : Cx} : Passes CX0 X E0 := fun _ _ _ _ _ _ _ h => h.elim

structure Fun (K : PySem.W.Frag) (x qual : Str) (st : Stmt) (f : Addr) (fd : FuncData) : Prop where
  ex : ∃ (oc : Value) (od : Option Addr) (kV doc pm : Value) (an : Option Addr) (cdv ct : Value) (osl : Array (Option Value)),
    fd = PySem.W.fnOf x qual (defArgs st) (defBody st) (defScope st) .none kV doc pm an cdv ct ∧ K.lookup f = some ⟨oc, od, .func fd, osl⟩ ∧ PySem.W.codeIn K cdv qual = true
  kp : PySem.W.keepIn K (.ref f) = true
section
variable {P : Program} {w : World} {K : PySem.W.Frag} {mg : Str → Option Value} {base : Heap}
theorem Fun.ok {x qual : Str} {st : Stmt} {f : Addr} {fd : FuncData} {N ps : List Str} {k : Nat} {sp : Sp} (F : Fun K x qual st f fd) (S : FnScope N ps (defScope st)) (len : ∀ vs H Q E, sp vs H Q E → vs.length = ps.length)
    (hbody : ∀ (cdv : Value) (A : Around) (outer : List Env) (s : Shared) (H : Hp) (vs : List V) (Q : VK) (E : XK), Room k (A.deeper (envOfC qual (defScope st) s.heap.objs.size f cdv)) → sp vs H Q E →
      ∃ t, PSs (cxOf CX0 P w K mg base N qual (defScope st) f cdv A outer s H E).nox (defBody st) t ∧ t { nx := fun _ H' => Q .non H', rt := Q } (start N vs) H) : FnOk P w K mg base CX0 (k + 1) f fd ps sp := by
  obtain ⟨oc, od, kV, doc, pm, an, cdv, ct, osl, rfl, lk, hcd⟩ := F.ex
  refine fn_of lk hcd S len fun A outer s H vs Q E hr hsp => ?_
  obtain ⟨t, h, q⟩ := hbody cdv A outer s H vs Q E hr hsp
  exact ⟨t, h.nox, q⟩
theorem Fun.binds {x qual : Str} {st : Stmt} {f : Addr} {fd : FuncData} {ps : List Str} (F : Fun K x qual st f fd)
    (h : ∀ (kV doc pm : Value) (an : Option Addr) (cdv ct : Value) (us : List Value), us.length = ps.length → bindArgs (PySem.W.fnOf x qual (defArgs st) (defBody st) (defScope st) .none kV doc pm an cdv ct) ⟨us, []⟩ = pure (ps.zip us)) : Binds K fd ps [] := by
  obtain ⟨oc, od, kV, doc, pm, an, cdv, ct, osl, rfl, lk, hcd⟩ := F.ex
  exact .all (h kV doc pm an cdv ct)
theorem fun_mk {x qual : Str} {st : Stmt} {f : Addr} {oc : Value} {od an : Option Addr} {osl : Array (Option Value)} {kV doc pm cdv ct : Value} (l : K.lookup f = some ⟨oc, od, .func (PySem.W.fnOf x qual (defArgs st) (defBody st) (defScope st) .none kV doc pm an cdv ct), osl⟩)
    (c : PySem.W.codeIn K cdv qual = true) (k : PySem.W.keepIn K (.ref f) = true) : Fun K x qual st f (PySem.W.fnOf x qual (defArgs st) (defBody st) (defScope st) .none kV doc pm an cdv ct) := ⟨⟨oc, od, kV, doc, pm, an, cdv, ct, osl, rfl, l, c⟩, k⟩
end
theorem hu_of {A : Around} {k : Nat} (hr : Room k A) : A.units + 1 < cLine := Nat.lt_of_le_of_lt (Nat.add_le_add_left (by decide : 1 ≤ 64) _) hr.units
theorem small1000 {n : Nat} (h : n ≤ 1000) : n < sizeLine := Nat.lt_of_le_of_lt h (by decide)

section
variable {X : Cx}
theorem pv (i : Nat) {x : Str} {pos : Pos} (hN : X.N[i]? = some x := by rfl) (hv : Vis X.env.scope x := by first | exact Or.inl rfl | exact Or.inr (Or.inl rfl) | exact Or.inr (Or.inr rfl)) (hd : (x == ("__debug__" : Str)) = false := by decide)
    (hcd : (x == ("__classdict__" : Str)) = false := by decide) : PE X (.Name x pos) (tVar i) := pe_var hN hv hd hcd
end

theorem iteF {A B : Prop} (h : B) : if false = true then A else B := by
  rw [if_neg Bool.false_ne_true]
  exact h
theorem iteT {A B : Prop} (h : A) : if true = true then A else B := by
  rw [if_pos rfl]
  exact h
noncomputable def Same (H H' : Hp) : Prop := ∀ b o, H b = some o → H' b = some o
theorem Same.free {H H' : Hp} (e : Same H H') {l : Addr} (h : H' l = Option.none) : H l = Option.none := by
  cases q : H l with
  | none => rfl
  | some o =>
    rw [e l o q] at h
    cases h
theorem Same.seq {K : PySem.W.Frag} {H H' : Hp} {a : Addr} {xs : List V} (e : Same H H') (h : SqL K H a xs) : SqL K H' a xs := by
  rcases h with (h | ⟨o, h⟩) | h
  · exact .inl (.inl (e _ _ h))
  · exact .inl (.inr ⟨o, e _ _ h⟩)
  · exact .inr h

section
variable {κ : Type} [DecidableEq κ]
end
end L2
namespace L2
open PySem PySem.Spec PyProof.Rows
end L2

set_option maxHeartbeats 4000000
namespace L2
open PySem PySem.Spec PyProof.Rows

noncomputable abbrev NoE : Value → Shared → Prop := fun _ _ => False
theorem compLoop_go {prog : Program} {w : World} {A : Around} {R : Result → Shared → Prop} {s : Shared} {elt target iter : Expr} {ifs : List Expr} {scope : Scope} {pos : Pos} {it acc : Value} {env : Env} (I : Nat → Shared → Prop)
    (turn : ∀ n s, I n s → wpAny (model prog w) A (pyNext it) (fun r s₁ => match r with
      | none => R (.ok .next) s₁
      | some v => wpAny (model prog w) A (letOwnedTupleGo target it v) (fun _ s₁' => wpAny (model prog w) A (assign target env v) (fun _ s₂ =>
          wpAny (model prog w) A (forIn ifs true fun c r => if r = true then do let ok ← isTrue c env (eval c env); pure (ForInStep.yield ok) else pure (ForInStep.yield r)) (fun ok s₃ =>
            if ok = true then wpAny (model prog w) A (eval elt env) (fun x s₄ =>
              wpAny (model prog w) A (call (.builtin "list.append") [acc, x]) (fun _ s₅ => ∃ m, m < n ∧ I m s₅) NoE s₄) NoE s₃
            else ∃ m, m < n ∧ I m s₃) NoE s₂) NoE s₁') NoE s₁) NoE s)
    (n : Nat) (h : I n s) :
    codeAny (model prog w) A (.compLoop (.ListComp elt [⟨target, iter, ifs, 0⟩] scope pos) 0 it acc env) R s := by
  refine codeAny_loop rfl I (fun n s hI => ?_) n h
  show wpAny _ A ((compTurn (.ListComp elt [⟨target, iter, ifs, 0⟩] scope pos) 0 it acc env).onRaise (fun x => do noteFrame x env; theTreesLotGoes x)) _ _ s
  refine wpAny_noted ?_
  rw [compTurn_list]
  refine wpAny_bind (wpAny_standAt (wpAny_bind (wpAny_mono (turn n s hI) (fun r s₁ h₁ => ?_) fun _ _ f => f.elim)))
  cases r with
  | none => exact wpAny_pure h₁
  | some v =>
    refine wpAny_bind (wpAny_mono h₁ (fun _ s₁' h₁' => wpAny_bind (wpAny_mono h₁' (fun _ s₂ h₂ => wpAny_bind (wpAny_mono h₂ (fun ok s₃ h₃ => ?_) fun _ _ f => f.elim)) fun _ _ f => f.elim)) fun _ _ f => f.elim)
    cases ok with
    | false => exact wpAny_pure ⟨rfl, h₃⟩
    | true =>
      exact wpAny_bind (wpAny_bind (wpAny_mono h₃ (fun x s₄ h₄ => wpAny_bind (wpAny_mono h₄ (fun _ s₅ h₅ => wpAny_pure (wpAny_pure ⟨rfl, h₅⟩)) fun _ _ f => f.elim)) fun _ _ f => f.elim))

noncomputable def closeL (env : Env) : List (Str × NameKind) → List (Str × Addr) → List (Str × Addr)
  | [], cs => cs
  | (n, k) :: r, cs => closeL env r (if (k == NameKind.free) = true then (n, (env.cells.lookup n).getD 0) :: cs else cs)
theorem closureFor_eq {scope : Scope} {env : Env} (h : ∀ x ∈ scope.names, x.2 = .free → ∃ c, env.cells.lookup x.1 = some c) : closureFor scope env = pure (closeL env scope.names []) := by
  have key : ∀ (l : List (Str × NameKind)) (cs : List (Str × Addr)), (∀ x ∈ l, x.2 = .free → ∃ c, env.cells.lookup x.1 = some c) →
      (forIn (m := Sem) l cs fun (x : Str × NameKind) (r : List (Str × Addr)) => if (x.2 == NameKind.free) = true then (do let c ← cellOf env x.1; pure (ForInStep.yield ((x.1, c) :: r))) else (do pure PUnit.unit; pure (ForInStep.yield r))) = pure (closeL env l cs) := by
    intro l
    induction l with
    | nil => intro cs _; rfl
    | cons x r ih =>
      intro cs hx
      obtain ⟨n, k⟩ := x
      rw [List.forIn_cons]
      by_cases hk : k = .free
      · subst hk
        obtain ⟨c, hc⟩ := hx _ List.mem_cons_self rfl
        have e : cellOf env n = pure c := by unfold cellOf; rw [show env.cells.lookup n = some c from hc]
        simp only [beq_self_eq_true, if_true, e, pure_bind]
        rw [ih _ fun y hy => hx y (List.mem_cons_of_mem _ hy)]
        simp only [closeL, beq_self_eq_true, if_true]
        rw [show env.cells.lookup n = some c from hc]
        rfl
      · have hb : (k == NameKind.free) = false := by simpa using hk
        simp only [hb, Bool.false_eq_true, if_false, pure_bind]
        rw [ih _ fun y hy => hx y (List.mem_cons_of_mem _ hy)]
        simp only [closeL, hb, Bool.false_eq_true, if_false]
  unfold closureFor
  have := key scope.names [] h
  show ((forIn (m := Sem) scope.names ([] : List (Str × Addr)) _) >>= _) = _
  refine Eq.trans (congrArg (fun z => z >>= _) (Eq.trans ?_ this)) ?_
  · congr 1
  · rfl
theorem closeL_mem {env : Env} : ∀ {l : List (Str × NameKind)} {cs : List (Str × Addr)}, (∀ x ∈ l, x.2 = .free → ∃ c, env.cells.lookup x.1 = some c) → (∀ p ∈ cs, env.cells.lookup p.1 = some p.2) → ∀ p ∈ closeL env l cs, env.cells.lookup p.1 = some p.2
  | [], _, _, hc => hc
  | (n, k) :: r, cs, hx, hc => by
    unfold closeL
    refine closeL_mem (fun y hy => hx y (List.mem_cons_of_mem _ hy)) fun p hp => ?_
    by_cases hk : k = .free
    · subst hk
      simp only [beq_self_eq_true, if_true] at hp
      rcases List.mem_cons.mp hp with rfl | hp
      · obtain ⟨c, e⟩ := hx _ List.mem_cons_self rfl
        have e : env.cells.lookup n = some c := e
        show env.cells.lookup n = some ((env.cells.lookup n).getD 0)
        rw [e]
        rfl
      · exact hc p hp
    · have hb : (k == NameKind.free) = false := by simpa using hk
      simp only [hb, Bool.false_eq_true, if_false] at hp
      exact hc p hp
theorem closeL_sub {env : Env} : ∀ {l : List (Str × NameKind)} {cs : List (Str × Addr)} {p : Str × Addr}, p ∈ cs → p ∈ closeL env l cs
  | [], _, _, h => h
  | (n, k) :: r, cs, p, h => by
    unfold closeL
    refine closeL_sub ?_
    split
    · exact List.mem_cons_of_mem _ h
    · exact h
theorem closeL_has {env : Env} : ∀ {l : List (Str × NameKind)} {cs : List (Str × Addr)} {x : Str}, (x, NameKind.free) ∈ l → ∃ c, (x, c) ∈ closeL env l cs
  | [], _, _, h => by cases h
  | (n, k) :: r, cs, x, h => by
    unfold closeL
    rcases List.mem_cons.mp h with e | h
    · cases e
      simp only [beq_self_eq_true, if_true]
      exact ⟨_, closeL_sub List.mem_cons_self⟩
    · exact closeL_has h
theorem lookup_mem_some {α : Type} {x : Str} {c : α} : ∀ {l : List (Str × α)}, (x, c) ∈ l → ∃ d, l.lookup x = some d
  | [], h => by cases h
  | (n, k) :: r, h => by
    rw [List.lookup_cons]
    cases hx : x == n with
    | true => exact ⟨k, rfl⟩
    | false =>
      rcases List.mem_cons.mp h with e | h
      · cases e; simp at hx
      · exact lookup_mem_some h
theorem relabel_cases {env : Env} {x : Str} : ∀ {names : List (Str × NameKind)} {k : NameKind},
    (names.map fun (n, k) => if (k == NameKind.free && env.scope.kind == .function && env.kindOf n == some .cell) then (n, NameKind.cell) else (n, k)).lookup x = some k → names.lookup x = some k ∨ (k = .cell ∧ names.lookup x = some .free)
  | [], _, h => by simp at h
  | (n, j) :: r, k, h => by
    have ih := @relabel_cases env x r k
    rw [List.map_cons] at h
    rw [List.lookup_cons]
    dsimp only at h
    by_cases hc : (j == NameKind.free && env.scope.kind == .function && env.kindOf n == some .cell) = true
    · rw [if_pos hc, List.lookup_cons] at h
      cases hx : x == n with
      | true =>
        rw [hx] at h
        simp only [Bool.and_eq_true] at hc
        have : j = .free := by simpa using hc.1.1
        subst this
        cases h
        exact .inr ⟨rfl, rfl⟩
      | false => rw [hx] at h; exact ih h
    · rw [if_neg hc, List.lookup_cons] at h
      cases hx : x == n with
      | true => rw [hx] at h; exact .inl h
      | false => rw [hx] at h; exact ih h
theorem relabel_free {env : Env} {x : Str} : ∀ {names : List (Str × NameKind)}, names.lookup x = some .free →
    (names.map fun (n, k) => if (k == NameKind.free && env.scope.kind == .function && env.kindOf n == some .cell) then (n, NameKind.cell) else (n, k)).lookup x = some .cell ∨
    (names.map fun (n, k) => if (k == NameKind.free && env.scope.kind == .function && env.kindOf n == some .cell) then (n, NameKind.cell) else (n, k)).lookup x = some .free
  | [], h => by simp at h
  | (n, j) :: r, h => by
    have ih := @relabel_free env x r
    rw [List.lookup_cons] at h
    rw [List.map_cons]
    dsimp only
    by_cases hc : (j == NameKind.free && env.scope.kind == .function && env.kindOf n == some .cell) = true
    · rw [if_pos hc, List.lookup_cons]
      cases hx : x == n with
      | true => exact .inl rfl
      | false => rw [hx] at h; exact ih h
    · rw [if_neg hc, List.lookup_cons]
      cases hx : x == n with
      | true => rw [hx] at h; cases h; exact .inr rfl
      | false => rw [hx] at h; exact ih h

noncomputable def cxComp (X : Cx) (N' : List Str) (scope : Scope) (C : Addr) (s : Shared) (H : Hp) (fp : List Addr) : Cx where
  prog := X.prog
  w := X.w
  K := X.K
  mg := X.mg
  base := X.base
  A := X.A
  N := N'
  s₀ := s
  H₀ := H
  env := compEnvC scope (closeL X.env scope.names []) C X.env
  outer := X.stack
  stack := X.stack
  ex := fp
  fn := fun _ => false
  calm := X.calm
  pn := []
  xe := NoE
structure CompScope (sc : Scope) (N : List Str) (scope : Scope) (N' : List Str) (k : Nat) (idx : List Nat) : Prop where
  kind : scope.kind = .function
  nocell : ∀ x ∈ scope.names, x.2 ≠ .cell
  loc : ∀ x ∈ scope.names, x.2 = .local → scope.names.lookup x.1 = some .local
  fr : ∀ x ∈ scope.names, x.2 = .free → sc.names.lookup x.1 = some .cell ∨ sc.names.lookup x.1 = some .free
  nd : N'.Nodup
  free : ∀ x ∈ N'.drop k, scope.names.lookup x = some .free
  ix : (N'.drop k).map some = idx.map fun i => N[i]?
  len : N'.length = k + idx.length
noncomputable def startC (k : Nat) (idx : List Nat) (σ : St) : St := List.replicate k none ++ idx.map fun i => (σ[i]?).join

section
variable {X : Cx} {pins : List (Addr × Obj)} {σ : St} {H : Hp} {s : Shared} {scope : Scope} {N' : List Str} {k : Nat} {idx : List Nat} {sc : Scope} {N : List Str}
theorem comp_start (I : Inv X pins σ H s) (S : CompScope sc N scope N' k idx) (hsc : X.env.scope = sc) (hNN : X.N = N) {fp : List Addr} (hf : ∀ b ∈ fp, FpOk X pins H b) (hlt : ∀ b ∈ fp, b < s.heap.objs.size) {h' : Heap} {t' : Nat}
    (hn : h'.Ns s.heap.objs.size (fun _ => none)) (hk : ∀ b o, s.heap.get? b = some o → h'.get? b = some o) :
    Inv (cxComp X N' scope s.heap.objs.size s H fp) [] (startC k idx σ) H { s with heap := h', toks := t' } := by
  have hcell : ∀ x ∈ scope.names, x.2 = .free → ∃ c, X.env.cells.lookup x.1 = some c := fun x hx hfree => I.ok.has x.1 (by
    show X.env.scope.names.lookup x.1 = _ ∨ X.env.scope.names.lookup x.1 = _
    rw [hsc]; exact S.fr x hx hfree)
  have hcl : ∀ x c, (closeL X.env scope.names []).lookup x = some c → X.env.cells.lookup x = some c := fun x c e => closeL_mem hcell (fun p hp => by cases hp) (x, c) (PySem.mem_of_lookup e)
  have hok : (cxComp X N' scope s.heap.objs.size s H fp).Ok := {
    mod := I.ok.mod
    kind := S.kind
    glob := I.ok.glob
    blt := I.ok.blt
    above := Nat.le_refl _
    inj := fun x y c e1 e2 => I.ok.inj x y c (hcl x c e1) (hcl y c e2)
    has := fun x hx => by
      have hfree : scope.names.lookup x = some .free := by
        rcases hx with hx | hx
        · rcases relabel_cases (env := X.env) (names := scope.names) hx with h | ⟨_, h⟩
          · exact absurd rfl (S.nocell _ (PySem.mem_of_lookup h))
          · exact h
        · rcases relabel_cases (env := X.env) (names := scope.names) hx with h | ⟨h, _⟩
          · exact h
          · cases h
      obtain ⟨c, hc⟩ := closeL_has (env := X.env) (cs := []) (PySem.mem_of_lookup hfree)
      exact lookup_mem_some hc
    cab := fun x c h => by cases h
    hd := I.ok.hd
    frames := I.ok.frames
    stk := .inl rfl
    exf := fun b hb => ⟨Nat.ne_of_lt (hlt b hb), fun x c e => (hf b hb).2.2.2.2.1 x c (hcl x c e)⟩
    bs := I.bs
    bsz := Nat.le_trans I.ok.bsz I.sz
    noex := fun b o e hb => by
      rcases (hf b hb).2.2.2.1 with z | z
      · exact I.ok.noex b o e z
      · exact absurd (Nat.lt_of_lt_of_le (Heap.lt_size e) (Nat.le_trans I.ok.bsz z)) (Nat.lt_irrefl _)
    exfs := fun b hb hz => by
      rcases List.mem_cons.mp (I.stkSub b hz) with e | e
      · exact (hf b hb).2.1 e
      · exact (hf b hb).2.2.1 e
    funs := I.stack
    frf := I.stkFree }
  refine ⟨hok, rfl, I.bare, Un.kept hk, ⟨_, hn, fun i x v e1 e2 e3 => ?_⟩, fun x c e => ?_, I.hok.fresh (Nat.le_refl _), fun x c e => I.freeC x c (hcl x c e), (fun p hp => by cases hp), I.hok.kept hk, ?_⟩
  · -- a name with a value is one of the others
    have hi : k ≤ i := by
      rcases Nat.lt_or_ge i k with h | h
      · have e2 : (startC k idx σ)[i]? = some (some v) := e2
        unfold startC at e2
        rw [List.getElem?_append_left (by simpa using h), List.getElem?_replicate] at e2
        split at e2 <;> cases e2
      · exact h
    have e1' : (N'.drop k)[i - k]? = some x := by
      rw [List.getElem?_drop, show k + (i - k) = i by omega]; exact e1
    have hfree := S.free x (List.mem_of_getElem? e1')
    have e2' : (idx.map fun i => (σ[i]?).join)[i - k]? = some (some v) := by
      have e2 : (startC k idx σ)[i]? = some (some v) := e2
      unfold startC at e2
      rw [List.getElem?_append_right (by simpa using hi), List.length_replicate] at e2
      exact e2
    rw [List.getElem?_map] at e2'
    cases hj : idx[i - k]? with
    | none => rw [hj] at e2'; cases e2'
    | some j =>
      rw [hj] at e2'
      have e3' : (σ[j]?).join = some v := by simpa using e2'
      have eσ : σ[j]? = some (some v) := by
        cases q : σ[j]? with
        | none => rw [q] at e3'; cases e3'
        | some o => rw [q] at e3'; cases o with
          | none => cases e3'
          | some z => cases e3'; rfl
      have eN : X.N[j]? = some x := by
        rw [hNN]
        have := congrArg (fun l => l[i - k]?) S.ix
        simp only [List.getElem?_map, e1', hj, Option.map_some] at this
        exact (Option.some.inj this).symm
      have hvk := S.fr _ (PySem.mem_of_lookup hfree) rfl
      obtain ⟨m, hm, hl⟩ := I.loc
      obtain ⟨u, ru, lk⟩ := hl j x v eN eσ (by rw [hsc]; exact .inr hvk)
      refine ⟨u, ru, .inr ⟨relabel_free (env := X.env) hfree, ?_⟩⟩
      rcases lk with ⟨kl, _⟩ | ⟨_, c, ec, z⟩
      · have kl : X.env.scope.names.lookup x = some .local := kl
        rw [hsc] at kl
        rcases hvk with q | q <;> (rw [kl] at q; cases q)
      · obtain ⟨d, hd⟩ := closeL_has (env := X.env) (cs := []) (PySem.mem_of_lookup hfree)
        obtain ⟨d', hd'⟩ := lookup_mem_some hd
        have e := hcl x d' hd'
        rw [ec] at e
        cases e
        obtain ⟨o, ho, hod⟩ := z
        exact ⟨c, hd', o, hk c o ho, hod⟩
  · obtain ⟨v, o, ho, hod⟩ := I.cell x c (hcl x c e)
    exact ⟨v, o, hk c o ho, hod⟩
  · show (startC k idx σ).length = N'.length
    unfold startC
    rw [S.len, List.length_append, List.length_replicate, List.length_map]
end

noncomputable def PTs (X : Cx) (ifs : List Expr) (t : TT) : Prop :=
  ∀ (pins : List (Addr × Obj)) (s : Shared) (σ : St) (H : Hp) (Q : Bool → Hp → Prop), Inv X pins σ H s → t σ H Q →
    wpAny (model X.prog X.w) X.A (forIn ifs true fun c r => if r = true then do let ok ← isTrue c X.env (eval c X.env); pure (ForInStep.yield ok) else pure (ForInStep.yield r)) (TP X pins σ Q) X.xe s
noncomputable def tNoTest : TT := fun _ H Q => Q true H
theorem pts_nil {X : Cx} : PTs X [] tNoTest := fun pins s σ H Q I h => wpAny_tests_nil ⟨H, I, h⟩
noncomputable def cTurns (J : It) (g : TG) (tt : TT) (te : TE) (l : Addr) (σ0 : St) (H0 : Hp) (Q : Hp → Prop) : Prop :=
  ∃ W : Nat → Nat → St → Hp → Prop, (∃ m, W 0 m σ0 H0) ∧ ∀ i m σ H, W i m σ H →
    (J.stop i H ∧ Q H) ∨ (J.go i H ∧ ∀ x H', J.yld i H x H' → g x σ H' fun σ2 H2 => tt σ2 H2 fun c H3 =>
      if c = true then te σ2 H3 fun y H4 => ∃ xs, H4 l = some (.lst xs) ∧ xs.length < sizeLine ∧ ∃ m', m' < m ∧ W (i + 1) m' σ2 (upd H4 l (.lst (xs ++ [y])))
      else ∃ m', m' < m ∧ W (i + 1) m' σ2 H3)
noncomputable def tComp (wi : TI) (k : Nat) (idx : List Nat) (g : TG) (tt : TT) (te : TE) : TE := fun σ H Q => wi σ H fun J H1 => ∀ l, H1 l = none → cTurns J g tt te l (startC k idx σ) (upd H1 l (.lst [])) fun H2 => Q (.ref l) H2

section
variable {X : Cx} {tg iter elt : Expr} {ifs : List Expr} {scope sc : Scope} {N N' : List Str} {k : Nat} {idx : List Nat} {wi : TI} {g : TG} {tt : TT} {te : TE} {pos : Pos}
structure Free1 (X : Cx) (pins : List (Addr × Obj)) (H : Hp) (C : Addr) : Prop where
  loc : C ≠ X.env.locals
  cel : ∀ x c, X.env.cells.lookup x = some c → c ≠ C
  fr : H C = none
  new : X.s₀.heap.objs.size ≤ C
  pin : ∀ p ∈ X.pn ++ pins, p.1 ≠ C
theorem Inv.freed {X : Cx} {pins : List (Addr × Obj)} {σ : St} {H : Hp} {s : Shared} {C : Addr} {h' : Heap} (I : Inv X pins σ H s) (f : Free1 X pins H C) (hs : Heap.SameBut C s.heap h') : Inv X pins σ H { s with heap := h' } :=
  I.turned (t' := s.toks) (it := C) (fun b o hb e => (hs.2 b hb).trans e) f.fr f.loc (.inr f.new) f.cel f.pin
theorem comp_block {pins : List (Addr × Obj)} {s : Shared} {σ : St} {E : Value → Shared → Prop} {RR : Value → Addr → Result → Shared → Prop} {itv : Value} {Qe : Addr → Hp → Prop}
    (hc : X.calm = true) (S : CompScope sc N scope N' k idx) (hsc : X.env.scope = sc) (hNN : X.N = N)
    (hg : ∀ C s H fp, PG (cxComp X N' scope C s H fp) tg g) (ht : ∀ C s H fp, PTs (cxComp X N' scope C s H fp) ifs tt) (he : ∀ C s H fp, PE (cxComp X N' scope C s H fp) elt te)
    (hit : PIE X pins σ tg (fun J H1 => ∀ l, H1 l = none → cTurns J g tt te l (startC k idx σ) (upd H1 l (.lst [])) fun H2 => Qe l H2) itv s)
    (hRR : ∀ l H2 C s2, Inv X pins σ H2 s2 → (∃ m, s2.heap.Ns C m) → Free1 X pins H2 C → Qe l H2 → RR (.ref l) C (.ok .next) s2) :
    wpAny (model X.prog X.w) X.A (newList []) (fun acc s₃ => wpAny (model X.prog X.w) X.A (newFunctionEnv scope X.env.globals (closeL X.env scope.names []) [] X.env.qual none .none (some X.env)) (fun cenv s₄ =>
      codeAny (model X.prog X.w) X.A (.compStart (.ListComp elt [⟨tg, iter, ifs, 0⟩] scope pos) 0 itv acc { cenv with scope := relabel scope X.env }) (RR acc cenv.locals) s₄) E s₃) E s := by
  obtain ⟨it, fp, tn, J, H1, rfl, I1, T, st1, f1, q⟩ := hit
  refine wpAny_newObj_type ?_
  have hf0 : H1 s.heap.objs.size = none := I1.hok.fresh (Nat.le_refl _)
  have hflt : ∀ b ∈ fp, b < s.heap.objs.size := fun b hb => let ⟨_, e, _⟩ := T.obj _ _ st1 b hb; Heap.lt_size e
  generalize hl : s.heap.objs.size = l at *
  have I2 : Inv X pins σ (upd H1 l (.lst [])) { s with heap := s.heap.push { cls := .type "list", dict := none, data := .seq ([] : List Value).toArray } } :=
    I1.laid (t' := s.toks) (fun b u e => Heap.get?_push_of_some _ e) (Nat.le_of_eq hl) (show ObjOk _ _ _ _ l (.lst []) from ⟨Nat.zero_le _, [], 0, .nil, by rw [← hl]; exact Heap.get?_push_size _ rfl⟩)
  have st2 : tn 0 (s.heap.push { cls := .type "list", dict := none, data := .seq ([] : List Value).toArray }) := T.keep _ _ _ st1 fun b _ o e => Heap.get?_push_of_some _ e
  have f2 : ∀ b ∈ fp, FpOk X pins (upd H1 l (.lst [])) b := fun b hb => ⟨by rw [upd_ne (Nat.ne_of_lt (hflt b hb))]; exact (f1 b hb).1, (f1 b hb).2⟩
  have hsz2 : (s.heap.push { cls := .type "list", dict := none, data := .seq ([] : List Value).toArray }).objs.size = l + 1 := by rw [Heap.size_push, hl]
  have q2 := q l hf0
  generalize hs2 : ({ s with heap := s.heap.push { cls := .type "list", dict := none, data := .seq ([] : List Value).toArray } } : Shared) = s2 at I2 ⊢
  have st2 : tn 0 s2.heap := by rw [← hs2]; exact st2
  have hsz2 : s2.heap.objs.size = l + 1 := by rw [← hs2]; exact hsz2
  refine wpAny_newFunctionEnv S.nocell (by intro y hy; simp at hy) (fun h₁ hns₁ hsb₁ => ?_) S.kind
  have hk1 : ∀ b o, s2.heap.get? b = some o → h₁.get? b = some o := fun b o e => hsb₁.extBut b o (Nat.ne_of_lt (Heap.lt_size e)) (Heap.get?_push_of_some _ e)
  have hlt2 : ∀ b ∈ fp, b < s2.heap.objs.size := fun b hb => by rw [hsz2]; exact Nat.lt_succ_of_lt (hflt b hb)
  have I3 := comp_start (t' := s2.toks + ([] : List (Str × Value)).length) I2 S hsc hNN f2 hlt2 (by simpa using hns₁) hk1
  generalize hC : s2.heap.objs.size = C at *
  have st3 : tn 0 h₁ := T.keep _ _ _ st2 fun b _ o e => hk1 b o e
  obtain ⟨W, ⟨m0, w0⟩, turn⟩ := q2
  -- back to the frame around
  have back : ∀ {σ' : St} {H' : Hp} {s' : Shared}, Inv (cxComp X N' scope C s2 (upd H1 l (.lst [])) fp) [] σ' H' s' → Inv X pins σ H' s' := fun {σ' H' s'} I' =>
    I2.call' I'.os I'.base I'.hok I'.bare fun b hb => ⟨(f2 b hb).2.2.2.1, (f2 b hb).2.1, (f2 b hb).2.2.2.2.1, (f2 b hb).2.2.2.2.2⟩
  have loop : ∀ s₃ : Shared, s₃ = { s2 with heap := h₁, toks := s2.toks + ([] : List (Str × Value)).length } →
      codeAny (model X.prog X.w) X.A (.compLoop (.ListComp elt [⟨tg, iter, ifs, 0⟩] scope pos) 0 (.ref it) (.ref l) (compEnvC scope (closeL X.env scope.names []) C X.env)) (RR (.ref l) C) s₃ := by
    rintro s₃ rfl
    refine compLoop_go (fun n s' => ∃ i σ' H', Inv (cxComp X N' scope C s2 (upd H1 l (.lst [])) fp) [] σ' H' s' ∧ tn i s'.heap ∧ (∀ b ∈ fp, H' b = none) ∧ W i n σ' H') ?_ m0 ⟨0, _, _, I3, st3, fun b hb => (f2 b hb).1, w0⟩
    rintro n s4 ⟨i, σ4, H4, I4, st4, fr4, w4⟩
    have stat : ∀ {H' : Hp}, (∀ b ∈ fp, H' b = none) → ∀ b ∈ fp, FpOk (cxComp X N' scope C s2 (upd H1 l (.lst [])) fp) [] H' b := fun {H'} hn b hb =>
      ⟨hn b hb, (I4.ok.exf b hb).1, I4.ok.exfs b hb, .inl hb, (I4.ok.exf b hb).2, fun p hp => by cases hp⟩
    rcases turn i n σ4 H4 w4 with ⟨stop, qn⟩ | ⟨go, step⟩
    · refine thn (T.done (cxComp X N' scope C s2 (upd H1 l (.lst [])) fp) rfl rfl rfl hc i [] s4 σ4 H4 NoE I4 (stat fr4) st4 stop) fun r s5 ⟨hr, I5⟩ => ?_
      subst hr
      have IX := back I5
      have hCl : C ≠ X.env.locals := fun e => by
        have := I2.lt
        rw [hC, ← e] at this
        exact Nat.lt_irrefl _ this
      have hCc : ∀ x c, X.env.cells.lookup x = some c → c ≠ C := fun x c e z => by
        obtain ⟨v, o, ho, _⟩ := I2.cell x c e
        have := Heap.lt_size ho
        rw [hC, z] at this
        exact Nat.lt_irrefl _ this
      obtain ⟨m5, hm5, _⟩ := I5.loc
      refine hRR l H4 C s5 IX ⟨m5, hm5⟩ ⟨hCl, hCc, I5.free, by rw [← hC]; exact I2.sz, fun p hp z => ?_⟩ qn
      obtain ⟨e, _⟩ := I2.pin p hp
      have := Heap.lt_size e
      rw [hC, z] at this
      exact Nat.lt_irrefl _ this
    · refine thn (T.item (cxComp X N' scope C s2 (upd H1 l (.lst [])) fp) rfl rfl rfl hc i [] s4 σ4 H4 NoE I4 (stat fr4) st4 go) fun r s5 ⟨u, hr, h5⟩ => ?_
      subst hr
      refine thn h5 fun _ s6 ⟨x, H6, I6, r6, y6, st6, fr6⟩ => ?_
      have I6' := I6.pinned (stat fr6) (T.obj _ _ st6)
      have keepT : ∀ {σ7 : St} {H7 : Hp} {s7 : Shared}, Inv (cxComp X N' scope C s2 (upd H1 l (.lst [])) fp) ([] ++ pinsAt fp s6.heap) σ7 H7 s7 → tn (i + 1) s7.heap ∧ ∀ b ∈ fp, H7 b = none := fun {σ7 H7 s7} I7 =>
        ⟨T.keep _ _ _ st6 fun b hb o e => (I7.pin (b, o) (List.mem_append_right _ (List.mem_append_right _ (mem_pinsAt hb e)))).1, fun b hb => by
          obtain ⟨o, e, d⟩ := T.obj _ _ st6 b hb
          exact (I7.pin (b, o) (List.mem_append_right _ (List.mem_append_right _ (mem_pinsAt hb e)))).2.1⟩
      refine thn (hg C s2 (upd H1 l (.lst [])) fp _ s6 σ4 H6 x u _ I6' r6 (step x H6 y6)) fun _ s7 ⟨σ7, H7, I7, q7⟩ => ?_
      refine thn (ht C s2 (upd H1 l (.lst [])) fp _ s7 σ7 H7 _ I7 q7) fun ok s8 ⟨H8, I8, q8⟩ => ?_
      cases ok with
      | false =>
        rw [if_neg (by decide)] at q8 ⊢
        obtain ⟨m', hm, w8⟩ := q8
        have kt := keepT I8
        exact ⟨m', hm, i + 1, σ7, H8, I8.unpinned, kt.1, kt.2, w8⟩
      | true =>
        rw [if_pos rfl] at q8 ⊢
        refine thn (he C s2 (upd H1 l (.lst [])) fp _ s8 σ7 H8 _ I8 q8) fun v s9 ⟨y, H9, I9, r9, xs, e9, z9, m', hm, w9⟩ => ?_
        refine thn (mt_append _ s9 σ7 H9 (.ref l) [y] (.ref l) [v] (fun z H10 => z = .non ∧ H10 = upd H9 l (.lst (xs ++ [y]))) I9 rfl (.cons r9 .nil) ⟨l, xs, y, rfl, rfl, e9, z9, rfl, rfl⟩) fun _ s10 ⟨z, H10, I10, _, _, e10⟩ => ?_
        subst e10
        have kt := keepT I10
        exact ⟨m', hm, i + 1, σ7, _, I10.unpinned, kt.1, kt.2, w9⟩
  have e2 : (newEnv scope C X.env.globals (closeL X.env scope.names []) X.env.qual none .none (some X.env) builtinsNs).locals = C := rfl
  show codeAny _ _ (.compStart _ 0 (.ref it) (.ref l) (compEnvC scope (closeL X.env scope.names []) C X.env)) (RR (.ref l) C) _
  exact codeAny_compStart_list (loop _ rfl) (T.self _ 0 _ _ _ st3 (loop _ rfl))

theorem pe_comp (hc : X.calm = true) (S : CompScope sc N scope N' k idx) (hsc : X.env.scope = sc) (hNN : X.N = N) (hi : PI X tg iter wi)
    (hg : ∀ C s H fp, PG (cxComp X N' scope C s H fp) tg g) (ht : ∀ C s H fp, PTs (cxComp X N' scope C s H fp) ifs tt) (he : ∀ C s H fp, PE (cxComp X N' scope C s H fp) elt te)
    (hs : ∀ x, foldedSetIterable iter X.env x = pure x := by intro _; rfl) : PE X (.ListComp elt [⟨tg, iter, ifs, 0⟩] scope pos) (tComp wi k idx g tt te) := by
  intro pins s σ H Q I h
  rw [eval_ListComp]
  have hclos : closureFor scope X.env = pure (closeL X.env scope.names []) := closureFor_eq fun x hx hfree => I.ok.has x.1 (by
    show X.env.scope.names.lookup x.1 = _ ∨ X.env.scope.names.lookup x.1 = _
    rw [hsc]; exact S.fr x hx hfree)
  refine wpAny_comprehension_free (use := none) rfl hs hclos S.kind S.loc (thn (hi pins s σ H _ I h) fun v s1 h1 => thn h1 fun itv s2 h2 => ?_)
  refine comp_block (RR := fun acc C => compPost (model X.prog X.w) X.A X.xe none (EP X pins σ Q) acc C) (Qe := fun l H2 => Q (.ref l) H2) hc S hsc hNN hg ht he h2 ?_
  intro l H2 C s2 I2 hm f q
  obtain ⟨m, hm⟩ := hm
  exact ⟨m, hm, fun h' hs' => ⟨.ref l, H2, I2.freed f hs', rfl, q⟩⟩

noncomputable def tSetComp (i : Nat) (wi : TI) (k : Nat) (idx : List Nat) (g : TG) (tt : TT) (te : TE) : TS := fun D σ H => wi σ H fun J H1 => ∀ l, H1 l = none → cTurns J g tt te l (startC k idx σ) (upd H1 l (.lst [])) fun H2 => D.nx (σ.set i (some (.ref l))) H2
theorem ps_setcomp {i : Nat} {y : Str} {py spos : Pos} (hc : X.calm = true) (hN : X.N.Nodup) (hiN : X.N[i]? = some y) (hy : X.env.scope.names.lookup y = some .local) (S : CompScope sc N scope N' k idx) (hsc : X.env.scope = sc) (hNN : X.N = N) (hi : PI X tg iter wi)
    (hg : ∀ C s H fp, PG (cxComp X N' scope C s H fp) tg g) (ht : ∀ C s H fp, PTs (cxComp X N' scope C s H fp) ifs tt) (he : ∀ C s H fp, PE (cxComp X N' scope C s H fp) elt te)
    (hsw : swapsWith (.ListComp elt [⟨tg, iter, ifs, 0⟩] scope pos) (some (.Name y py)) spos.line X.env = pure true := by rfl)
    (hs : ∀ x, foldedSetIterable iter X.env x = pure x := by intro _; rfl) : PS X (.Assign [.Name y py] (.ListComp elt [⟨tg, iter, ifs, 0⟩] scope pos) spos) (tSetComp i wi k idx g tt te) := by
  intro pins s σ H D I h
  rw [exec_Assign_Name_used _ _ _ _ hsw]
  refine wpAny_bind (wpAny_standAt (wpAny_bind ?_))
  show wpAny _ X.A (do let _ ← comprehension (.ListComp elt [⟨tg, iter, ifs, 0⟩] scope pos) scope X.env _ (newList []) false (eval iter X.env) (some (assign (.Name y py) X.env))) _ _ s
  have hclos : closureFor scope X.env = pure (closeL X.env scope.names []) := closureFor_eq fun x hx hfree => I.ok.has x.1 (by
    show X.env.scope.names.lookup x.1 = _ ∨ X.env.scope.names.lookup x.1 = _
    rw [hsc]; exact S.fr x hx hfree)
  refine wpAny_bind (wpAny_mono (wpAny_comprehension_free (use := some (assign (.Name y py) X.env)) (Q := fun _ s' => SP X pins D .next s') rfl hs hclos S.kind S.loc (thn (hi pins s σ H _ I h) fun v s1 h1 => thn h1 fun itv s2 h2 => ?_))
    (fun _ s' hq => wpAny_pure (wpAny_pure hq)) fun _ _ e => e)
  refine comp_block (RR := fun acc C => compPost (model X.prog X.w) X.A X.xe (some (assign (.Name y py) X.env)) (fun _ s' => SP X pins D .next s') acc C) (Qe := fun l H2 => D.nx (σ.set i (some (.ref l))) H2) hc S hsc hNN hg ht he h2 ?_
  intro l H2 C s2 I2 hm f q
  obtain ⟨m, hm⟩ := hm
  show wpAny _ X.A (assign (.Name y py) X.env (.ref l)) _ _ _
  refine wpAny_assign_Name (store_ok2 (v := .ref l) I2 hN hiN (.inl hy) rfl (fun s' I' hch => ?_) (.inr hy))
  obtain ⟨a, hsb, ha⟩ := hch
  have haC : C ≠ a := fun z => by
    rcases ha with e | e
    · exact f.loc (z.trans e)
    · exact f.cel y a e z.symm
  exact ⟨m, hm.sameBut hsb haC, fun h' hs' => ⟨_, H2, I'.freed f hs', q⟩⟩
end
end L2

namespace L2
open PySem PySem.Spec PyProof.Rows

noncomputable def keyD : Key → PyData
  | .inl i => .int i
  | .inr s => .str s
noncomputable def epO (o : Obj) : Nat := match o.data with
  | .dict _ ep => ep
  | _ => 0
noncomputable def fzK (ep : Nat) (ks : List Key) (ds : List PyData) : List (PyData × PyData) := (.none, .int (ep : Nat)) :: List.zipWith (fun k d => (keyD k, d)) ks ds
noncomputable def objK (C : Addr) (ns : List Str) (ds : List PyData) : List (PyData × PyData) := (.int (C : Nat), .none) :: List.zipWith (fun n d => (PyData.str n, d)) ns ds
mutual
inductive Rep (ex : List Addr) (H : Hp) : PyData → V → Prop
  | none : Rep ex H .none .non
  | bool (b : Bool) : Rep ex H (.bool b) (.bl b)
  | int (i : Int) : Rep ex H (.int i) (.int i)
  | str (x : Str) : Rep ex H (.str x) (.str x)
  | tuple {a : Addr} {xs : List V} {ds : List PyData} (e : H a = some (.tup xs)) (n : a ∉ ex) (z : xs.length ≤ sizeLine) (r : Reps ex H ds xs) : Rep ex H (.tuple ds) (.ref a)
  | list {a : Addr} {xs : List V} {ds : List PyData} (e : H a = some (.lst xs)) (n : a ∉ ex) (z : xs.length ≤ sizeLine) (r : Reps ex H ds xs) : Rep ex H (.list ds) (.ref a)
  | obj {a C dx : Addr} {fs : List (Str × V)} {ds : List PyData} {kvs : List (PyData × PyData)} (e : H a = some (.ins C dx fs)) (n : a ∉ ex) (k : kvs = objK C (fs.map (·.1)) ds) (r : Reps ex H ds (fs.map (·.2))) : Rep ex H (.dict kvs) (.ref a)
  | dctf {a : Addr} {ob : Obj} {kws : List (Key × V)} {ds : List PyData} {kvs : List (PyData × PyData)} (e : H a = some (.frz ob (.dK kws))) (n : a ∉ ex) (k : kvs = fzK (epO ob) (kws.map (·.1)) ds) (r : Reps ex H ds (kws.map (·.2))) : Rep ex H (.dict kvs) (.ref a)
inductive Reps (ex : List Addr) (H : Hp) : List PyData → List V → Prop
  | nil : Reps ex H [] []
  | cons {d : PyData} {v : V} {ds : List PyData} {vs : List V} : Rep ex H d v → Reps ex H ds vs → Reps ex H (d :: ds) (v :: vs)
end
noncomputable def Kp (ex : List Addr) (H H' : Hp) : Prop := ∀ b o, H b = some o → b ∉ ex → H' b = some o
theorem Kp.refl {ex : List Addr} {H : Hp} : Kp ex H H := fun _ _ e _ => e
theorem Kp.trans {ex : List Addr} {H H1 H2 : Hp} (a : Kp ex H H1) (b : Kp ex H1 H2) : Kp ex H H2 := fun c o e n => b c o (a c o e n) n
theorem Kp.of {ex : List Addr} {H H' : Hp} (a : Kp [] H H') : Kp ex H H' := fun c o e _ => a c o e (by simp)
theorem Kp.mono {ex ex' : List Addr} {H H' : Hp} (a : Kp ex H H') (h : ∀ b ∈ ex, b ∈ ex') : Kp ex' H H' := fun c o e n => a c o e fun z => n (h c z)
theorem Kp.new {ex : List Addr} {H : Hp} {p : Addr} (h : H p = none) (o : HO) : Kp ex H (upd H p o) := fun b u q _ => by rw [upd_ne (ne_of_none q h)]; exact q
theorem Kp.at {ex : List Addr} {H : Hp} {p : Addr} (h : p ∈ ex) (o : HO) : Kp ex H (upd H p o) := fun b u q n => by rw [upd_ne (fun (z : b = p) => n (by rw [z]; exact h))]; exact q
mutual
theorem Rep.keep {ex : List Addr} {H H' : Hp} (k : Kp ex H H') : ∀ {d : PyData} {v : V}, Rep ex H d v → Rep ex H' d v
  | _, _, .none => .none
  | _, _, .bool b => .bool b
  | _, _, .int i => .int i
  | _, _, .str x => .str x
  | _, _, .tuple e n z r => .tuple (k _ _ e n) n z (Reps.keep k r)
  | _, _, .list e n z r => .list (k _ _ e n) n z (Reps.keep k r)
  | _, _, .obj e n q r => .obj (k _ _ e n) n q (Reps.keep k r)
  | _, _, .dctf e n q r => .dctf (k _ _ e n) n q (Reps.keep k r)
theorem Reps.keep {ex : List Addr} {H H' : Hp} (k : Kp ex H H') : ∀ {ds : List PyData} {vs : List V}, Reps ex H ds vs → Reps ex H' ds vs
  | _, _, .nil => .nil
  | _, _, .cons r t => .cons (Rep.keep k r) (Reps.keep k t)
end
theorem Reps.length {ex : List Addr} {H : Hp} : ∀ {ds : List PyData} {vs : List V}, Reps ex H ds vs → ds.length = vs.length
  | _, _, .nil => rfl
  | _, _, .cons _ t => by simp [Reps.length t]
theorem Reps.get {ex : List Addr} {H : Hp} : ∀ {ds : List PyData} {vs : List V} {i : Nat} {d : PyData}, Reps ex H ds vs → ds[i]? = some d → ∃ v, vs[i]? = some v ∧ Rep ex H d v
  | _, _, _, _, .nil, e => by simp at e
  | _, _, 0, _, .cons r _, e => by simp at e; subst e; exact ⟨_, rfl, r⟩
  | _, _, i + 1, d, .cons _ t, e => by
    obtain ⟨u, h1, h2⟩ := Reps.get (i := i) (d := d) t (by simpa using e)
    exact ⟨u, by simpa using h1, h2⟩
theorem Reps.getV {ex : List Addr} {H : Hp} : ∀ {ds : List PyData} {vs : List V} {i : Nat} {v : V}, Reps ex H ds vs → vs[i]? = some v → ∃ d, ds[i]? = some d ∧ Rep ex H d v
  | _, _, _, _, .nil, e => by simp at e
  | _, _, 0, _, .cons r _, e => by simp at e; subst e; exact ⟨_, rfl, r⟩
  | _, _, i + 1, v, .cons _ t, e => by
    obtain ⟨u, h1, h2⟩ := Reps.getV (i := i) (v := v) t (by simpa using e)
    exact ⟨u, by simpa using h1, h2⟩
theorem Reps.append {ex : List Addr} {H : Hp} : ∀ {ds es : List PyData} {vs ws : List V}, Reps ex H ds vs → Reps ex H es ws → Reps ex H (ds ++ es) (vs ++ ws)
  | _, _, _, _, .nil, s => s
  | _, _, _, _, .cons r t, s => .cons r (Reps.append t s)
theorem Reps.take {ex : List Addr} {H : Hp} : ∀ {ds : List PyData} {vs : List V} (n : Nat), Reps ex H ds vs → Reps ex H (ds.take n) (vs.take n)
  | _, _, 0, _ => .nil
  | _, _, _ + 1, .nil => .nil
  | _, _, n + 1, .cons r t => .cons r (Reps.take n t)
theorem Reps.drop {ex : List Addr} {H : Hp} : ∀ {ds : List PyData} {vs : List V} (n : Nat), Reps ex H ds vs → Reps ex H (ds.drop n) (vs.drop n)
  | _, _, 0, r => r
  | _, _, _ + 1, .nil => .nil
  | _, _, n + 1, .cons _ t => Reps.drop n t
theorem Reps.ints {ex : List Addr} {H : Hp} : ∀ ns : List Int, Reps ex H (ns.map PyData.int) (ns.map V.int)
  | [] => .nil
  | n :: r => .cons (.int n) (Reps.ints r)
mutual
noncomputable def noDict : PyData → Bool
  | .none | .bool _ | .int _ | .str _ => true
  | .list xs | .tuple xs => noDictAll xs
  | .dict _ => false
noncomputable def noDictAll : List PyData → Bool
  | [] => true
  | x :: xs => noDict x && noDictAll xs
end
theorem lay_cons {d : PyData} {ds : List PyData} (h : PyData.canLayAll0 (d :: ds) = true) : d.canLay0 = true ∧ PyData.canLayAll0 ds = true := by rw [PyData.canLayAll0, Bool.and_eq_true] at h; exact h
mutual
theorem Rep.reads {ex : List Addr} {P : Program} {w : World} {H : Hp} {h : Heap} (ok : HOk P w H h) : ∀ {d : PyData} {v : V} {u : Value}, d.canLay0 = true → Rep ex H d v → RelV v u → ∃ as, Reads h u d as
  | _, _, _, _, .none, r => by cases (show _ = Value.none from r); exact ⟨_, .none⟩
  | _, _, _, _, .bool b, r => by cases (show _ = Value.bool b from r); exact ⟨_, .bool b⟩
  | _, _, _, _, .int i, r => by obtain ⟨t, rfl⟩ := (show ∃ t, _ = Value.int i t from r); exact ⟨_, .int i t⟩
  | _, _, _, _, .str x, r => by obtain ⟨t, rfl⟩ := (show ∃ t, _ = Value.str x t from r); exact ⟨_, .str x t⟩
  | _, _, _, hc, .tuple (a := a) (xs := xs) e n _ rs, r => by
    cases (show _ = Value.ref a from r)
    obtain ⟨z, its, rv, o, e1, e2, n', e3⟩ := (show ObjOk P w H h a (.tup xs) from ok a _ e)
    obtain ⟨as, ra⟩ := Reps.reads ok (by rw [PyData.canLay0] at hc; exact hc) rs rv
    exact ⟨as, .tuple e1 e2 e3 (by simpa using ra)⟩
  | _, _, _, hc, .list (a := a) (xs := xs) e n _ rs, r => by
    cases (show _ = Value.ref a from r)
    obtain ⟨z, its, n', rv, e1⟩ := (show ObjOk P w H h a (.lst xs) from ok a _ e)
    obtain ⟨as, ra⟩ := Reps.reads ok (by rw [PyData.canLay0] at hc; exact hc) rs rv
    exact ⟨_, .list e1 rfl rfl (by simpa using ra)⟩
  | _, _, _, hc, .obj _ _ _ _, r => by rw [PyData.canLay0] at hc; cases hc
  | _, _, _, hc, .dctf _ _ _ _, r => by rw [PyData.canLay0] at hc; cases hc
theorem Reps.reads {ex : List Addr} {P : Program} {w : World} {H : Hp} {h : Heap} (ok : HOk P w H h) : ∀ {ds : List PyData} {vs : List V} {us : List Value}, PyData.canLayAll0 ds = true → Reps ex H ds vs → Vals vs us → ∃ as, ReadsAll h us ds as
  | _, _, _, _, .nil, r => by cases r; exact ⟨_, .nil⟩
  | _, _, _, hc, .cons q t, r => by
    cases r with
    | cons r1 r2 =>
      obtain ⟨as, h1⟩ := Rep.reads ok (lay_cons hc).1 q r1
      obtain ⟨bs, h2⟩ := Reps.reads ok (lay_cons hc).2 t r2
      exact ⟨_, .cons h1 h2⟩
end

section
variable {X : Cx}
noncomputable def rNeD : R2 := fun x y H Q => ∃ ex da db, Rep ex H da x ∧ Rep ex H db y ∧ da.canLay0 = true ∧ db.canLay0 = true ∧ min da.depth db.depth ≤ 50 ∧ Q (.bl (!PyData.eqv da db)) H
theorem call_all : CallR X (.builtin "all") (fun xs H Q => X.calm = true ∧ ∃ (p : Addr) (bs : List Bool), xs = [.ref p] ∧ SqL X.K H p (bs.map V.bl) ∧ Q (.bl (bs.all id)) H) := by
  intro pins s σ H xs us Q I r h
  obtain ⟨hc, p, bs, rfl, hq, q⟩ := h
  obtain ⟨u, rfl, ru⟩ := vals1 r
  cases ru
  obtain ⟨its, rv, pl, hz⟩ := I.list hq
  have hl := pl.isList
  have hlt : p < s.heap.objs.size := by obtain ⟨_, e, _⟩ := hl; exact Heap.lt_size e
  refine call_all_walk (wpAny_pyIter_list hl ?_)
  refine ⟨_, _, _, _, _, _, fun i => bs.getD i true, rfl, Walks.list (A := X.A.in1) (I.ok.hd hc) _ p (Nat.ne_of_lt hlt) its.toArray, ⟨⟨_, Heap.get?_push_size _ rfl, rfl, rfl⟩, hl.push _⟩, ?_, fun h' tk hk => ?_⟩
  · intro i v s' Q' E' hP hQ
    have hP : its[i]? = some v := by simpa using hP
    have hi : i < its.length := (List.getElem?_eq_some_iff.mp hP).1
    have hlen := rv.length
    have hb : (bs.map V.bl)[i]? = some (V.bl (bs.getD i true)) := by
      rw [List.length_map] at hlen
      rw [List.getElem?_map, List.getElem?_eq_getElem (by omega), List.getD_eq_getElem?_getD, List.getElem?_eq_getElem (by omega)]
      rfl
    obtain ⟨u, hu, ru⟩ := rv.get hb
    rw [hP] at hu
    cases hu
    cases (show v = Value.bool _ from ru)
    exact wpAny_truthy_bool hQ
  · have e : ((List.range its.toArray.size).all fun i => bs.getD i true) = bs.all id := by
      have hlen := rv.length
      rw [List.length_map] at hlen
      rw [List.size_toArray, ← hlen, Bool.eq_iff_iff]
      simp only [List.all_eq_true, List.mem_range]
      constructor
      · intro h b hb
        obtain ⟨i, hi, rfl⟩ := List.mem_iff_getElem.mp hb
        have := h i hi
        rw [List.getD_eq_getElem?_getD, List.getElem?_eq_getElem hi] at this
        exact this
      · intro h i hi
        rw [List.getD_eq_getElem?_getD, List.getElem?_eq_getElem hi]
        exact h _ (List.getElem_mem hi)
    rw [e]
    exact ⟨.bl (bs.all id), H, I.kept (t' := tk) (old_kept hk), rfl, q⟩
theorem call_isinst : CallR X (.builtin "isinstance") (fun xs H Q => ∃ x T t b, xs = [x, .ty T] ∧ TyOf X.K H x t ∧ PySem.W.kitOne X.K t (.type T) = some b ∧ Q (.bl b) H) := by
  intro pins s σ H xs us Q I r h
  obtain ⟨x, T, t, b, rfl, ty, e, q⟩ := h
  obtain ⟨u, w', rfl, ru, rw'⟩ := vals2 r
  cases (show w' = Value.type T from rw')
  exact isinst_ok I ru ty e fun tk => ⟨.bl b, H, I.tok tk, rfl, q⟩
noncomputable def tyName : PyData → String
  | .none => "NoneType"
  | .bool _ => "bool"
  | .int _ => "int"
  | .str _ => "str"
  | .list _ => "list"
  | .tuple _ => "tuple"
  | .dict _ => "dict"
noncomputable def noD : PyData → Bool
  | .dict _ => false
  | _ => true
theorem Rep.tyOf {ex : List Addr} {H : Hp} {K : PySem.W.Frag} {d : PyData} {v : V} (hn : noD d = true) (r : Rep ex H d v) : TyOf K H v (.type (tyName d)) := by
  cases r with
  | none => exact .non
  | bool b => exact .bl b
  | int i => exact .int i
  | str x => exact .str x
  | tuple e n z r => exact .tup e
  | list e n z r => exact .lst e
  | obj => cases hn
  | dctf => cases hn
noncomputable def CDivB (i j : Int) : Prop := 0 < j ∧ j.natAbs.log2 < 9000
theorem op_fdivB : OpR X (binaryOp .FloorDiv) (rI CDivB fun i j => .int (i / j)) := opI fun i j _ _ _ _ _ hc q => by
  have h1 : (0 : Int) < j := hc.1
  exact floordiv_int (by omega) (by rw [Int.fdiv_eq_ediv_of_nonneg i (by omega)]; exact q) (.inl (PyProof.noPylong_of_log2 hc.2))
end
theorem cdivB_of {i j : Int} (h0 : 0 < j) (h1 : j < 2 ^ 9000) : CDivB i j := by
  refine ⟨h0, ?_⟩
  have hn : j.natAbs ≠ 0 := by omega
  rw [Nat.log2_lt hn]
  have : (j.natAbs : Int) = j := Int.natAbs_of_nonneg (by omega)
  have h2 : ((j.natAbs : Nat) : Int) < ((2 ^ 9000 : Nat) : Int) := by rw [this]; exact_mod_cast h1
  exact_mod_cast h2
end L2

namespace L2
open PySem PySem.Spec PyProof.Rows

noncomputable def Cal (P : Program) (w : World) (K : PySem.W.Frag) (mg : Str → Option Value) (base : Heap) (name : Str) (k : Nat) (ps : List Str) (sp : Sp) : Prop :=
  ∃ f fd, mg name = some (.ref f) ∧ PySem.W.keepIn K (.ref f) = true ∧ Binds K fd ps [] ∧ FnOk P w K mg base CX0 k f fd ps sp
noncomputable def Def (K : PySem.W.Frag) (mg : Str → Option Value) (name : Str) (st : Stmt) (ps : List Str) : Prop :=
  ∃ f fd, mg name = some (.ref f) ∧ Fun K name name st f fd ∧ Binds K fd ps []
theorem Def.cal {P : Program} {w : World} {K : PySem.W.Frag} {mg : Str → Option Value} {base : Heap} {name : Str} {st : Stmt} {ps : List Str} {k : Nat} {sp : Sp} (d : Def K mg name st ps)
    (h : ∀ f fd, Fun K name name st f fd → FnOk P w K mg base CX0 k f fd ps sp) : Cal P w K mg base name k ps sp := by
  obtain ⟨f, fd, hm, F, b⟩ := d
  exact ⟨f, fd, hm, F.kp, b, h f fd F⟩
theorem Cal.imp {P : Program} {w : World} {K : PySem.W.Frag} {mg : Str → Option Value} {base : Heap} {name : Str} {k : Nat} {ps : List Str} {sp sp' : Sp} (c : Cal P w K mg base name k ps sp) (h : ∀ vs H Q E, sp' vs H Q E → sp vs H Q E) : Cal P w K mg base name k ps sp' := by
  obtain ⟨f, fd, hm, hk, b, F⟩ := c
  exact ⟨f, fd, hm, hk, b, F.imp h⟩
section
variable {X : Cx} {x : Str} {e : Expr} {es : List Expr} {p pos : Pos} {t : TA} {k : Nat} {ps : List Str} {sp : Sp}
theorem pe_c (c : Cal X.prog X.w X.K X.mg X.base x k ps sp) (hr : Room k X.A) (hg : Gl X x) (ha : PA X (e :: es) t) (hdb : (x == ("__debug__" : Str)) = false := by decide)
    (he : starEach (e :: es) X.env = (false, eval e X.env) :: starEach es X.env := by rfl) (hpl : (backTo pos (starEach es X.env)).any (·.1) = false := by rfl) :
    PE X (.Call (.Name x p) (e :: es) [] pos) (tCall sp [] E0 t) := by
  obtain ⟨f, fd, hm, hk, b, F⟩ := c
  exact pe_call F hr hg hm hk b .nil pass0 ha hdb he hpl
noncomputable def GInt (mg : Str → Option Value) (x : Str) (i : Int) : Prop := ∃ t, mg x = some (.int i t)
theorem pe_gint {i : Int} (h : GInt X.mg x i) (hg : Gl X x) (hd : (x == ("__debug__" : Str)) = false := by decide) : PE X (.Name x pos) (tC (.int i)) := by
  obtain ⟨t, h⟩ := h
  exact pe_glob hg h ⟨t, rfl⟩ hd
end

theorem noTest {σ : St} {H : Hp} {P : Bool → Hp → Prop} (h : P true H) : tNoTest σ H P := h
noncomputable def CPure (H1 : Hp) (fe : Nat → V) (i : Nat) (ys : List V) (H : Hp) : Prop := Kp [] H1 H ∧ ys = (List.range i).map fe
end L2

namespace L2
open PySem PySem.Spec PyProof.Rows
section
variable {X : Cx}
theorem op_neD (hu : X.A.units + 64 < cLine) : OpR X (compareOp .NotEq) rNeD := by
  intro pins s σ H x y v u Q I rx ry h
  obtain ⟨ex, da, db, r1, r2, c1, c2, hd, q⟩ := h
  obtain ⟨as, h1⟩ := Rep.reads I.hok c1 r1 rx
  obtain ⟨bs, h2⟩ := Rep.reads I.hok c2 r2 ry
  exact SeqAt.compareNe_reads h1 h2 c1 c2 (by omega) ⟨.bl (!PyData.eqv da db), H, I, rfl, q⟩
end
section
variable {X : Cx}
end
end L2
namespace L2
open PySem PySem.Spec PyProof.Rows
noncomputable def instD (d : PyData) (T : String) : Bool := tyName d == T || (tyName d == "bool" && T == "int")
theorem kit_D (K : PySem.W.Frag) (d : PyData) (T : String) (hT : T = "int" ∨ T = "bool" ∨ T = "str" ∨ T = "tuple" ∨ T = "list") : PySem.W.kitOne K (.type (tyName d)) (.type T) = some (instD d T) := by
  rcases hT with rfl | rfl | rfl | rfl | rfl <;> cases d <;> first | rfl | kernel_rfl
theorem call_isD {X : Cx} : CallR X (.builtin "isinstance") (fun xs H Q => ∃ ex d x T, xs = [x, .ty T] ∧ Rep ex H d x ∧ noD d = true ∧ (T = "int" ∨ T = "bool" ∨ T = "str" ∨ T = "tuple" ∨ T = "list") ∧ Q (.bl (instD d T)) H) := by
  intro pins s σ H xs us Q I r h
  obtain ⟨ex, d, x, T, rfl, rd, hn, hT, q⟩ := h
  exact call_isinst pins s σ H _ us Q I r ⟨x, T, _, _, rfl, Rep.tyOf hn rd, kit_D _ _ _ hT, q⟩
theorem isT_int : ("int" : String) = "int" ∨ ("int" : String) = "bool" ∨ ("int" : String) = "str" ∨ ("int" : String) = "tuple" ∨ ("int" : String) = "list" := .inl rfl
theorem isT_bool : ("bool" : String) = "int" ∨ ("bool" : String) = "bool" ∨ ("bool" : String) = "str" ∨ ("bool" : String) = "tuple" ∨ ("bool" : String) = "list" := .inr (.inl rfl)
theorem isT_str : ("str" : String) = "int" ∨ ("str" : String) = "bool" ∨ ("str" : String) = "str" ∨ ("str" : String) = "tuple" ∨ ("str" : String) = "list" := .inr (.inr (.inl rfl))
theorem isT_tuple : ("tuple" : String) = "int" ∨ ("tuple" : String) = "bool" ∨ ("tuple" : String) = "str" ∨ ("tuple" : String) = "tuple" ∨ ("tuple" : String) = "list" := .inr (.inr (.inr (.inl rfl)))
theorem isT_list : ("list" : String) = "int" ∨ ("list" : String) = "bool" ∨ ("list" : String) = "str" ∨ ("list" : String) = "tuple" ∨ ("list" : String) = "list" := .inr (.inr (.inr (.inr rfl)))
theorem xor_bound {x y : Int} (hx : 0 ≤ x) (hx2 : x < 2 ^ 64) (hy : 0 ≤ y) (hy2 : y < 2 ^ 64) : 0 ≤ Builtin.bitXor x y ∧ Builtin.bitXor x y < 2 ^ 64 := by
  have e1 : Builtin.bitAnd x y = ((x.toNat &&& y.toNat : Nat) : Int) := by
    show Spec.bitAnd x y = _
    unfold Spec.bitAnd
    rw [decide_eq_true hx, decide_eq_true hy]
  have e2 : Builtin.bitOr x y = ((x.toNat ||| y.toNat : Nat) : Int) := by
    show Spec.bitOr x y = _
    unfold Spec.bitOr Spec.bitAnd Spec.bitNot
    rw [decide_eq_false (show ¬ 0 ≤ -x - 1 by omega), decide_eq_false (show ¬ 0 ≤ -y - 1 by omega)]
    simp only
    rw [show (-(-x - 1) - 1) = x by omega, show (-(-y - 1) - 1) = y by omega]
    omega
  have e : Builtin.bitXor x y = ((x.toNat ||| y.toNat : Nat) : Int) - ((x.toNat &&& y.toNat : Nat) : Int) := by
    show Builtin.bitOr x y - Builtin.bitAnd x y = _
    rw [e1, e2]
  have h1 : x.toNat ||| y.toNat < 2 ^ 64 := Nat.or_lt_two_pow (by omega) (by omega)
  have h2 : x.toNat &&& y.toNat ≤ x.toNat := Nat.and_le_left
  have h3 : x.toNat ≤ x.toNat ||| y.toNat := Nat.left_le_or
  rw [e]
  omega
end L2

namespace My
open PySem PySem.Spec PyProof.Rows L2
noncomputable def wholeD : PyData → Bool
  | .int _ => true
  | _ => false
noncomputable def betwD (d : PyData) (lo hi : Int) : Bool := match d with
  | .int i => decide (lo ≤ i) && decide (i ≤ hi)
  | _ => false
noncomputable def tupD (d : PyData) (n : Int) : Bool := match d with
  | .tuple xs => decide ((xs.length : Int) = n)
  | _ => false
noncomputable def gainsD (d : PyData) (n : Int) : Bool := match d with
  | .tuple xs => decide ((xs.length : Int) = n) && xs.all fun x => betwD x (-99) 99
  | _ => false
theorem ite_b {c : Bool} {A B : Prop} (h1 : c = true → A) (h2 : c = false → B) : if c = true then A else B := by
  cases c with
  | true => exact h1 rfl
  | false => exact h2 rfl
theorem wholeD_int {d : PyData} (h : wholeD d = true) : ∃ i, d = .int i := by
  cases d with
  | int i => exact ⟨i, rfl⟩
  | _ => cases h
theorem instD_tuple {d : PyData} (h : instD d "tuple" = true) : ∃ xs, d = .tuple xs := by
  cases d with
  | tuple xs => exact ⟨xs, rfl⟩
  | _ => simp [instD, tyName] at h
theorem instD_notuple {d : PyData} (h : instD d "tuple" = false) : ∀ xs, d ≠ .tuple xs := by
  rintro xs rfl
  simp [instD, tyName] at h
theorem map_bl (f : Nat → Bool) (l : List Nat) : (l.map fun i => V.bl (f i)) = (l.map f).map V.bl := by simp
end My

namespace My
open PySem PySem.Spec PyProof.Rows L2
noncomputable def mostKV : Option Int → List (Key × V)
  | none => []
  | some m => [(Sum.inr "most", V.int m)]
noncomputable def jarKV (c : Addr) (rest seed : Int) (turn : Int × Option Int) : List (Key × V) := (Sum.inr "cells", V.ref c) :: (Sum.inr "rest", V.int rest) :: (Sum.inr "seed", V.int seed) :: (Sum.inr "turn", V.int turn.1) :: mostKV turn.2
structure Jar (H : Hp) (p c : Addr) : Prop where
  ex : ∃ (ns : List Int) (rest seed : Int) (turn : Int × Option Int), H p = some (.dK (jarKV c rest seed turn)) ∧ H c = some (.lst (ns.map V.int)) ∧ ns.length ≤ 63 ∧ 0 ≤ seed ∧ seed < 2 ^ 64
theorem Jar.fresh {H : Hp} {p c l : Addr} (J : Jar H p c) (h : H l = none) : l ∉ [p, c] := by
  obtain ⟨ns, r, s, t, h1, h2, _⟩ := J.ex
  intro z
  rcases List.mem_cons.mp z with rfl | z
  · rw [h] at h1; cases h1
  · cases List.mem_singleton.mp z; rw [h] at h2; cases h2
theorem str_cr : ¬ ((Sum.inr ("cells" : Str) : Key) = (Sum.inr ("rest" : Str) : Key)) := by intro h; injection h with h; revert h; decide +kernel
theorem str_cs : ¬ ((Sum.inr ("cells" : Str) : Key) = (Sum.inr ("seed" : Str) : Key)) := by intro h; injection h with h; revert h; decide +kernel
theorem str_ct : ¬ ((Sum.inr ("cells" : Str) : Key) = (Sum.inr ("turn" : Str) : Key)) := by intro h; injection h with h; revert h; decide +kernel
theorem str_rs : ¬ ((Sum.inr ("rest" : Str) : Key) = (Sum.inr ("seed" : Str) : Key)) := by intro h; injection h with h; revert h; decide +kernel
theorem str_rt : ¬ ((Sum.inr ("rest" : Str) : Key) = (Sum.inr ("turn" : Str) : Key)) := by intro h; injection h with h; revert h; decide +kernel
theorem str_st : ¬ ((Sum.inr ("seed" : Str) : Key) = (Sum.inr ("turn" : Str) : Key)) := by intro h; injection h with h; revert h; decide +kernel
theorem str_rm : ¬ ((Sum.inr ("rest" : Str) : Key) = (Sum.inr ("most" : Str) : Key)) := by intro h; injection h with h; revert h; decide +kernel
theorem str_sm : ¬ ((Sum.inr ("seed" : Str) : Key) = (Sum.inr ("most" : Str) : Key)) := by intro h; injection h with h; revert h; decide +kernel
theorem str_tm : ¬ ((Sum.inr ("turn" : Str) : Key) = (Sum.inr ("most" : Str) : Key)) := by intro h; injection h with h; revert h; decide +kernel
section
variable (c : Addr) (r s : Int) (t : Int × Option Int) (x : Int)
theorem most_map {k : Key} {v : V} (h : ¬ ((Sum.inr ("most" : Str) : Key) = k)) : (mostKV t.2).map (fun kv => if kv.1 = k then (kv.1, v) else kv) = mostKV t.2 := by
  cases t.2 with
  | none => rfl
  | some m => simp only [mostKV, List.map_cons, List.map_nil, if_neg h]
theorem jar_cells : valV (jarKV c r s t) (Sum.inr "cells") = some (V.ref c) := valV_pos rfl
theorem jar_rest : valV (jarKV c r s t) (Sum.inr "rest") = some (V.int r) := by
  unfold jarKV; rw [valV_neg str_cr]; exact valV_pos rfl
theorem jar_seed : valV (jarKV c r s t) (Sum.inr "seed") = some (V.int s) := by
  unfold jarKV; rw [valV_neg str_cs, valV_neg str_rs]; exact valV_pos rfl
theorem jar_turn : valV (jarKV c r s t) (Sum.inr "turn") = some (V.int t.1) := by
  unfold jarKV; rw [valV_neg str_ct, valV_neg str_rt, valV_neg str_st]; exact valV_pos rfl
theorem jar_put_rest : putK (jarKV c r s t) (Sum.inr "rest") (V.int x) = jarKV c x s t := by
  unfold putK
  rw [if_pos (by rw [valV_any, jar_rest]; rfl)]
  unfold jarKV
  simp only [List.map_cons, List.map_nil, if_neg str_cr, if_neg (Ne.symm str_rs), if_neg (Ne.symm str_rt), if_true, most_map t (Ne.symm str_rm)]
theorem jar_put_seed : putK (jarKV c r s t) (Sum.inr "seed") (V.int x) = jarKV c r x t := by
  unfold putK
  rw [if_pos (by rw [valV_any, jar_seed]; rfl)]
  unfold jarKV
  simp only [List.map_cons, List.map_nil, if_neg str_cs, if_neg str_rs, if_neg (Ne.symm str_st), if_true, most_map t (Ne.symm str_sm)]
theorem jar_put_turn : putK (jarKV c r s t) (Sum.inr "turn") (V.int x) = jarKV c r s (x, t.2) := by
  unfold putK
  rw [if_pos (by rw [valV_any, jar_turn]; rfl)]
  unfold jarKV
  simp only [List.map_cons, List.map_nil, if_neg str_ct, if_neg str_rt, if_neg str_st, if_true, most_map t (Ne.symm str_tm)]
end
noncomputable abbrev kC : Key := Sum.inr ("cells" : Str)
noncomputable abbrev kR : Key := Sum.inr ("rest" : Str)
noncomputable abbrev kS : Key := Sum.inr ("seed" : Str)
noncomputable abbrev kT : Key := Sum.inr ("turn" : Str)
theorem jar_made (l : Addr) (r s t : Int) : mergeK [] [(kC, V.ref l), (kR, V.int r), (kS, V.int s), (kT, V.int t)] = jarKV l r s (t, none) := by
  have e1 : putK ([] : List (Key × V)) kC (V.ref l) = [] ++ [(kC, V.ref l)] := putK_new _ valV_nil
  have e2 : putK ([(kC, V.ref l)] : List (Key × V)) kR (V.int r) = [(kC, V.ref l)] ++ [(kR, V.int r)] := putK_new _ (by rw [valV_neg str_cr]; exact valV_nil)
  have e3 : putK ([(kC, V.ref l), (kR, V.int r)] : List (Key × V)) kS (V.int s) = [(kC, V.ref l), (kR, V.int r)] ++ [(kS, V.int s)] := putK_new _ (by rw [valV_neg str_cs, valV_neg str_rs]; exact valV_nil)
  have e4 : putK ([(kC, V.ref l), (kR, V.int r), (kS, V.int s)] : List (Key × V)) kT (V.int t) = [(kC, V.ref l), (kR, V.int r), (kS, V.int s)] ++ [(kT, V.int t)] := putK_new _ (by rw [valV_neg str_ct, valV_neg str_rt, valV_neg str_st]; exact valV_nil)
  unfold mergeK
  simp only [List.foldl]
  rw [e1, List.nil_append, e2, List.cons_append, List.nil_append, e3, List.cons_append, List.cons_append, List.nil_append, e4]
  rfl
structure JarX (H : Hp) (p c : Addr) (ns : List Int) (r sd : Int) (tn : Int × Option Int) : Prop where
  d : H p = some (.dK (jarKV c r sd tn))
  l : H c = some (.lst (ns.map V.int))
theorem jar_short {c : Addr} {r sd : Int} (tn : Int × Option Int) : (jarKV c r sd tn).length < sizeLine := by
  have : (jarKV c r sd tn).length ≤ 5 := by
    unfold jarKV
    cases tn.2 <;> simp [mostKV]
  exact Nat.lt_of_le_of_lt this (by decide)
theorem JarX.ne {H : Hp} {p c : Addr} {ns : List Int} {r sd : Int} {tn : Int × Option Int} (J : JarX H p c ns r sd tn) : p ≠ c := ne_of J.d J.l (by intro z; cases z)
theorem JarX.new {H : Hp} {p c l : Addr} {ns : List Int} {r sd : Int} {tn : Int × Option Int} {o : HO} (J : JarX H p c ns r sd tn) (h : H l = none) : JarX (upd H l o) p c ns r sd tn :=
  ⟨by rw [upd_ne (ne_of_none J.d h)]; exact J.d, by rw [upd_ne (ne_of_none J.l h)]; exact J.l⟩
theorem JarX.put {H : Hp} {p c : Addr} {ns : List Int} {r sd : Int} {tn : Int × Option Int} (J : JarX H p c ns r sd tn) (r' sd' : Int) (tn' : Int × Option Int) : JarX (upd H p (.dK (jarKV c r' sd' tn'))) p c ns r' sd' tn' :=
  ⟨upd_same, by rw [upd_ne (Ne.symm J.ne)]; exact J.l⟩
theorem JarX.cut {H : Hp} {p c : Addr} {ns : List Int} {r sd : Int} {tn : Int × Option Int} (J : JarX H p c ns r sd tn) (ms : List Int) : JarX (upd H c (.lst (ms.map V.int))) p c ms r sd tn :=
  ⟨by rw [upd_ne J.ne]; exact J.d, upd_same⟩
theorem JarX.cells {H : Hp} {p c : Addr} {ns : List Int} {r sd : Int} {tn : Int × Option Int} (J : JarX H p c ns r sd tn) : DGet H p (V.str "cells") (some (V.ref c)) := by rw [← jar_cells c r sd tn]; exact DGet.k (k := Sum.inr "cells") J.d
theorem JarX.rest {H : Hp} {p c : Addr} {ns : List Int} {r sd : Int} {tn : Int × Option Int} (J : JarX H p c ns r sd tn) : DGet H p (V.str "rest") (some (V.int r)) := by rw [← jar_rest c r sd tn]; exact DGet.k (k := Sum.inr "rest") J.d
theorem JarX.seed {H : Hp} {p c : Addr} {ns : List Int} {r sd : Int} {tn : Int × Option Int} (J : JarX H p c ns r sd tn) : DGet H p (V.str "seed") (some (V.int sd)) := by rw [← jar_seed c r sd tn]; exact DGet.k (k := Sum.inr "seed") J.d
theorem JarX.turn {H : Hp} {p c : Addr} {ns : List Int} {r sd : Int} {tn : Int × Option Int} (J : JarX H p c ns r sd tn) : DGet H p (V.str "turn") (some (V.int tn.1)) := by rw [← jar_turn c r sd tn]; exact DGet.k (k := Sum.inr "turn") J.d
theorem JarX.pRest {H : Hp} {p c : Addr} {ns : List Int} {r sd : Int} {tn : Int × Option Int} (J : JarX H p c ns r sd tn) (x : Int) : DPut H p (V.str "rest") (V.int x) (upd H p (.dK (jarKV c x sd tn))) := by rw [← jar_put_rest c r sd tn x]; exact DPut.k (k := Sum.inr "rest") J.d (jar_short tn)
theorem JarX.pSeed {H : Hp} {p c : Addr} {ns : List Int} {r sd : Int} {tn : Int × Option Int} (J : JarX H p c ns r sd tn) (x : Int) : DPut H p (V.str "seed") (V.int x) (upd H p (.dK (jarKV c r x tn))) := by rw [← jar_put_seed c r sd tn x]; exact DPut.k (k := Sum.inr "seed") J.d (jar_short tn)
theorem JarX.pTurn {H : Hp} {p c : Addr} {ns : List Int} {r sd : Int} {tn : Int × Option Int} (J : JarX H p c ns r sd tn) (x : Int) : DPut H p (V.str "turn") (V.int x) (upd H p (.dK (jarKV c r sd (x, tn.2)))) := by rw [← jar_put_turn c r sd tn x]; exact DPut.k (k := Sum.inr "turn") J.d (jar_short tn)
theorem JarX.jar {H : Hp} {p c : Addr} {ns : List Int} {r sd : Int} {tn : Int × Option Int} (J : JarX H p c ns r sd tn) (h1 : ns.length ≤ 63) (h2 : 0 ≤ sd) (h3 : sd < 2 ^ 64) : Jar H p c := ⟨ns, r, sd, tn, J.d, J.l, h1, h2, h3⟩
theorem Jar.x {H : Hp} {p c : Addr} (J : Jar H p c) : ∃ ns r sd tn, JarX H p c ns r sd tn ∧ ns.length ≤ 63 ∧ 0 ≤ sd ∧ sd < 2 ^ 64 := by
  obtain ⟨ns, r, sd, tn, h1, h2, h3⟩ := J.ex
  exact ⟨ns, r, sd, tn, ⟨h1, h2⟩, h3⟩
noncomputable def JarE (H : Hp) (p c : Addr) (e : Option Int) : Prop := ∃ ns r sd tn, JarX H p c ns r sd (tn, e) ∧ ns.length ≤ 63 ∧ 0 ≤ sd ∧ sd < 2 ^ 64
theorem JarE.jar {H : Hp} {p c : Addr} {e : Option Int} (J : JarE H p c e) : Jar H p c := by
  obtain ⟨ns, r, sd, tn, X, h1, h2, h3⟩ := J
  exact X.jar h1 h2 h3
theorem Jar.e {H : Hp} {p c : Addr} (J : Jar H p c) : ∃ e, JarE H p c e := by
  obtain ⟨ns, r, sd, tn, X, h1, h2, h3⟩ := J.x
  exact ⟨tn.2, ns, r, sd, tn.1, X, h1, h2, h3⟩
theorem JarX.jarE {H : Hp} {p c : Addr} {ns : List Int} {r sd tn : Int} {e : Option Int} (J : JarX H p c ns r sd (tn, e)) (h1 : ns.length ≤ 63) (h2 : 0 ≤ sd) (h3 : sd < 2 ^ 64) : JarE H p c e := ⟨ns, r, sd, tn, J, h1, h2, h3⟩
noncomputable def spPickE : Sp := fun vs H Q _ => ∃ (p c : Addr) (many : Int) (e : Option Int), vs = [.ref p, .int many] ∧ JarE H p c e ∧ 0 < many ∧ many < 2 ^ 9000 ∧ ∀ (r : Int) (H' : Hp), 0 ≤ r → r < many → JarE H' p c e → Kp [p, c] H H' → Q (.int r) H'
theorem seqIndex_0 (n : Nat) : seqIndex? 0 (n + 1) = some 0 := by
  unfold seqIndex?
  simp
theorem seq_by {t u : TS} {D : Ends} {σ : L2.St} {H : Hp} (Mid : L2.St → Hp → Prop) (h1 : ∀ N : L2.St → Hp → Prop, (∀ σ' H', Mid σ' H' → N σ' H') → t { D with nx := N } σ H) (h2 : ∀ σ' H', Mid σ' H' → u D σ' H') : tSeq t u D σ H := h1 _ h2
noncomputable def spMix : Sp := fun vs H Q _ => ∃ n : Int, vs = [.int n] ∧ 0 ≤ n ∧ n < 2 ^ 64 ∧ ∀ r : Int, 0 ≤ r → r < 2 ^ 64 → Q (.int r) H
noncomputable def spJar (K : PySem.W.Frag) : Sp := fun vs H Q _ => ∃ (a : Addr) (ns : List Int), vs = [.ref a] ∧ SqL K H a (ns.map V.int) ∧ ns.length ≤ 63 ∧ ∀ p c H', Kp [] H H' → H p = none → H c = none → Jar H' p c → Q (.ref p) H'
theorem cutV_ints (ns : List Int) (lo hi : Option Int) : ∃ ms : List Int, cutV (ns.map V.int) lo hi = ms.map V.int ∧ ms.length ≤ ns.length := by
  unfold cutV
  refine ⟨_, by rw [← List.map_drop, ← List.map_take], ?_⟩
  rw [List.length_take, List.length_drop]
  omega
theorem canLay_ints : ∀ ns : List Int, PyData.canLayAll0 (ns.map PyData.int) = true
  | [] => rfl
  | n :: r => by rw [List.map_cons]; unfold PyData.canLayAll0; rw [canLay_ints r]; rfl
theorem eqv_nil : ∀ ns : List Int, PyData.eqv (.list (ns.map PyData.int)) (.list []) = ns.isEmpty
  | [] => rfl
  | _ :: _ => rfl
end My

namespace My
open PySem PySem.Spec PyProof.Rows L2
mutual
theorem Rep.mono {ex ex' : List Addr} {H : Hp} (h : ∀ b ∈ ex, b ∈ ex') : ∀ {d : PyData} {v : V}, Rep ex' H d v → Rep ex H d v
  | _, _, .none => .none
  | _, _, .bool b => .bool b
  | _, _, .int i => .int i
  | _, _, .str x => .str x
  | _, _, .tuple e n z r => .tuple e (fun q => n (h _ q)) z (Reps.mono h r)
  | _, _, .list e n z r => .list e (fun q => n (h _ q)) z (Reps.mono h r)
  | _, _, .obj e n k r => .obj e (fun q => n (h _ q)) k (Reps.mono h r)
  | _, _, .dctf e n k r => .dctf e (fun q => n (h _ q)) k (Reps.mono h r)
theorem Reps.mono {ex ex' : List Addr} {H : Hp} (h : ∀ b ∈ ex, b ∈ ex') : ∀ {ds : List PyData} {vs : List V}, Reps ex' H ds vs → Reps ex H ds vs
  | _, _, .nil => .nil
  | _, _, .cons r t => .cons (Rep.mono h r) (Reps.mono h t)
end
theorem Kp.free {H H' : Hp} {ex : List Addr} {l : Addr} (k : Kp ex H H') (h : H' l = none) (hn : l ∉ ex) : H l = none := by
  cases e : H l with
  | none => rfl
  | some o => rw [k l o e hn] at h; cases h
theorem ixN_of {n : Nat} {i : Int} (h0 : 0 ≤ i) (h1 : i < n) : ixN n i = some i.toNat := by
  unfold ixN; rw [if_pos h0, if_pos h1]
noncomputable def spLaw (K : PySem.W.Frag) : Sp := fun vs H Q _ => ∃ (a : Addr) (ns : List Int), vs = [.ref a] ∧ SqL K H a (ns.map V.int) ∧ ns.length ≤ 63 ∧ ∀ H', Q (.bl true) H'
theorem small4 {α : Type} {l : List α} (h : l.length ≤ 1000) : l.length ≤ sizeLine := Nat.le_of_lt (small1000 h)
end My

namespace L2
open PySem PySem.Spec PyProof.Rows
theorem assign_sub_gen (o i : Expr) (pos : Pos) (env : Env) (v : Value) : assign (.Subscript o i pos) env v = (do
      let ov ← holding [v] (eval o env)
      let iv ← holding [v, ov] (eval i env)
      standAt pos
      holding [v, ov, iv] (setItem ov iv v)
      release (match i with | .Slice _ _ none _ => [iv, v, ov] | _ => [v, ov, iv]) []) := rfl
theorem assign_sub_call (o f : Expr) (args : List Expr) (kws : List Keyword) (p pos : Pos) (env : Env) (v : Value) : assign (.Subscript o (.Call f args kws p) pos) env v = (do
      let ov ← holding [v] (eval o env)
      let iv ← holding [v, ov] (eval (.Call f args kws p) env)
      standAt pos
      holding [v, ov, iv] (setItem ov iv v)
      release [v, ov, iv] []) := assign_sub_gen _ _ _ _ _
theorem assign_sub_name (o : Expr) (x : Str) (p pos : Pos) (env : Env) (v : Value) : assign (.Subscript o (.Name x p) pos) env v = (do
      let ov ← holding [v] (eval o env)
      let iv ← holding [v, ov] (eval (.Name x p) env)
      standAt pos
      holding [v, ov, iv] (setItem ov iv v)
      release [v, ov, iv] []) := assign_sub_gen _ _ _ _ _
section
variable {X : Cx} {es : List Expr} {te : TE} {t : TA} {pos : Pos}
theorem pa_tuple {xs : List Expr} {k : Nat} (ha : PE X (.Tuple xs k pos) te) (hr : PA X es t) : PA X (.Tuple xs k pos :: es) (tCons te t) := pa_cons ha hr rfl
theorem pa_const {k : Const} {j : Nat} (ha : PE X (.Constant k j pos) te) (hr : PA X es t) : PA X (.Constant k j pos :: es) (tCons te t) := pa_cons ha hr rfl
theorem pa_name {x : Str} (ha : PE X (.Name x pos) te) (hr : PA X es t) : PA X (.Name x pos :: es) (tCons te t) := pa_cons ha hr rfl
theorem pa_call {f : Expr} {xs : List Expr} {ks : List Keyword} (ha : PE X (.Call f xs ks pos) te) (hr : PA X es t) : PA X (.Call f xs ks pos :: es) (tCons te t) := pa_cons ha hr rfl
theorem pa_binop {a b : Expr} {op : Operator} (ha : PE X (.BinOp a op b pos) te) (hr : PA X es t) : PA X (.BinOp a op b pos :: es) (tCons te t) := pa_cons ha hr rfl
theorem pa_unary {a : Expr} {op : UnaryOp} (ha : PE X (.UnaryOp op a pos) te) (hr : PA X es t) : PA X (.UnaryOp op a pos :: es) (tCons te t) := pa_cons ha hr rfl
theorem pa_cmp {a : Expr} {ops : List CmpOp} {bs : List Expr} (ha : PE X (.Compare a ops bs pos) te) (hr : PA X es t) : PA X (.Compare a ops bs pos :: es) (tCons te t) := pa_cons ha hr rfl
theorem pa_sub {a b : Expr} (ha : PE X (.Subscript a b pos) te) (hr : PA X es t) : PA X (.Subscript a b pos :: es) (tCons te t) := pa_cons ha hr rfl
theorem pa_comp {e : Expr} {gs : List Comprehension} {sc : Scope} (ha : PE X (.ListComp e gs sc pos) te) (hr : PA X es t) : PA X (.ListComp e gs sc pos :: es) (tCons te t) := pa_cons ha hr rfl
end
structure PEs (X : Cx) (e : Expr) (t : TE) : Prop where
  out : PE X e t
structure PAs (X : Cx) (es : List Expr) (t : TA) : Prop where
  out : PA X es t
section
variable {X : Cx} {es : List Expr} {te : TE} {t : TA} {pos : Pos}
theorem pes_of {e : Expr} (h : PE X e te) : PEs X e te := ⟨h⟩
theorem pes_tup {k : Nat} (h : PAs X es t) : PEs X (.Tuple es k pos) (tTup t) := ⟨pe_tup h.out⟩
theorem pes_lst (h : PAs X es t) : PEs X (.List es pos) (tLst t) := ⟨pe_lst h.out⟩
theorem pes_int {i : Int} {j : Nat} : PEs X (.Constant (.int i) j pos) (tC (.int i)) := ⟨pe_int⟩
theorem pes_str {i : Str} {j : Nat} : PEs X (.Constant (.str i) j pos) (tC (.str i)) := ⟨pe_str⟩
theorem pas_nil : PAs X [] tNil := ⟨pa_nil⟩
theorem pas_tuple {xs : List Expr} {k : Nat} (ha : PEs X (.Tuple xs k pos) te) (hr : PAs X es t) : PAs X (.Tuple xs k pos :: es) (tCons te t) := ⟨pa_tuple ha.out hr.out⟩
theorem pas_const {k : Const} {j : Nat} (ha : PEs X (.Constant k j pos) te) (hr : PAs X es t) : PAs X (.Constant k j pos :: es) (tCons te t) := ⟨pa_const ha.out hr.out⟩
theorem pas_name {x : Str} (ha : PEs X (.Name x pos) te) (hr : PAs X es t) : PAs X (.Name x pos :: es) (tCons te t) := ⟨pa_name ha.out hr.out⟩
theorem pas_call {f : Expr} {xs : List Expr} {ks : List Keyword} (ha : PEs X (.Call f xs ks pos) te) (hr : PAs X es t) : PAs X (.Call f xs ks pos :: es) (tCons te t) := ⟨pa_call ha.out hr.out⟩
theorem pas_binop {a b : Expr} {op : Operator} (ha : PEs X (.BinOp a op b pos) te) (hr : PAs X es t) : PAs X (.BinOp a op b pos :: es) (tCons te t) := ⟨pa_binop ha.out hr.out⟩
theorem pas_unary {a : Expr} {op : UnaryOp} (ha : PEs X (.UnaryOp op a pos) te) (hr : PAs X es t) : PAs X (.UnaryOp op a pos :: es) (tCons te t) := ⟨pa_unary ha.out hr.out⟩
theorem pas_sub {a b : Expr} (ha : PEs X (.Subscript a b pos) te) (hr : PAs X es t) : PAs X (.Subscript a b pos :: es) (tCons te t) := ⟨pa_sub ha.out hr.out⟩
end
end L2
namespace L2
open PySem PySem.Spec PyProof.Rows
theorem def_mk {K : PySem.W.Frag} {h : Heap} {mg : Str → Option Value} {x : Str} {st : Stmt} {ps : List Str} {f : Addr} {oc : Value} {od an : Option Addr} {osl : Array (Option Value)} {kV doc pm cdv ct : Value} (X : K.In h) (G : h.Ns mainGlobals mg)
    (a : PySem.W.nsIn K mainGlobals x = some (some (.ref f))) (l : K.lookup f = some ⟨oc, od, .func (PySem.W.fnOf x x (defArgs st) (defBody st) (defScope st) .none kV doc pm an cdv ct), osl⟩) (c : PySem.W.codeIn K cdv x = true) (k : PySem.W.keepIn K (.ref f) = true)
    (hb : ∀ (kV doc pm : Value) (an : Option Addr) (cdv ct : Value) (us : List Value), us.length = ps.length → bindArgs (PySem.W.fnOf x x (defArgs st) (defBody st) (defScope st) .none kV doc pm an cdv ct) ⟨us, []⟩ = pure (ps.zip us)) : Def K mg x st ps :=
  ⟨f, _, PySem.W.mg_of X G a, fun_mk (st := st) l c k, (fun_mk (st := st) l c k).binds hb⟩
theorem gint_mk {K : PySem.W.Frag} {h : Heap} {mg : Str → Option Value} {x : Str} {i : Int} {t : Tok} (X : K.In h) (G : h.Ns mainGlobals mg) (a : PySem.W.nsIn K mainGlobals x = some (some (.int i t))) : GInt mg x i := ⟨t, PySem.W.mg_of X G a⟩
end L2

namespace My
open PySem PySem.Spec PyProof.Rows L2
structure Way where
  a : Int
  b : Int
  g : List Int
noncomputable def wayPD (w : Way) : PyData := .tuple [.int w.a, .int w.b, .tuple (w.g.map PyData.int)]
noncomputable def bookPD (R P : Int) (ws : List Way) : PyData := .tuple [.int R, .int P, .tuple (ws.map wayPD)]
structure WayOk (R P : Int) (w : Way) : Prop where
  a0 : 0 ≤ w.a
  a1 : w.a < R
  b0 : 0 ≤ w.b
  b1 : w.b < R
  len : (w.g.length : Int) = P
  small : ∀ x ∈ w.g, -99 ≤ x ∧ x ≤ 99
structure BookOk (R P : Int) (ws : List Way) : Prop where
  r0 : 1 ≤ R
  r1 : R ≤ 12
  p0 : 1 ≤ P
  p1 : P ≤ 6
  len : ws.length ≤ 60
  ways : ∀ w ∈ ws, WayOk R P w
theorem small9000 {n : Int} (h : n ≤ 100000) : n < 2 ^ 9000 := Int.lt_of_le_of_lt h (by decide +kernel)
end My

namespace L2
open PySem PySem.Spec PyProof.Rows
section
variable {α : Type} {a b c d e f x : α} {l : List α}
theorem mm0 : a ∈ a :: l := List.mem_cons_self
theorem mm1 : b ∈ a :: b :: l := List.mem_cons_of_mem _ mm0
theorem mm2 : c ∈ a :: b :: c :: l := List.mem_cons_of_mem _ mm1
theorem mm3 : d ∈ a :: b :: c :: d :: l := List.mem_cons_of_mem _ mm2
theorem mm4 : e ∈ a :: b :: c :: d :: e :: l := List.mem_cons_of_mem _ mm3
theorem mm5 : f ∈ a :: b :: c :: d :: e :: f :: l := List.mem_cons_of_mem _ mm4
theorem mn0 (h : ¬ x ∈ a :: l) : x ≠ a := fun e => h (e ▸ mm0)
theorem mn1 (h : ¬ x ∈ a :: b :: l) : x ≠ b := fun e => h (e ▸ mm1)
theorem mn2 (h : ¬ x ∈ a :: b :: c :: l) : x ≠ c := fun e => h (e ▸ mm2)
theorem mn3 (h : ¬ x ∈ a :: b :: c :: d :: l) : x ≠ d := fun e => h (e ▸ mm3)
theorem mn4 (h : ¬ x ∈ a :: b :: c :: d :: e :: l) : x ≠ e := fun e => h (e ▸ mm4)
theorem mn5 (h : ¬ x ∈ a :: b :: c :: d :: e :: f :: l) : x ≠ f := fun e => h (e ▸ mm5)
end
section
variable {prog : Program} {w : World} {A : Around} {E : Value → Shared → Prop} {s : Shared}
theorem nextT_item {j t : Addr} {i : Nat} {vs : Array Value} {y : Value} {Q : Value → Shared → Prop} (g : s.heap.IsTupleIter j t i) (gt : s.heap.IsTuple t vs) (gy : vs[i]? = some y)
    (q : ∀ h', h'.IsTupleIter j t (i + 1) → Heap.SameBut j s.heap h' → Q y { s with heap := h' }) : wpAny (model prog w) A (Builtin.SmallTypes.nextOf (.ref j)) Q E s := by
  obtain ⟨oj, e1, e2, e3⟩ := id g
  obtain ⟨ot, e4, _, n4, e5⟩ := gt
  have goal2 : wpAny (model prog w) A.in1 (Builtin.«tuple_iterator.__next__» ⟨[.ref j], []⟩) (fun fin s' => ∃ v, fin = .done (.ret v) ∧ wpAny (model prog w) A (pure v) Q E s') E s := by
    show wpAny _ _ (field (.ref j) 0 >>= _) _ _ s
    refine wpAny_bind (wpAny_field e1 e3 (x := .ref t) rfl ?_)
    show wpAny _ _ (if (Value.ref t == Value.none) = true then _ else _) _ _ s; rw [if_neg (show ¬ ((Value.ref t == Value.none) = true) from fun z => Bool.noConfusion z)]
    show wpAny _ _ (field (.ref j) 1 >>= _) _ _ s
    refine wpAny_bind (wpAny_field e1 e3 (x := .int i 0) rfl ?_)
    show wpAny _ _ (seqItems? (.ref t) >>= _) _ _ s
    refine wpAny_bind (wpAny_seqItems e4 e5 ?_)
    simp only [Int.toNat_natCast, gy]
    refine wpAny_bind (wpAny_setField e1 e3 (by first | exact mm0 | exact mm1 | exact mm2 | exact mm3 | exact mm4 | exact mm5 | simp) (wpAny_pure ⟨y, rfl, wpAny_pure (q _ ⟨_, Heap.get?_update_self _ e1 (Obj.isFreed_of_fields (Obj.data_mapFields e3 _)), (Obj.cls_mapFields ..).trans e2, ?_⟩ (Heap.SameBut.update ..))⟩))
    rw [Obj.data_mapFields e3]; simp [rawInt]
  unfold Builtin.SmallTypes.nextOf
  exact wpAny_bind (wpAny_callSpecial?_slot (name := Str.ofString "__next__") g.typeIs F.slot_tuple_iterator_next (wpAny_call_entry F.slot_tuple_iterator_next g.typeIs F.entry_tuple_iterator_next goal2 (F.args_tuple_iterator_next_1 _)))
theorem nextT_end {j t : Addr} {i : Nat} {vs : Array Value} {Q : Value → Shared → Prop} (hh : A.handled = none) (g : s.heap.IsTupleIter j t i) (gt : s.heap.IsTuple t vs) (gy : vs[i]? = none)
    (q : ∀ h' e, Heap.ExtBut j s.heap h' → (∃ o, h'.get? e = some o ∧ o.cls = .type "StopIteration") → E (.ref e) { s with heap := h' }) : wpAny (model prog w) A (Builtin.SmallTypes.nextOf (.ref j)) Q E s := by
  obtain ⟨oj, e1, e2, e3⟩ := id g
  obtain ⟨ot, e4, _, n4, e5⟩ := gt
  unfold Builtin.SmallTypes.nextOf
  refine wpAny_bind (wpAny_callSpecial?_slot (name := Str.ofString "__next__") g.typeIs F.slot_tuple_iterator_next (wpAny_call_entry F.slot_tuple_iterator_next g.typeIs F.entry_tuple_iterator_next ?_ (F.args_tuple_iterator_next_1 _)))
  show wpAny _ _ (field (.ref j) 0 >>= _) _ _ s
  refine wpAny_bind (wpAny_field e1 e3 (x := .ref t) rfl ?_)
  show wpAny _ _ (if (Value.ref t == Value.none) = true then _ else _) _ _ s; rw [if_neg (show ¬ ((Value.ref t == Value.none) = true) from fun z => Bool.noConfusion z)]
  show wpAny _ _ (field (.ref j) 1 >>= _) _ _ s
  refine wpAny_bind (wpAny_field e1 e3 (x := .int i 0) rfl ?_)
  show wpAny _ _ (seqItems? (.ref t) >>= _) _ _ s
  refine wpAny_bind (wpAny_seqItems e4 e5 ?_)
  simp only [Int.toNat_natCast, gy]
  refine wpAny_bind (wpAny_rule (wpAny_bind (wpAny_setField e1 e3 (by first | exact mm0 | exact mm1 | exact mm2 | exact mm3 | exact mm4 | exact mm5 | simp) ?_)))
  show wpAny _ _ (newExc (.type "StopIteration") [] >>= _) _ _ _; refine wpAny_bind ?_; simp only [newExc, newTuple]
  refine wpAny_bind (wpAny_newObj_type ?_ (by size_fits)); refine wpAny_bind (m := firstArgMember _ _) (wpAny_of_eq (a := Value.none) (by first | rfl | (simp only [firstArgMember]; rfl)) ?_); refine wpAny_newObj_type ?_ (by size_fits)
  simp only [raiseNew]; refine wpAny_bind (wpAny_handled ?_); first | rw [show A.in1.handled = none from hh] | rw [hh]
  refine wpAny_bind (wpAny_pure (wpAny_throw (q _ _ (((Heap.SameBut.update ..).extBut.push _).push _) ⟨_, Heap.get?_push_size _ rfl, rfl⟩)))
end
noncomputable def SqAt (b : Bool) (h : Heap) (a : Addr) (vs : Array Value) : Prop := match b with | true => h.IsTuple a vs | false => h.IsList a vs
noncomputable def ItAt (b : Bool) (h : Heap) (j a : Addr) (i : Nat) : Prop := match b with | true => h.IsTupleIter j a i | false => h.IsListIter j a i
theorem SqAt.at {b : Bool} {h h' : Heap} {a : Addr} {vs : Array Value} (x : SqAt b h a vs) (k : ∀ o, h.get? a = some o → h'.get? a = some o) : SqAt b h' a vs := by
  cases b with
  | true => exact let ⟨o, e, r⟩ := x; ⟨o, k o e, r⟩
  | false => exact let ⟨o, e, r⟩ := x; ⟨o, k o e, r⟩
theorem ItAt.at {b : Bool} {h h' : Heap} {j a : Addr} {i : Nat} (x : ItAt b h j a i) (k : ∀ o, h.get? j = some o → h'.get? j = some o) : ItAt b h' j a i := by
  cases b with
  | true => exact let ⟨o, e, r⟩ := x; ⟨o, k o e, r⟩
  | false => exact let ⟨o, e, r⟩ := x; ⟨o, k o e, r⟩
theorem ItAt.obj {b : Bool} {h : Heap} {j a : Addr} {i : Nat} (x : ItAt b h j a i) : ∃ o, h.get? j = some o ∧ ∀ v, o.data ≠ .cell v := by
  cases b with
  | true => exact let ⟨o, e, _, d⟩ := x; ⟨o, e, fun v z => by rw [d] at z; cases z⟩
  | false => exact let ⟨o, e, _, d⟩ := x; ⟨o, e, fun v z => by rw [d] at z; cases z⟩
theorem draws_of {prog : Program} {w : World} {A : Around} (b : Bool) (hh : A.handled = none) (j a : Addr) (hne : a ≠ j) (vs : Array Value) :
    Draws prog w A j [j, a] vs.size (fun i v => vs[i]? = some v) (fun i h => ItAt b h j a i ∧ SqAt b h a vs) := by
  cases b with
  | false => exact Draws.list hh j a hne vs
  | true => exact {
      live := fun _ _ st => let ⟨o, ho, _⟩ := st.1; ⟨o, ho⟩
      frame := fun _ _ _ st hk => ⟨ItAt.at (b := true) st.1 fun o e => hk j (by first | exact mm0 | exact mm1 | exact mm2 | exact mm3 | exact mm4 | exact mm5 | simp) o e, SqAt.at (b := true) st.2 fun o e => hk a (by first | exact mm0 | exact mm1 | exact mm2 | exact mm3 | exact mm4 | exact mm5 | simp) o e⟩
      item := fun i s Q E hi st hQ => by
        have e : vs[i]? = some vs[i] := by simp [hi]
        exact nextT_item st.1 st.2 e fun h' g' sb => hQ _ h' s.toks e ⟨g', SqAt.at (b := true) st.2 fun o z => (sb.2 a hne).trans z⟩ sb
      done := fun s Q E st hE => nextT_end hh st.1 st.2 (by first | exact mm0 | exact mm1 | exact mm2 | exact mm3 | exact mm4 | exact mm5 | simp) hE }
section
open AutoSeq1 (wpAny_loadPart')
end
noncomputable def itObj (b : Bool) (l : Addr) : Obj := { cls := .type (match b with | true => "tuple_iterator" | false => "list_iterator"), data := .fields #[.ref l, .int 0 0] }
theorem itObj_at {b : Bool} {h : Heap} {j l : Addr} (e : h.get? j = some (itObj b l)) : ItAt b h j l 0 := by
  cases b with
  | true => exact ⟨_, e, rfl, rfl⟩
  | false => exact ⟨_, e, rfl, rfl⟩
theorem pyIter_itObj {prog : Program} {w : World} {A : Around} {E : Value → Shared → Prop} {s : Shared} {b : Bool} {a : Addr} {vs : Array Value} {Q : Value → Shared → Prop} (x : SqAt b s.heap a vs)
    (q : Q (.ref s.heap.objs.size) { s with heap := s.heap.push (itObj b a) }) : wpAny (model prog w) A (pyIter (.ref a)) Q E s := by
  cases b with
  | true => exact wpAny_pyIter_tuple x q
  | false => exact wpAny_pyIter_list x q
noncomputable abbrev zz1 (b : Bool) (h : Heap) (l : Addr) : Heap := h.push (itObj b l)
noncomputable abbrev zz2 (b b' : Bool) (h : Heap) (l m : Addr) : Heap := (zz1 b h l).push (itObj b' m)
noncomputable abbrev zz3 (b b' : Bool) (h : Heap) (l m : Addr) : Heap := (zz2 b b' h l m).push { cls := .type "tuple", data := .seq #[.ref h.objs.size, .ref (zz1 b h l).objs.size] }
noncomputable abbrev zz4 (b b' : Bool) (h : Heap) (l m : Addr) : Heap := (zz3 b b' h l m).push { cls := .type "tuple", data := .seq #[.none, .none] }
noncomputable abbrev zz5 (b b' : Bool) (h : Heap) (l m : Addr) : Heap := (zz4 b b' h l m).push { cls := .type "zip", data := .fields #[.none, .bool false, .bool false, .ref (zz2 b b' h l m).objs.size, .ref (zz3 b b' h l m).objs.size] }
theorem zip_new (b b' : Bool) (l m : Addr) (xs ys : Array Value) :
    Meets (Builtin.«zip.__new__» ⟨[.type "zip", .ref l, .ref m], []⟩) (fun _ R s => SqAt b s.heap l xs ∧ SqAt b' s.heap m ys ∧
      R (.ok (.ret (.ref (zz4 b b' s.heap l m).objs.size))) { s with heap := zz5 b b' s.heap l m }) :=
  .of_wp fun prog w A R s h => by
    obtain ⟨hp, g, d, tk, os⟩ := s; obtain ⟨x1, x2, h⟩ := h
    have hsub := sub_zip
    have x1' : SqAt b (Shared.heap ⟨hp, g, d, tk, os⟩) l xs := x1
    have x2' : SqAt b' (Shared.heap ⟨hp.push (itObj b l), g, d, tk, os⟩) m ys := SqAt.at x2 fun o e => Heap.get?_push_of_some _ e
    wp_walk using pyIter_itObj x1', pyIter_itObj x2'
    exact ⟨_, rfl, h⟩
end L2

namespace L2
open PySem PySem.Spec PyProof.Rows
structure ZApart (z TI TO j1 j2 : Addr) (f1 f2 : List Addr) : Prop where
  m1 : j1 ∈ f1
  m2 : j2 ∈ f2
  z1 : z ∉ f1
  z2 : z ∉ f2
  o1 : TO ∉ f1
  o2 : TO ∉ f2
  q1 : j1 ∉ f2
  q2 : j2 ∉ f1
  iz : TI ≠ z
  io : TI ≠ TO
  i1 : TI ≠ j1
  i2 : TI ≠ j2
  oz : TO ≠ z
theorem ZApart.j1z {z TI TO j1 j2 : Addr} {f1 f2 : List Addr} (D : ZApart z TI TO j1 j2 f1 f2) : j1 ≠ z := fun e => D.z1 (e ▸ D.m1)
theorem ZApart.j2z {z TI TO j1 j2 : Addr} {f1 f2 : List Addr} (D : ZApart z TI TO j1 j2 f1 f2) : j2 ≠ z := fun e => D.z2 (e ▸ D.m2)
theorem ZApart.j1o {z TI TO j1 j2 : Addr} {f1 f2 : List Addr} (D : ZApart z TI TO j1 j2 f1 f2) : j1 ≠ TO := fun e => D.o1 (e ▸ D.m1)
theorem ZApart.j2o {z TI TO j1 j2 : Addr} {f1 f2 : List Addr} (D : ZApart z TI TO j1 j2 f1 f2) : j2 ≠ TO := fun e => D.o2 (e ▸ D.m2)
theorem ne_mem {a b : Addr} {l : List Addr} (h : a ∉ l) (hb : b ∈ l) : b ≠ a := fun e => h (e ▸ hb)
section
variable {prog : Program} {w : World} {A : Around} {E : Value → Shared → Prop} {s : Shared} {z TI TO j1 j2 : Addr} {f1 f2 : List Addr} {n1 n2 i : Nat} {P1 P2 : Nat → Value → Prop} {St1 St2 : Nat → Heap → Prop} {a b : Value}
theorem zipD_item {Q : Value → Shared → Prop} (D : ZApart z TI TO j1 j2 f1 f2) (D1 : Draws prog w A j1 f1 n1 P1 St1) (D2 : Draws prog w A j2 f2 n2 P2 St2) (hz : IsZip s.heap z TI TO .none) (hI : IsPair s.heap TI (.ref j1) (.ref j2)) (hO : IsPair s.heap TO a b)
    (st1 : St1 i s.heap) (st2 : St2 i s.heap) (l1 : i < n1) (l2 : i < n2)
    (q : ∀ x y h' tk, P1 i x → P2 i y → IsZip h' z TI TO (rawInt s.heap.objs.size) → IsPair h' TO x y → St1 (i + 1) h' → St2 (i + 1) h' → IsPair h' s.heap.objs.size x y → h'.objs.size = s.heap.objs.size + 1 →
      (∀ c o, c ≠ z → c ≠ TO → c ≠ j1 → c ≠ j2 → s.heap.get? c = some o → h'.get? c = some o) → Q (.ref s.heap.objs.size) { s with heap := h', toks := tk }) :
    wpAny (model prog w) A (Builtin.«zip.__next__» ⟨[.ref z], []⟩) (fun fin s' => ∃ v, fin = .done (.ret v) ∧ Q v s') E s := by
  obtain ⟨hp, gg, dd, t0, os⟩ := s
  show wpAny _ _ (field (.ref z) 2 >>= _) _ _ _; refine wpAny_bind (wpAny_field hz rfl (x := .bool false) rfl ?_)
  show wpAny _ _ (field (.ref z) 3 >>= _) _ _ _; refine wpAny_bind (wpAny_field hz rfl (x := .ref TI) rfl ?_)
  refine wpAny_bind (wpAny_seqItems hI rfl ?_)
  show wpAny _ _ (Builtin.SmallTypes.ownedTupleIsFree (.ref z) >>= _) _ _ _; refine wpAny_bind ?_; unfold Builtin.SmallTypes.ownedTupleIsFree
  refine wpAny_bind (wpAny_field hz rfl (x := .none) rfl (wpAny_pure ?_)); simp only [if_true]; refine wpAny_bind (wpAny_rule ?_)
  refine wpAny_bind (wpAny_field hz rfl (x := .ref TO) rfl ?_)
  refine wpAny_bind (wpAny_setField_rec hz (by first | exact mm0 | exact mm1 | exact mm2 | exact mm3 | exact mm4 | exact mm5 | simp) fun g1 z1 b1 => ?_); replace z1 : IsZip g1 z TI TO .ellipsis := z1; replace b1 : Heap.SameBut z hp g1 := b1
  refine wpAny_bind ?_; simp only [List.zipIdx_cons, List.zipIdx_nil, List.forIn_cons, List.forIn_nil]
  refine wpAny_bind (wpAny_bind (wpAny_onRaise ?_))
  show wpAny _ _ (Builtin.SmallTypes.nextOf (.ref j1) >>= _) _ _ _
  refine wpAny_bind (D1.item i _ _ _ l1 (D1.frame _ _ _ st1 fun c hc o e => b1.extBut c o (ne_mem D.z1 hc) e) fun x g2 t2 px s12 b2 => wpAny_pure ?_); replace b2 : Heap.SameBut j1 g1 g2 := b2
  have o2 : IsPair g2 TO a b := b2.extBut _ _ (Ne.symm D.j1o) (b1.extBut _ _ D.oz hO)
  refine wpAny_bind (wpAny_seqItems o2 rfl ?_)
  refine wpAny_bind (wpAny_updateSeq_pair o2 fun g3 o3 b3 => ?_); replace o3 : IsPair g3 TO x b := o3; replace b3 : Heap.SameBut TO g2 g3 := b3
  refine wpAny_bind (wpAny_letGo (wpAny_pure ?_)); refine wpAny_bind (wpAny_bind (wpAny_onRaise ?_))
  show wpAny _ _ (Builtin.SmallTypes.nextOf (.ref j2) >>= _) _ _ _
  refine wpAny_bind (D2.item i _ _ _ l2 (D2.frame _ _ _ st2 fun c hc o e => b3.extBut c o (ne_mem D.o2 hc) (b2.extBut c o (ne_mem D.q1 hc) (b1.extBut c o (ne_mem D.z2 hc) e))) fun y g4 t4 py s24 b4 => wpAny_pure ?_); replace b4 : Heap.SameBut j2 g3 g4 := b4
  have o4 : IsPair g4 TO x b := b4.extBut _ _ (Ne.symm D.j2o) o3
  refine wpAny_bind (wpAny_seqItems o4 rfl ?_)
  refine wpAny_bind (wpAny_updateSeq_pair o4 fun g5 o5 b5 => ?_); replace o5 : IsPair g5 TO x y := o5; replace b5 : Heap.SameBut TO g4 g5 := b5
  refine wpAny_bind (wpAny_letGo (wpAny_pure (wpAny_pure ?_)))
  refine wpAny_bind (wpAny_seqItems o5 rfl ?_); refine wpAny_bind (wpAny_newTuple ?_)
  have sz : g5.objs.size = hp.objs.size := by rw [b5.1, b4.1, b3.1, b2.1, b1.1]
  have z5 : IsZip g5 z TI TO .ellipsis := b5.extBut _ _ (Ne.symm D.oz) (b4.extBut _ _ (Ne.symm D.j2z) (b3.extBut _ _ (Ne.symm D.oz) (b2.extBut _ _ (Ne.symm D.j1z) z1)))
  have k5 : ∀ c o, c ≠ z → c ≠ TO → c ≠ j1 → c ≠ j2 → hp.get? c = some o → g5.get? c = some o := fun c o c1 c2 c3 c4 e => b5.extBut _ _ c2 (b4.extBut _ _ c4 (b3.extBut _ _ c2 (b2.extBut _ _ c3 (b1.extBut _ _ c1 e))))
  have s15 : St1 (i + 1) g5 := D1.frame _ _ _ s12 fun c hc o e => b5.extBut c o (ne_mem D.o1 hc) (b4.extBut c o (ne_mem D.q2 hc) (b3.extBut c o (ne_mem D.o1 hc) e))
  have s25 : St2 (i + 1) g5 := D2.frame _ _ _ s24 fun c hc o e => b5.extBut c o (ne_mem D.o2 hc) e
  have zl : z < g5.objs.size := Heap.lt_size z5
  show wpAny _ _ (Builtin.SmallTypes.ownedTupleHandOut (.ref z) (.ref g5.objs.size) >>= _) _ _ _; refine wpAny_bind ?_; unfold Builtin.SmallTypes.ownedTupleHandOut
  have z6 : IsZip (g5.push { cls := .type "tuple", data := .seq #[x, y] }) z TI TO .ellipsis := Heap.get?_push_of_some _ z5
  refine wpAny_bind (wpAny_setField_rec z6 (by first | exact mm0 | exact mm1 | exact mm2 | exact mm3 | exact mm4 | exact mm5 | simp) fun g7 z7 b7 => ?_); replace z7 : IsZip g7 z TI TO (rawInt g5.objs.size) := z7
  refine wpAny_setField_rec z7 (by first | exact mm0 | exact mm1 | exact mm2 | exact mm3 | exact mm4 | exact mm5 | simp) fun g8 z8 b8 => ?_; replace z8 : IsZip g8 z TI TO (rawInt g5.objs.size) := z8
  have up : ∀ c o, c ≠ z → g5.get? c = some o → g8.get? c = some o := fun c o c1 e => b8.extBut _ _ c1 (b7.extBut _ _ c1 (Heap.get?_push_of_some _ e))
  have t8 : IsPair g8 g5.objs.size x y := b8.extBut _ _ (Nat.ne_of_gt zl) (b7.extBut _ _ (Nat.ne_of_gt zl) (Heap.get?_push_size _ rfl))
  have s8 : g8.objs.size = g5.objs.size + 1 := by rw [b8.1, b7.1, Heap.size_push]
  rw [sz] at z8 t8 s8
  refine wpAny_pure ⟨_, rfl, ?_⟩; show Q (.ref g5.objs.size) _; rw [sz]
  exact q x y g8 t4 px py z8 (up _ _ D.oz o5) (D1.frame _ _ _ s15 fun c hc o e => up c o (ne_mem D.z1 hc) e) (D2.frame _ _ _ s25 fun c hc o e => up c o (ne_mem D.z2 hc) e) t8 s8 fun c o c1 c2 c3 c4 e => up c o c1 (k5 c o c1 c2 c3 c4 e)
theorem zipD_end {Q : Fin → Shared → Prop} (D : ZApart z TI TO j1 j2 f1 f2) (D1 : Draws prog w A j1 f1 n1 P1 St1) (D2 : Draws prog w A j2 f2 n2 P2 St2) (hz : IsZip s.heap z TI TO .none) (hI : IsPair s.heap TI (.ref j1) (.ref j2)) (hO : IsPair s.heap TO a b)
    (st1 : St1 i s.heap) (st2 : St2 i s.heap) (hend : i = n1 ∨ (i < n1 ∧ i = n2))
    (q : ∀ h' e tk, (∀ c o, c ≠ z → c ≠ TO → c ≠ j1 → c ≠ j2 → s.heap.get? c = some o → h'.get? c = some o) → (∃ o, h'.get? e = some o ∧ o.cls = .type "StopIteration") → E (.ref e) { s with heap := h', toks := tk }) :
    wpAny (model prog w) A (Builtin.«zip.__next__» ⟨[.ref z], []⟩) Q E s := by
  obtain ⟨hp, gg, dd, t0, os⟩ := s
  show wpAny _ _ (field (.ref z) 2 >>= _) _ _ _; refine wpAny_bind (wpAny_field hz rfl (x := .bool false) rfl ?_)
  show wpAny _ _ (field (.ref z) 3 >>= _) _ _ _; refine wpAny_bind (wpAny_field hz rfl (x := .ref TI) rfl ?_)
  refine wpAny_bind (wpAny_seqItems hI rfl ?_)
  show wpAny _ _ (Builtin.SmallTypes.ownedTupleIsFree (.ref z) >>= _) _ _ _; refine wpAny_bind ?_; unfold Builtin.SmallTypes.ownedTupleIsFree
  refine wpAny_bind (wpAny_field hz rfl (x := .none) rfl (wpAny_pure ?_)); simp only [if_true]; refine wpAny_bind (wpAny_rule ?_)
  refine wpAny_bind (wpAny_field hz rfl (x := .ref TO) rfl ?_)
  refine wpAny_bind (wpAny_setField_rec hz (by first | exact mm0 | exact mm1 | exact mm2 | exact mm3 | exact mm4 | exact mm5 | simp) fun g1 z1 b1 => ?_); replace z1 : IsZip g1 z TI TO .ellipsis := z1; replace b1 : Heap.SameBut z hp g1 := b1
  refine wpAny_bind ?_; simp only [List.zipIdx_cons, List.zipIdx_nil, List.forIn_cons, List.forIn_nil]
  refine wpAny_bind (wpAny_bind (wpAny_onRaise ?_))
  show wpAny _ _ (Builtin.SmallTypes.nextOf (.ref j1) >>= _) _ _ _
  have s11 := D1.frame _ _ _ st1 fun c hc o e => b1.extBut c o (ne_mem D.z1 hc) e
  rcases hend with he | ⟨l1, he⟩
  · subst he
    refine wpAny_bind (D1.done _ _ _ s11 fun g2 e b2 he => ?_)
    obtain ⟨oe, hoe, hce⟩ := he
    have z2 : IsZip g2 z TI TO .ellipsis := b2 _ _ (Ne.symm D.j1z) z1
    have ez : e ≠ z := fun x => by subst x; rw [z2] at hoe; cases hoe; simp at hce
    refine wpAny_setField_rec z2 (by first | exact mm0 | exact mm1 | exact mm2 | exact mm3 | exact mm4 | exact mm5 | simp) fun g3 _ b3 => ?_
    exact q g3 e t0 (fun c o c1 _ c3 _ x => b3.extBut _ _ c1 (b2 _ _ c3 (b1.extBut _ _ c1 x))) ⟨oe, b3.extBut _ _ ez hoe, hce⟩
  · subst he
    refine wpAny_bind (D1.item i _ _ _ l1 s11 fun x g2 t2 px s12 b2 => wpAny_pure ?_); replace b2 : Heap.SameBut j1 g1 g2 := b2
    have o2 : IsPair g2 TO a b := b2.extBut _ _ (Ne.symm D.j1o) (b1.extBut _ _ D.oz hO)
    refine wpAny_bind (wpAny_seqItems o2 rfl ?_)
    refine wpAny_bind (wpAny_updateSeq_pair o2 fun g3 o3 b3 => ?_); replace b3 : Heap.SameBut TO g2 g3 := b3
    refine wpAny_bind (wpAny_letGo (wpAny_pure ?_)); refine wpAny_bind (wpAny_bind (wpAny_onRaise ?_))
    show wpAny _ _ (Builtin.SmallTypes.nextOf (.ref j2) >>= _) _ _ _
    refine wpAny_bind (D2.done _ _ _ (D2.frame _ _ _ st2 fun c hc o e => b3.extBut c o (ne_mem D.o2 hc) (b2.extBut c o (ne_mem D.q1 hc) (b1.extBut c o (ne_mem D.z2 hc) e))) fun g4 e b4 he => ?_)
    obtain ⟨oe, hoe, hce⟩ := he
    have z4 : IsZip g4 z TI TO .ellipsis := b4 _ _ (Ne.symm D.j2z) (b3.extBut _ _ (Ne.symm D.oz) (b2.extBut _ _ (Ne.symm D.j1z) z1))
    have ez : e ≠ z := fun x => by subst x; rw [z4] at hoe; cases hoe; simp at hce
    refine wpAny_setField_rec z4 (by first | exact mm0 | exact mm1 | exact mm2 | exact mm3 | exact mm4 | exact mm5 | simp) fun g5 _ b5 => ?_
    exact q g5 e t2 (fun c o c1 c2 c3 c4 x => b5.extBut _ _ c1 (b4 _ _ c4 (b3.extBut _ _ c2 (b2.extBut _ _ c3 (b1.extBut _ _ c1 x))))) ⟨oe, b5.extBut _ _ ez hoe, hce⟩
theorem zipD_next_item {Q : Option Value → Shared → Prop} (D : ZApart z TI TO j1 j2 f1 f2) (D1 : Draws prog w A.in1 j1 f1 n1 P1 St1) (D2 : Draws prog w A.in1 j2 f2 n2 P2 St2) (hz : IsZip s.heap z TI TO .none) (hI : IsPair s.heap TI (.ref j1) (.ref j2)) (hO : IsPair s.heap TO a b)
    (st1 : St1 i s.heap) (st2 : St2 i s.heap) (l1 : i < n1) (l2 : i < n2)
    (q : ∀ x y h' tk, P1 i x → P2 i y → IsZip h' z TI TO (rawInt s.heap.objs.size) → IsPair h' TO x y → St1 (i + 1) h' → St2 (i + 1) h' → IsPair h' s.heap.objs.size x y → h'.objs.size = s.heap.objs.size + 1 →
      (∀ c o, c ≠ z → c ≠ TO → c ≠ j1 → c ≠ j2 → s.heap.get? c = some o → h'.get? c = some o) → Q (some (.ref s.heap.objs.size)) { s with heap := h', toks := tk }) :
    wpAny (model prog w) A (pyNext (.ref z)) Q E s := by
  have hT : s.TypeIs (.ref z) "zip" := ⟨_, hz, rfl⟩
  unfold pyNext
  exact wpAny_bind (wpAny_attempt (wpAny_callSpecial?_slot (name := Str.ofString "__next__") hT F.slot_zip_next (wpAny_call_entry F.slot_zip_next hT F.entry_zip_next
      (zipD_item D D1 D2 hz hI hO st1 st2 l1 l2 fun x y h' tk a1 a2 a3 a4 a5 a6 a7 a8 a9 => wpAny_pure (q x y h' tk a1 a2 a3 a4 a5 a6 a7 a8 a9)) (F.args_zip_next_1 _))))
theorem zipD_next_end {Q : Option Value → Shared → Prop} (D : ZApart z TI TO j1 j2 f1 f2) (D1 : Draws prog w A.in1 j1 f1 n1 P1 St1) (D2 : Draws prog w A.in1 j2 f2 n2 P2 St2) (hz : IsZip s.heap z TI TO .none) (hI : IsPair s.heap TI (.ref j1) (.ref j2)) (hO : IsPair s.heap TO a b)
    (st1 : St1 i s.heap) (st2 : St2 i s.heap) (hend : i = n1 ∨ (i < n1 ∧ i = n2))
    (q : ∀ h' tk, (∀ c o, c ≠ z → c ≠ TO → c ≠ j1 → c ≠ j2 → s.heap.get? c = some o → h'.get? c = some o) → Q none { s with heap := h', toks := tk }) : wpAny (model prog w) A (pyNext (.ref z)) Q E s := by
  have hT : s.TypeIs (.ref z) "zip" := ⟨_, hz, rfl⟩
  unfold pyNext
  refine wpAny_bind (wpAny_attempt (wpAny_callSpecial?_slot (name := Str.ofString "__next__") hT F.slot_zip_next (wpAny_call_entry F.slot_zip_next hT F.entry_zip_next (zipD_end D D1 D2 hz hI hO st1 st2 hend fun h' e tk hk he => ?_) (F.args_zip_next_1 _))))
  obtain ⟨o, ho, hc⟩ := he
  refine wpAny_bind (wpAny_isInstance (T := "StopIteration") (b := true) ⟨o, ho, hc⟩ isSubtype_stop ?_)
  exact wpAny_pure (q _ _ hk)
end
theorem call_zipK {prog : Program} {w : World} {A : Around} {E : Value → Shared → Prop} {s : Shared} (b b' : Bool) {l m : Addr} {xs ys : Array Value} {Q : Value → Shared → Prop} (x1 : SqAt b s.heap l xs) (x2 : SqAt b' s.heap m ys)
    (q : ∀ h', IsZip h' (s.heap.objs.size + 4) (s.heap.objs.size + 2) (s.heap.objs.size + 3) .none → IsPair h' (s.heap.objs.size + 2) (.ref s.heap.objs.size) (.ref (s.heap.objs.size + 1)) →
      IsPair h' (s.heap.objs.size + 3) .none .none → ItAt b h' s.heap.objs.size l 0 → ItAt b' h' (s.heap.objs.size + 1) m 0 → h'.objs.size = s.heap.objs.size + 5 →
      (∀ c o, s.heap.get? c = some o → h'.get? c = some o) → Q (.ref (s.heap.objs.size + 4)) { s with heap := h' }) :
    wpAny (model prog w) A (call (.type "zip") [.ref l, .ref m]) Q E s := by
  refine callType_new F.called_zip (by decide) (F.typeCall_zip_2 _ _) (F.newCall_zip_2 _ _) (fun obj => F.args_object_init_3 obj _ _) F.entry_zip_new (zip_new b b' l m xs ys) ⟨x1, x2, ?_⟩
  have y1 : (zz1 b s.heap l).objs.size = s.heap.objs.size + 1 := Heap.size_push ..
  have y2 : (zz2 b b' s.heap l m).objs.size = s.heap.objs.size + 2 := by rw [Heap.size_push, y1]
  have y3 : (zz3 b b' s.heap l m).objs.size = s.heap.objs.size + 3 := by rw [Heap.size_push, y2]
  have y4 : (zz4 b b' s.heap l m).objs.size = s.heap.objs.size + 4 := by rw [Heap.size_push, y3]
  have y5 : (zz5 b b' s.heap l m).objs.size = s.heap.objs.size + 5 := by rw [Heap.size_push, y4]
  have fr : ∀ b l, (itObj b l).isFreed = false := fun b l => by cases b <;> rfl
  have g5 : (zz5 b b' s.heap l m).get? (zz4 b b' s.heap l m).objs.size = some _ := Heap.get?_push_size _ rfl
  have g4 : (zz5 b b' s.heap l m).get? (zz3 b b' s.heap l m).objs.size = some _ := Heap.get?_push_of_some _ (Heap.get?_push_size _ rfl)
  have g3 : (zz5 b b' s.heap l m).get? (zz2 b b' s.heap l m).objs.size = some _ := Heap.get?_push_of_some _ (Heap.get?_push_of_some _ (Heap.get?_push_size _ rfl))
  have g2 : (zz5 b b' s.heap l m).get? (zz1 b s.heap l).objs.size = some _ := Heap.get?_push_of_some _ (Heap.get?_push_of_some _ (Heap.get?_push_of_some _ (Heap.get?_push_size _ (fr b' m))))
  have g1 : (zz5 b b' s.heap l m).get? s.heap.objs.size = some _ := Heap.get?_push_of_some _ (Heap.get?_push_of_some _ (Heap.get?_push_of_some _ (Heap.get?_push_of_some _ (Heap.get?_push_size _ (fr b l)))))
  show _ ∧ _
  rw [y2, y3, y4] at g5; rw [y1, y2] at g3; rw [y3] at g4; rw [y1] at g2; rw [y4]
  exact ⟨⟨_, g5, rfl⟩, q _ g5 g3 g4 (itObj_at g1) (itObj_at g2) y5 fun c o x => Heap.get?_push_of_some _ (Heap.get?_push_of_some _ (Heap.get?_push_of_some _ (Heap.get?_push_of_some _ (Heap.get?_push_of_some _ x))))⟩
end L2

namespace L2
open PySem PySem.Spec PyProof.Rows
noncomputable def SqK (b : Bool) (K : PySem.W.Frag) (H : Hp) (a : Addr) (xs : List V) : Prop := match b with | true => SqT K H a xs | false => SqL K H a xs
section
variable {X : Cx} {pins : List (Addr × Obj)} {σ : St} {H : Hp} {s : Shared} {a c : Addr} {xs ys : List V} {b : Bool} {h' : Heap}
theorem Inv.seqK (I : Inv X pins σ H s) (h : SqK b X.K H a xs) : ∃ its : List Value, Vals xs its ∧ SqAt b s.heap a its.toArray ∧ xs.length ≤ sizeLine := by
  cases b with
  | true => exact let ⟨its, r, p, z⟩ := I.tuple h; ⟨its, r, p, z⟩
  | false => exact let ⟨its, r, p, z⟩ := I.list h; ⟨its, r, p.isList, z⟩
theorem Inv.seqK_inj (I : Inv X pins σ H s) (h : SqK b X.K H a xs) (h' : SqK b X.K H a ys) : xs = ys := by
  cases b with
  | true => exact I.tuple_inj h h'
  | false => exact I.list_inj h h'
theorem SqK.kp {K : PySem.W.Frag} {H' : Hp} (h : SqK b K H a xs) (k : Kp [] H H') : SqK b K H' a xs := by
  cases b with
  | true =>
    rcases h with (q | ⟨o, q⟩) | q
    · exact .inl (.inl (k _ _ q (by first | exact mm0 | exact mm1 | exact mm2 | exact mm3 | exact mm4 | exact mm5 | simp)))
    · exact .inl (.inr ⟨o, k _ _ q (by first | exact mm0 | exact mm1 | exact mm2 | exact mm3 | exact mm4 | exact mm5 | simp)⟩)
    · exact .inr q
  | false =>
    rcases h with (q | ⟨o, q⟩) | q
    · exact .inl (.inl (k _ _ q (by first | exact mm0 | exact mm1 | exact mm2 | exact mm3 | exact mm4 | exact mm5 | simp)))
    · exact .inl (.inr ⟨o, k _ _ q (by first | exact mm0 | exact mm1 | exact mm2 | exact mm3 | exact mm4 | exact mm5 | simp)⟩)
    · exact .inr q
theorem Inv.seqK_ne (I : Inv X pins σ H s) (h : SqK b X.K H a xs) (f : FpOk X pins H c) : a ≠ c := by
  have base : ∀ o, X.K.lookup a = some o → a ≠ c := fun o hk e => by
    have e1 := I.ok.mod.kin a o hk
    rcases f.2.2.2.1 with z | z
    · exact I.ok.noex a o e1 (e ▸ z)
    · exact absurd (Nat.lt_of_lt_of_le (Heap.lt_size e1) (Nat.le_trans I.ok.bsz (e ▸ z))) (Nat.lt_irrefl _)
  cases b with
  | true =>
    rcases h with (q | ⟨o, q⟩) | ⟨o, _, _, hk, _⟩
    · exact ne_of_none q f.1
    · exact ne_of_none q f.1
    · exact base o hk
  | false =>
    rcases h with (q | ⟨o, q⟩) | ⟨o, _, _, hk, _⟩
    · exact ne_of_none q f.1
    · exact ne_of_none q f.1
    · exact base o hk
theorem Inv.turnedL {t' : Nat} {fp : List Addr} (I : Inv X pins σ H s) (k : ∀ b o, b ∉ fp → s.heap.get? b = some o → h'.get? b = some o) (hf : ∀ b ∈ fp, FpOk X pins H b) : Inv X pins σ H { s with heap := h', toks := t' } := by
  refine I.step (g' := s.gens) (d' := s.drawn) (ch := fp) (fun b hb => ⟨(hf b hb).2.2.2.1, (hf b hb).2.1, (hf b hb).2.2.2.2.1, (hf b hb).2.2.2.2.2⟩) (fun b o _ _ hc e _ => k b o hc e) (fun b o _ _ hc e _ => ⟨o.slots, k b o hc e⟩) (fun _ _ _ _ n => n)
    (fun b o hc e => ⟨o, k b o hc e⟩) (fun _ _ e => e) (fun _ _ _ e => e) (fun b ps e => ⟨#[], by rw [e]; simp⟩) (fun m hm => ?_) (fun b u e => ?_) I.bare
  · obtain ⟨o, es, ep, ho, r⟩ := hm
    exact ⟨o, es, ep, k _ o (fun z => (hf _ z).2.1 rfl) ho, r⟩
  · refine (I.hok b u e).stay (fun c v hc q => k c v (fun z => ?_) q) (fun _ q => q) fun _ _ q => q
    have hn := (hf c z).1
    rcases hc with hc | hc
    · rw [hc, e] at hn; cases hn
    · rw [hc] at hn; cases hn
theorem Inv.turnLay {t' : Nat} {fp : List Addr} {p : Addr} {o : HO} (I : Inv X pins σ H s) (k : ∀ b o, b ∉ fp → s.heap.get? b = some o → h'.get? b = some o) (hf : ∀ b ∈ fp, FpOk X pins H b)
    (hp : s.heap.objs.size ≤ p) (new : ObjOk X.prog X.w (upd H p o) h' p o) : Inv X pins σ (upd H p o) { s with heap := h', toks := t' } := by
  have hn := I.hok.fresh hp
  refine I.step (g' := s.gens) (d' := s.drawn) (ch := fp) (fun b hb => ⟨(hf b hb).2.2.2.1, (hf b hb).2.1, (hf b hb).2.2.2.2.1, (hf b hb).2.2.2.2.2⟩) (fun b o _ _ hc e _ => k b o hc e) (fun b o _ _ hc e _ => ⟨o.slots, k b o hc e⟩) (fun b ob _ e n => ?_)
    (fun b o hc e => ⟨o, k b o hc e⟩) (fun b xs e => ?_) (fun b _ _ e => ?_) (fun b ps e => ⟨#[], ?_⟩) (fun m hm => ?_) (fun b u e => ?_) I.bare
  · have hbp : b ≠ p := Nat.ne_of_lt (Nat.lt_of_lt_of_le (Heap.lt_size e) hp); rw [upd_ne hbp]; exact n
  · rw [upd_ne (ne_of_none e hn)]; exact e
  · rw [upd_ne (ne_of_none e hn)]; exact e
  · rw [upd_ne (ne_of_none e hn)]; simpa using e
  · obtain ⟨o, es, ep, ho, r⟩ := hm
    exact ⟨o, es, ep, k _ o (fun z => (hf _ z).2.1 rfl) ho, r⟩
  · by_cases hb : b = p
    · subst hb
      rw [upd_same] at e; cases e
      exact new
    · rw [upd_ne hb] at e
      refine (I.hok b u e).stay (fun c v hc q => k c v (fun z => ?_) q) (fun c q => by rw [upd_ne (ne_of_none q hn)]; exact q) fun c _ q => by rw [upd_ne (ne_of_none q hn)]; exact q
      have hn := (hf c z).1
      rcases hc with hc | hc
      · rw [hc, e] at hn; cases hn
      · rw [hc] at hn; cases hn
end
noncomputable def Itz (b b' : Bool) (K : PySem.W.Frag) (a c : Addr) : It :=
  ⟨fun i H => ∃ xs ys x y, SqK b K H a xs ∧ SqK b' K H c ys ∧ xs[i]? = some x ∧ ys[i]? = some y, fun i H v H' => ∃ p x y, H p = none ∧ H' = upd H p (.tup [x, y]) ∧ v = .ref p ∧ (∀ xs, SqK b K H a xs → xs[i]? = some x) ∧ ∀ ys, SqK b' K H c ys → ys[i]? = some y,
   fun i H => ∃ xs ys, SqK b K H a xs ∧ SqK b' K H c ys ∧ min xs.length ys.length = i⟩
theorem turn_zip {P : Program} {w : World} {K : PySem.W.Frag} {es : List Expr} {kk : Nat} {tp : Pos} (b b' : Bool) (a c z TI TO j1 j2 : Addr) (dz : [z, TI, TO, j1, j2].Nodup) :
    Turn P w K (.Tuple es kk tp) (Itz b b' K a c) [z, TI, TO, j1, j2] z (fun i h => IsZip h z TI TO .none ∧ IsPair h TI (.ref j1) (.ref j2) ∧ (∃ u v, IsPair h TO u v) ∧ ItAt b h j1 a i ∧ ItAt b' h j2 c i) where
  mem := by simp
  obj := fun i h st d hd => by
    obtain ⟨hz, hI, ⟨u, v, hO⟩, h1, h2⟩ := st
    have notup : ∀ (o : Obj) {w : Value} {vs : Array Value} {n : Nat}, o.data = .seq vs n → o.data ≠ .cell w := fun o w vs n e z => by rw [e] at z; cases z
    rcases List.mem_cons.mp hd with rfl | hd
    · exact ⟨_, hz, fun v z => by have z' : Data.fields _ = Data.cell v := z; cases z'⟩
    · rcases List.mem_cons.mp hd with rfl | hd
      · exact ⟨_, hI, fun w z => by have z' : Data.seq _ _ = Data.cell w := z; cases z'⟩
      · rcases List.mem_cons.mp hd with rfl | hd
        · exact ⟨_, hO, fun w z => by have z' : Data.seq _ _ = Data.cell w := z; cases z'⟩
        · rcases List.mem_cons.mp hd with rfl | hd
          · exact h1.obj
          · rw [List.mem_singleton.mp hd]; exact h2.obj
  keep := fun i h h' st k => by
    obtain ⟨hz, hI, ⟨u, v, hO⟩, h1, h2⟩ := st
    exact ⟨k z (by first | exact mm0 | exact mm1 | exact mm2 | exact mm3 | exact mm4 | exact mm5 | simp) _ hz, k TI (by first | exact mm0 | exact mm1 | exact mm2 | exact mm3 | exact mm4 | exact mm5 | simp) _ hI, ⟨u, v, k TO (by first | exact mm0 | exact mm1 | exact mm2 | exact mm3 | exact mm4 | exact mm5 | simp) _ hO⟩, h1.at fun o q => k j1 (by first | exact mm0 | exact mm1 | exact mm2 | exact mm3 | exact mm4 | exact mm5 | simp) o q, h2.at fun o q => k j2 (by first | exact mm0 | exact mm1 | exact mm2 | exact mm3 | exact mm4 | exact mm5 | simp) o q⟩
  item := by
    intro X hP hw hK hc i pins s σ H E I hf st hg
    subst hP hw hK
    obtain ⟨xs, ys, x, y, hq, hq', hx, hy⟩ := hg
    obtain ⟨its, rv, p, _⟩ := I.seqK hq
    obtain ⟨its', rv', p', _⟩ := I.seqK hq'
    obtain ⟨u, hu, ru⟩ := rv.get hx
    obtain ⟨u', hu', ru'⟩ := rv'.get hy
    obtain ⟨hz, hI, ⟨o1, o2, hO⟩, h1, h2⟩ := st
    have na := fun d hd => I.seqK_ne hq (hf d hd)
    have na' := fun d hd => I.seqK_ne hq' (hf d hd)
    simp only [List.nodup_cons, List.mem_cons, List.not_mem_nil, or_false, not_or] at dz
    obtain ⟨⟨d1, d2, d3, d4⟩, ⟨d5, d6, d7⟩, ⟨d8, d9⟩, d10, _⟩ := dz
    have hlt : i < its.toArray.size := by have := (List.getElem?_eq_some_iff.mp hu).1; simpa using this
    have hlt' : i < its'.toArray.size := by have := (List.getElem?_eq_some_iff.mp hu').1; simpa using this
    have D : ZApart z TI TO j1 j2 [j1, a] [j2, c] := ⟨by simp, by simp, by simp; exact ⟨d3, Ne.symm (na z (by first | exact mm0 | exact mm1 | exact mm2 | exact mm3 | exact mm4 | exact mm5 | simp))⟩, by simp; exact ⟨d4, Ne.symm (na' z (by first | exact mm0 | exact mm1 | exact mm2 | exact mm3 | exact mm4 | exact mm5 | simp))⟩, by simp; exact ⟨d8, Ne.symm (na TO (by first | exact mm0 | exact mm1 | exact mm2 | exact mm3 | exact mm4 | exact mm5 | simp))⟩, by simp; exact ⟨d9, Ne.symm (na' TO (by first | exact mm0 | exact mm1 | exact mm2 | exact mm3 | exact mm4 | exact mm5 | simp))⟩,
      by simp; exact ⟨d10, Ne.symm (na' j1 (by first | exact mm0 | exact mm1 | exact mm2 | exact mm3 | exact mm4 | exact mm5 | simp))⟩, by simp; exact ⟨Ne.symm d10, Ne.symm (na j2 (by first | exact mm0 | exact mm1 | exact mm2 | exact mm3 | exact mm4 | exact mm5 | simp))⟩, Ne.symm d1, d5, d6, d7, Ne.symm d2⟩
    refine zipD_next_item D (draws_of b (A := X.A.in1) (I.ok.hd hc) j1 a (na j1 (by first | exact mm0 | exact mm1 | exact mm2 | exact mm3 | exact mm4 | exact mm5 | simp)) its.toArray) (draws_of b' (A := X.A.in1) (I.ok.hd hc) j2 c (na' j2 (by first | exact mm0 | exact mm1 | exact mm2 | exact mm3 | exact mm4 | exact mm5 | simp)) its'.toArray) hz hI hO ⟨h1, p⟩ ⟨h2, p'⟩ hlt hlt' fun v v' g1 tk e1 e2 z1 O1 s1 s2 T1 sz1 k1 => ?_
    have ev : v = u := by
      have e1 : its.toArray[i]? = some v := e1
      have : its[i]? = some v := by simpa using e1
      rw [hu] at this; exact (Option.some.inj this).symm
    have ev' : v' = u' := by
      have e2 : its'.toArray[i]? = some v' := e2
      have : its'[i]? = some v' := by simpa using e2
      rw [hu'] at this; exact (Option.some.inj this).symm
    subst ev ev'
    refine ⟨_, rfl, wpAny_letOwnedTupleGo_zip z1 fun g2 z2 b2 => ?_⟩
    replace b2 : Heap.SameBut z g1 g2 := b2
    have hzs : z < s.heap.objs.size := Heap.lt_size hz
    have kk : ∀ d o, d ∉ [z, TI, TO, j1, j2] → s.heap.get? d = some o → g2.get? d = some o := fun d o hd q => by
      have h1' : d ≠ z := (by first | exact mn0 hd | exact mn1 hd | exact mn2 hd | exact mn3 hd | exact mn4 hd | exact mn5 hd)
      exact b2.extBut _ _ h1' (k1 d o h1' (by first | exact mn0 hd | exact mn1 hd | exact mn2 hd | exact mn3 hd | exact mn4 hd | exact mn5 hd) (by first | exact mn0 hd | exact mn1 hd | exact mn2 hd | exact mn3 hd | exact mn4 hd | exact mn5 hd) (by first | exact mn0 hd | exact mn1 hd | exact mn2 hd | exact mn3 hd | exact mn4 hd | exact mn5 hd) q)
    refine ⟨.ref s.heap.objs.size, upd H s.heap.objs.size (.tup [x, y]), I.turnLay (t' := tk) kk hf (Nat.le_refl _) ?_, rfl, ⟨_, x, y, I.hok.fresh (Nat.le_refl _), rfl, rfl, fun zs hy => by rw [I.seqK_inj hy hq]; exact hx, fun zs hy' => by rw [I.seqK_inj hy' hq']; exact hy⟩,
      ⟨z2, b2.extBut _ _ (Ne.symm d1) (k1 _ _ (Ne.symm d1) d5 d6 d7 hI), ⟨_, _, b2.extBut _ _ (Ne.symm d2) O1⟩, s1.1.at fun o q => b2.extBut _ _ (Ne.symm d3) q, s2.1.at fun o q => b2.extBut _ _ (Ne.symm d4) q⟩, fun d hd => ?_⟩
    · exact ⟨by simp [sizeLine_eq], [v, v'], .cons ru (.cons ru' .nil), _, b2.extBut _ _ (Nat.ne_of_gt hzs) T1, rfl, 0, rfl⟩
    · have lt : d < s.heap.objs.size := by
        rcases List.mem_cons.mp hd with rfl | hd
        · exact hzs
        · rcases List.mem_cons.mp hd with rfl | hd
          · exact Heap.lt_size hI
          · rcases List.mem_cons.mp hd with rfl | hd
            · exact Heap.lt_size hO
            · rcases List.mem_cons.mp hd with rfl | hd
              · obtain ⟨o, q, _⟩ := h1.obj; exact Heap.lt_size q
              · rw [List.mem_singleton.mp hd]; obtain ⟨o, q, _⟩ := h2.obj; exact Heap.lt_size q
      rw [upd_ne (Nat.ne_of_lt lt)]
      exact (hf d hd).1
  done := by
    intro X hP hw hK hc i pins s σ H E I hf st hg
    subst hP hw hK
    obtain ⟨xs, ys, hq, hq', hm⟩ := hg
    obtain ⟨its, rv, p, _⟩ := I.seqK hq
    obtain ⟨its', rv', p', _⟩ := I.seqK hq'
    obtain ⟨hz, hI, ⟨o1, o2, hO⟩, h1, h2⟩ := st
    have na := fun d hd => I.seqK_ne hq (hf d hd)
    have na' := fun d hd => I.seqK_ne hq' (hf d hd)
    simp only [List.nodup_cons, List.mem_cons, List.not_mem_nil, or_false, not_or] at dz
    obtain ⟨⟨d1, d2, d3, d4⟩, ⟨d5, d6, d7⟩, ⟨d8, d9⟩, d10, _⟩ := dz
    have D : ZApart z TI TO j1 j2 [j1, a] [j2, c] := ⟨by simp, by simp, by simp; exact ⟨d3, Ne.symm (na z (by first | exact mm0 | exact mm1 | exact mm2 | exact mm3 | exact mm4 | exact mm5 | simp))⟩, by simp; exact ⟨d4, Ne.symm (na' z (by first | exact mm0 | exact mm1 | exact mm2 | exact mm3 | exact mm4 | exact mm5 | simp))⟩, by simp; exact ⟨d8, Ne.symm (na TO (by first | exact mm0 | exact mm1 | exact mm2 | exact mm3 | exact mm4 | exact mm5 | simp))⟩, by simp; exact ⟨d9, Ne.symm (na' TO (by first | exact mm0 | exact mm1 | exact mm2 | exact mm3 | exact mm4 | exact mm5 | simp))⟩,
      by simp; exact ⟨d10, Ne.symm (na' j1 (by first | exact mm0 | exact mm1 | exact mm2 | exact mm3 | exact mm4 | exact mm5 | simp))⟩, by simp; exact ⟨Ne.symm d10, Ne.symm (na j2 (by first | exact mm0 | exact mm1 | exact mm2 | exact mm3 | exact mm4 | exact mm5 | simp))⟩, Ne.symm d1, d5, d6, d7, Ne.symm d2⟩
    have hl := rv.length
    have hl' := rv'.length
    refine zipD_next_end D (draws_of b (A := X.A.in1) (I.ok.hd hc) j1 a (na j1 (by first | exact mm0 | exact mm1 | exact mm2 | exact mm3 | exact mm4 | exact mm5 | simp)) its.toArray) (draws_of b' (A := X.A.in1) (I.ok.hd hc) j2 c (na' j2 (by first | exact mm0 | exact mm1 | exact mm2 | exact mm3 | exact mm4 | exact mm5 | simp)) its'.toArray) hz hI hO ⟨h1, p⟩ ⟨h2, p'⟩ (by simp; omega) fun g1 tk k1 => ⟨rfl, ?_⟩
    exact I.turnedL (t' := tk) (fun d o hd q => k1 d o (by first | exact mn0 hd | exact mn1 hd | exact mn2 hd | exact mn3 hd | exact mn4 hd | exact mn5 hd) (by first | exact mn0 hd | exact mn1 hd | exact mn2 hd | exact mn3 hd | exact mn4 hd | exact mn5 hd) (by first | exact mn0 hd | exact mn1 hd | exact mn2 hd | exact mn3 hd | exact mn4 hd | exact mn5 hd) (by first | exact mn0 hd | exact mn1 hd | exact mn2 hd | exact mn3 hd | exact mn4 hd | exact mn5 hd) q) hf
  self := fun _ _ _ _ _ st q => wpAny_pyIter_zip st.1 q
section
variable {X : Cx} {es : List Expr} {kk : Nat} {tp : Pos}
noncomputable def iZip (K : PySem.W.Frag) (ta : TA) : TI := fun σ H R => ta σ H fun vs H1 => ∃ b b' l m xs ys, vs = [.ref l, .ref m] ∧ SqK b K H1 l xs ∧ SqK b' K H1 m ys ∧ R (Itz b b' K l m) H1
theorem pi_zip {a b : Expr} {ta : TA} {p pos : Pos} (hg : Gl X "zip") (hm : X.mg "zip" = none) (ha : PA X [a, b] ta) (hs : starEach [a, b] X.env = [(false, eval a X.env), (false, eval b X.env)] := by rfl) (hs2 : starEach [b] X.env = [(false, eval b X.env)] := by rfl) :
    PI X (.Tuple es kk tp) (.Call (.Name "zip" p) [a, b] [] pos) (iZip X.K ta) := by
  intro pins s σ H R I h
  refine Call_ (ld_blt I hg hm boot_zip (PyProof.Rows.callWith_type1 (thn (ha pos pins s σ H _ I h) fun us s1 ⟨vs, H1, I1, r1, q1⟩ => ?_) (by rw [hs, hs2]) (by rw [hs2]; rfl)))
  obtain ⟨b, b', l, m, xs, ys, e, hq, hq', q⟩ := q1
  subst e
  obtain ⟨u, u', rfl, ru, ru'⟩ := vals2 r1
  cases ru
  cases ru'
  obtain ⟨its, rv, p, _⟩ := I1.seqK hq
  obtain ⟨its', rv', p', _⟩ := I1.seqK hq'
  refine call_zipK b b' p p' fun h1 hz hI hO i1 i2 hsz hk => wpAny_pyIter_zip hz ?_
  refine ⟨_, [s1.heap.objs.size + 4, s1.heap.objs.size + 2, s1.heap.objs.size + 3, s1.heap.objs.size, s1.heap.objs.size + 1], _, _, H1, rfl, I1.kept (t' := s1.toks) hk, turn_zip b b' l m _ _ _ _ _ (by first | exact mm0 | exact mm1 | exact mm2 | exact mm3 | exact mm4 | exact mm5 | simp), ⟨hz, hI, ⟨_, _, hO⟩, i1, i2⟩, fun c hc => ?_, q⟩
  have hc' : s1.heap.objs.size ≤ c := by
    simp only [List.mem_cons, List.not_mem_nil, or_false] at hc
    rcases hc with rfl | rfl | rfl | rfl | rfl
    · exact Nat.le_add_right _ _
    · exact Nat.le_add_right _ _
    · exact Nat.le_add_right _ _
    · exact Nat.le_refl _
    · exact Nat.le_add_right _ _
  exact I1.fpOk hc' (I1.hok.fresh hc')
end
end L2

namespace L2
open PySem PySem.Spec PyProof.Rows
noncomputable abbrev gTwo (K : PySem.W.Frag) : TG := gTup K 2 (gCons (gName 0) (gCons (gName 1) gNil))
section
variable {X : Cx} {pos : Pos} {k : Nat}
noncomputable abbrev Sto (X : Cx) (i : Nat) (x : Str) : Prop := X.N[i]? = some x ∧ Loc X.env.scope x ∧ (X.fn x = true ∨ X.env.scope.names.lookup x = some .local)
theorem pg_pair {K' : PySem.W.Frag} {i j : Nat} {x y : Str} {px py : Pos} (hc : X.calm = true) (hN : X.N.Nodup) (hx : Sto X i x) (hy : Sto X j y) (hK : X.K = K') : PG X (.Tuple [.Name x px, .Name y py] k pos) (gTup K' 2 (gCons (gName i) (gCons (gName j) gNil))) :=
  hK ▸ pg_tup hc (pgs_cons (pg_name hN hx.1 hx.2.1 hx.2.2) (pgs_cons (pg_name hN hy.1 hy.2.1 hy.2.2) pgs_nil))
theorem pg_trio {K' : PySem.W.Frag} {i j m : Nat} {x y z : Str} {px py pz : Pos} (hc : X.calm = true) (hN : X.N.Nodup) (hx : Sto X i x) (hy : Sto X j y) (hz : Sto X m z) (hK : X.K = K') : PG X (.Tuple [.Name x px, .Name y py, .Name z pz] k pos) (gTup K' 3 (gCons (gName i) (gCons (gName j) (gCons (gName m) gNil)))) :=
  hK ▸ pg_tup hc (pgs_cons (pg_name hN hx.1 hx.2.1 hx.2.2) (pgs_cons (pg_name hN hy.1 hy.2.1 hy.2.2) (pgs_cons (pg_name hN hz.1 hz.2.1 hz.2.2) pgs_nil)))
end
noncomputable def CW2 (n : Nat) (l : Addr) (fr : St) (Pv : Nat → List V → Hp → Prop) (i m : Nat) (σ : St) (H : Hp) : Prop := i ≤ n ∧ m = n - i ∧ ∃ o o' ys, σ = o :: o' :: fr ∧ H l = some (.lst ys) ∧ Pv i ys H
noncomputable def CNext2 (n : Nat) (l : Addr) (fr : St) (Pv : Nat → List V → Hp → Prop) (i : Nat) (x x' : V) : VK := fun y H4 =>
  ∃ xs, H4 l = some (.lst xs) ∧ xs.length < sizeLine ∧ ∃ m', m' < n - i ∧ CW2 n l fr Pv (i + 1) m' (some x :: some x' :: fr) (upd H4 l (.lst (xs ++ [y])))
noncomputable def CSkip2 (n : Nat) (l : Addr) (fr : St) (Pv : Nat → List V → Hp → Prop) (i : Nat) (x x' : V) (H3 : Hp) : Prop := ∃ m', m' < n - i ∧ CW2 n l fr Pv (i + 1) m' (some x :: some x' :: fr) H3
theorem CNext2.intro {n : Nat} {l : Addr} {fr : St} {Pv : Nat → List V → Hp → Prop} {i : Nat} {x x' y : V} {H4 : Hp} {ys : List V} (hi : i < n) (h1 : H4 l = some (.lst ys)) (h2 : ys.length < sizeLine) (h3 : Pv (i + 1) (ys ++ [y]) (upd H4 l (.lst (ys ++ [y])))) : CNext2 n l fr Pv i x x' y H4 :=
  ⟨ys, h1, h2, n - (i + 1), by omega, by omega, rfl, _, _, _, rfl, upd_same, h3⟩
theorem comp2 {K : PySem.W.Frag} {J : It} {tt : TT} {te : TE} {l : Addr} {fr : St} {o0 o1 : Option V} {H0 : Hp} {Q : Hp → Prop} (n : Nat) (Pv : Nat → List V → Hp → Prop) (h0 : Pv 0 [] H0) (hl0 : H0 l = some (.lst []))
    (hgo : ∀ i H ys, i < n → Pv i ys H → H l = some (.lst ys) → J.go i H) (hstop : ∀ H ys, Pv n ys H → H l = some (.lst ys) → J.stop n H)
    (step : ∀ i H ys v H', i < n → Pv i ys H → H l = some (.lst ys) → J.yld i H v H' → ∃ a x x', v = .ref a ∧ SqT K H' a [x, x'] ∧ tt (some x :: some x' :: fr) H' fun c H3 =>
      if c = true then te (some x :: some x' :: fr) H3 (CNext2 n l fr Pv i x x') else CSkip2 n l fr Pv i x x' H3)
    (fin : ∀ H ys, Pv n ys H → H l = some (.lst ys) → Q H) :
    cTurns J (gTwo K) tt te l (o0 :: o1 :: fr) H0 Q := by
  refine ⟨CW2 n l fr Pv, ⟨n, Nat.zero_le _, rfl, o0, o1, [], rfl, hl0, h0⟩, ?_⟩
  rintro i m σ H ⟨hi, rfl, o, o', ys, rfl, hl, hp⟩
  rcases Nat.lt_or_ge i n with h | h
  · refine .inr ⟨hgo i H ys h hp hl, fun v H' y => ?_⟩
    obtain ⟨a, x, x', rfl, hq, st⟩ := step i H ys v H' h hp hl y
    exact ⟨a, [x, x'], rfl, hq, rfl, _, _, rfl, _, _, rfl, rfl, st⟩
  · have e : i = n := by omega
    subst e
    exact .inl ⟨hstop H ys hp hl, fin H ys hp hl⟩
theorem comp2_zip {K : PySem.W.Frag} {b b' : Bool} {a c : Addr} {xs xs' : List V} {te : TE} {l : Addr} {fr : St} {o0 o1 : Option V} {H1 : Hp} {Q : Hp → Prop} (fe : Nat → V) (hq : SqK b K H1 a xs) (hq' : SqK b' K H1 c xs') (n : Nat) (hn : min xs.length xs'.length = n) (hz : n ≤ sizeLine) (hl0 : H1 l = none)
    (step : ∀ i x x' H (N : VK), i < n → xs[i]? = some x → xs'[i]? = some x' → Kp [] H1 H → (∀ H4, Kp [] H H4 → N (fe i) H4) → te (some x :: some x' :: fr) H N)
    (fin : ∀ H, Kp [] H1 H → H l = some (.lst ((List.range n).map fe)) → Q H) :
    cTurns (Itz b b' K a c) (gTwo K) tNoTest te l (o0 :: o1 :: fr) (upd H1 l (.lst [])) Q := by
  refine comp2 n (CPure H1 fe) ⟨Kp.new hl0 _, rfl⟩ upd_same (fun i H ys hi p _ => ⟨xs, xs', xs[i]'(by omega), xs'[i]'(by omega), hq.kp p.1, hq'.kp p.1, List.getElem?_eq_getElem _, List.getElem?_eq_getElem _⟩) (fun H ys p _ => ⟨xs, xs', hq.kp p.1, hq'.kp p.1, hn⟩) (fun i H ys v H' hi p hl y => ?_) fun H ys p hl => ?_
  · obtain ⟨t, x, x', ht, rfl, rfl, hx, hx'⟩ := y
    obtain ⟨k1, rfl⟩ := p
    have hx := hx xs (hq.kp k1)
    have hx' := hx' xs' (hq'.kp k1)
    have k2 : Kp [] H (upd H t (.tup [x, x'])) := Kp.new ht _
    refine ⟨t, x, x', rfl, SqT.of upd_same, noTest (iteT (step i x x' _ _ hi hx hx' (k1.trans k2) fun H4 k4 => ?_))⟩
    refine CNext2.intro hi (k4 _ _ (k2 _ _ hl (by first | exact mm0 | exact mm1 | exact mm2 | exact mm3 | exact mm4 | exact mm5 | simp)) (by first | exact mm0 | exact mm1 | exact mm2 | exact mm3 | exact mm4 | exact mm5 | simp)) (by simp; omega) ⟨fun d o e n => ?_, ?_⟩
    · rw [upd_ne (ne_of_none e hl0)]; exact k4 _ _ (k2 _ _ (k1 _ _ e n) n) n
    · rw [List.range_succ, List.map_append]; rfl
  · obtain ⟨k1, rfl⟩ := p
    exact fin H k1 hl
end L2

namespace My
open PySem PySem.Spec PyProof.Rows L2
mutual
noncomputable def alikeD : PyData → PyData → Bool
  | .none, .none => true
  | .bool a, .bool b => decide (a = b)
  | .int a, .int b => decide (a = b)
  | .str a, .str b => decide (a = b)
  | .tuple xs, .tuple ys => alikeL xs ys
  | .list xs, .list ys => alikeL xs ys
  | _, _ => false
noncomputable def alikeL : List PyData → List PyData → Bool
  | [], [] => true
  | x :: xs, y :: ys => alikeD x y && alikeL xs ys
  | _, _ => false
end
mutual
noncomputable def lvD : PyData → Nat
  | .tuple xs | .list xs => lvL xs + 1
  | _ => 0
noncomputable def lvL : List PyData → Nat
  | [] => 0
  | x :: xs => max (lvD x) (lvL xs)
end
theorem lvL_mem : ∀ {xs : List PyData} {x : PyData}, x ∈ xs → lvD x ≤ lvL xs
  | y :: ys, x, h => by
    rw [lvL]
    rcases List.mem_cons.mp h with rfl | h
    · exact Nat.le_max_left _ _
    · exact Nat.le_trans (lvL_mem h) (Nat.le_max_right _ _)
theorem alikeL_len : ∀ {xs ys : List PyData}, xs.length ≠ ys.length → alikeL xs ys = false
  | [], [], h => absurd rfl h
  | [], _ :: _, _ => rfl
  | _ :: _, [], _ => rfl
  | x :: xs, y :: ys, h => by
    rw [alikeL, alikeL_len (xs := xs) (ys := ys) (by simpa using h), Bool.and_false]
theorem alikeL_range : ∀ {xs ys : List PyData}, xs.length = ys.length → ((List.range xs.length).map fun i => alikeD (xs.getD i .none) (ys.getD i .none)).all id = alikeL xs ys
  | [], [], _ => rfl
  | [], _ :: _, h => by simp at h
  | _ :: _, [], h => by simp at h
  | x :: xs, y :: ys, h => by
    rw [alikeL, ← alikeL_range (xs := xs) (ys := ys) (by simpa using h), List.length_cons, List.range_succ_eq_map, List.map_cons, List.all_cons, List.map_map]
    rfl
mutual
theorem alikeD_refl : ∀ {d : PyData}, noDict d = true → alikeD d d = true
  | .none, _ => rfl
  | .bool b, _ => by simp [alikeD]
  | .int b, _ => by simp [alikeD]
  | .str b, _ => by simp [alikeD]
  | .tuple xs, h => by rw [alikeD]; exact alikeL_refl (by simpa [noDict] using h)
  | .list xs, h => by rw [alikeD]; exact alikeL_refl (by simpa [noDict] using h)
  | .dict _, h => by simp [noDict] at h
theorem alikeL_refl : ∀ {xs : List PyData}, noDictAll xs = true → alikeL xs xs = true
  | [], _ => rfl
  | x :: xs, h => by
    rw [noDictAll, Bool.and_eq_true] at h
    rw [alikeL, alikeD_refl h.1, alikeL_refl h.2]; rfl
end
theorem noDict_ints : ∀ ns : List Int, noDictAll (ns.map PyData.int) = true
  | [] => rfl
  | n :: r => by rw [List.map_cons, noDictAll, noDict_ints r]; rfl
theorem lvL_ints : ∀ ns : List Int, lvL (ns.map PyData.int) = 0
  | [] => rfl
  | n :: r => by rw [List.map_cons, lvL, lvL_ints r]; rfl
noncomputable def spAlike : Nat → Sp
  | 0 => fun _ _ _ _ => False
  | n + 1 => fun vs H Q _ => ∃ ex da db x y, vs = [x, y] ∧ Rep ex H da x ∧ Rep ex H db y ∧ lvD db ≤ n ∧ (noDict da = true ∧ noDict db = true) ∧ ∀ H', Kp [] H H' → Q (.bl (alikeD da db)) H'
noncomputable def rowD (d : PyData) : Option (Bool × List PyData) := match d with
  | .tuple xs => some (true, xs)
  | .list xs => some (false, xs)
  | _ => none
theorem Rep.row {ex : List Addr} {H : Hp} {K : PySem.W.Frag} {d : PyData} {v : V} {b : Bool} {ds : List PyData} (r : Rep ex H d v) (h : rowD d = some (b, ds)) : ∃ a xs, v = .ref a ∧ SqK b K H a xs ∧ (SqL K H a xs ∨ SqT K H a xs) ∧ xs.length ≤ sizeLine ∧ Reps ex H ds xs := by
  cases r with
  | tuple e n z rs => cases h; exact ⟨_, _, rfl, SqT.of e, .inr (SqT.of e), z, rs⟩
  | list e n z rs => cases h; exact ⟨_, _, rfl, SqL.of e, .inl (SqL.of e), z, rs⟩
  | _ => cases h
theorem alike_row {da db : PyData} {b b' : Bool} {xs ys : List PyData} (h : rowD da = some (b, xs)) (h' : rowD db = some (b', ys)) (hb : b = b') : alikeD da db = alikeL xs ys := by
  subst hb
  cases da <;> cases h <;> cases db <;> cases h' <;> rfl
theorem instD_b {d : PyData} (h : instD d "bool" = true) : ∃ b, d = .bool b := by
  cases d with
  | bool b => exact ⟨b, rfl⟩
  | _ => simp [instD, tyName] at h
theorem instD_i {d : PyData} (h : instD d "int" = true) (h' : instD d "bool" = false) : ∃ i, d = .int i := by
  cases d with
  | int b => exact ⟨b, rfl⟩
  | _ => simp [instD, tyName] at h h'
theorem instD_s {d : PyData} (h : instD d "str" = true) : ∃ i, d = .str i := by
  cases d with
  | str b => exact ⟨b, rfl⟩
  | _ => simp [instD, tyName] at h
theorem noD_of {d : PyData} (h : noDict d = true) : noD d = true := by
  cases d with
  | dict => rw [noDict] at h; cases h
  | _ => rfl
theorem noDict_mem : ∀ {ds : List PyData} {d : PyData}, noDictAll ds = true → d ∈ ds → noDict d = true
  | [], d, _, h => by cases h
  | x :: ds, d, hh, h => by
    rw [noDictAll, Bool.and_eq_true] at hh
    rcases List.mem_cons.mp h with rfl | h
    · exact hh.1
    · exact noDict_mem hh.2 h
theorem noDict_row {d : PyData} {b : Bool} {ds : List PyData} (h : noDict d = true) (e : rowD d = some (b, ds)) : noDictAll ds = true := by
  cases d <;> cases e <;> (rw [noDict] at h; exact h)
theorem instD_row {ex : List Addr} {H : Hp} {d : PyData} {v : V} (hn : noD d = true) (r : Rep ex H d v) (h0 : v ≠ .non) (h1 : instD d "bool" = false) (h2 : instD d "int" = false) (h3 : instD d "str" = false) : ∃ b ds, rowD d = some (b, ds) := by
  cases r with
  | none => exact absurd rfl h0
  | bool b => simp [instD, tyName] at h1
  | int b => simp [instD, tyName] at h2
  | str b => simp [instD, tyName] at h3
  | tuple e n z rs => exact ⟨_, _, rfl⟩
  | list e n z rs => exact ⟨_, _, rfl⟩
  | obj => cases hn
  | dctf => cases hn
theorem instD_same {ex : List Addr} {H : Hp} {da db : PyData} {v : V} (r : Rep ex H da v) {b : Bool} {ds : List PyData} (h : rowD db = some (b, ds)) (h1 : instD db "tuple" = instD da "tuple") (h2 : instD db "list" = instD da "list") : ∃ es, rowD da = some (b, es) := by
  cases db <;> cases h <;> cases r <;> first | exact ⟨_, rfl⟩ | (simp [instD, tyName] at h1 h2)
theorem alike_kinds {da db : PyData} (h : instD db "tuple" ≠ instD da "tuple" ∨ instD db "list" ≠ instD da "list") : alikeD da db = false := by
  cases da <;> cases db <;> first | rfl | (simp [instD, tyName] at h)
theorem alike_non {ex : List Addr} {H : Hp} {da db : PyData} {x : V} (ra : Rep ex H da x) (rb : Rep ex H db .non) : alikeD da db = decide (x = .non) := by
  cases rb; cases ra <;> simp [alikeD]
theorem alike_noB {da : PyData} {b : Bool} (h : instD da "bool" = false) : alikeD da (.bool b) = false := by
  cases da <;> first | rfl | (simp [instD, tyName] at h)
theorem alike_noI {da : PyData} {b : Int} (h : instD da "int" = false ∨ instD da "bool" = true) : alikeD da (.int b) = false := by
  cases da <;> first | rfl | (simp [instD, tyName] at h)
theorem alike_noS {da : PyData} {b : Str} (h : instD da "str" = false) : alikeD da (.str b) = false := by
  cases da <;> first | rfl | (simp [instD, tyName] at h)
theorem rowD_lv {d : PyData} {b : Bool} {ds : List PyData} (h : rowD d = some (b, ds)) : lvD d = lvL ds + 1 := by
  cases d <;> cases h <;> rfl
end My

namespace My
open PySem PySem.Spec PyProof.Rows L2
noncomputable def wayAt (ws : List Way) (k : Int) : Way := ws.getD k.toNat ⟨0, 0, []⟩
theorem ite_nt {A B : Prop} (h : B) : if (!true) = true then A else B := h
end My

namespace L2
open PySem PySem.Spec PyProof.Rows
section
variable {X : Cx} {K' : PySem.W.Frag}
end
end L2

namespace L2
open PySem PySem.Spec PyProof.Rows
section
variable {X : Cx} {e st : Expr} {te : TE} {ts : TO} {pos p2 : Pos}
end
end L2
namespace L2
open PySem PySem.Spec PyProof.Rows
theorem ps_setD {X : Cx} {pos : Pos} {i : Nat} {x : Str} {e : Expr} {te : TE} {pos' : Pos} (hN : X.N.Nodup) (hi : X.N[i]? = some x) (hx : Loc X.env.scope x) (he : PEs X e te) (hs : swapsWith e (some (.Name x pos')) pos.line X.env = pure false := by rfl) (hf : X.fn x = true ∨ X.env.scope.names.lookup x = some .local := by first | exact .inl rfl | exact .inr rfl | assumption) : PS X (.Assign [.Name x pos'] e pos) (tAsg te (gName i)) := ps_set hN hi hx he.out hs hf
end L2

namespace My
open PySem PySem.Spec PyProof.Rows L2
end My

namespace L2
open PySem PySem.Spec PyProof.Rows
section
variable {X : Cx}
end
end L2
namespace My
open PySem PySem.Spec PyProof.Rows L2
end My

namespace L2
open PySem PySem.Spec PyProof.Rows
section
variable {prog : Program} {w : World} {A : Around} {E : Value → Shared → Prop} {s : Shared} {z TI TO j1 j2 j3 : Addr} {f1 f2 f3 : List Addr} {n1 n2 n3 i : Nat} {P1 P2 P3 : Nat → Value → Prop} {St1 St2 St3 : Nat → Heap → Prop} {a b c : Value}
end
end L2

namespace L2
open PySem PySem.Spec PyProof.Rows
section
variable {X : Cx} {es : List Expr} {kk : Nat} {tp : Pos}
end
end L2

namespace My
open PySem PySem.Spec PyProof.Rows L2
end My

namespace L2
open PySem PySem.Spec PyProof.Rows
section
variable {X : Cx}
end
end L2
namespace My
open PySem PySem.Spec PyProof.Rows L2
end My

namespace My
open PySem PySem.Spec PyProof.Rows L2
noncomputable def cutD (xs : List PyData) (lo hi : Option Int) : List PyData := (xs.drop (HT.sIx xs.length 0 lo)).take (HT.sIx xs.length xs.length hi - HT.sIx xs.length 0 lo)
theorem cutD_take (xs : List PyData) (k : Nat) : cutD xs none (some (k : Int)) = xs.take k := by
  unfold cutD
  rw [HT.sIx_none, HT.sIx_nat, List.drop_zero, Nat.sub_zero]
  rcases Nat.le_total k xs.length with h | h
  · rw [Nat.min_eq_left h]
  · rw [Nat.min_eq_right h, List.take_of_length_le (Nat.le_refl _), List.take_of_length_le h]
theorem cutD_drop (xs : List PyData) (k : Nat) : cutD xs (some (k : Int)) none = xs.drop k := by
  unfold cutD
  rw [HT.sIx_none, HT.sIx_nat]
  rcases Nat.le_total k xs.length with h | h
  · rw [Nat.min_eq_left h, List.take_of_length_le (by rw [List.length_drop]; omega)]
  · rw [Nat.min_eq_right h, List.drop_of_length_le (Nat.le_refl _), List.drop_of_length_le h]; simp
end My

namespace My
open PySem PySem.Spec PyProof.Rows L2
end My

namespace My
open PySem PySem.Spec PyProof.Rows L2
structure Tape (H : Hp) (p c : Addr) (n : Nat) : Prop where
  ex : ∃ (ns : List Int) (k g : Int), H p = some (.lst [.ref c, .int k, .int g]) ∧ H c = some (.lst (ns.map V.int)) ∧ ns.length ≤ 63 ∧ 0 ≤ k ∧ k ≤ n
theorem Tape.fresh {H : Hp} {p c l : Addr} {n : Nat} (J : Tape H p c n) (h : H l = none) : l ∉ [p, c] := by
  obtain ⟨ns, k, g, h1, h2, _⟩ := J.ex
  intro z
  rcases List.mem_cons.mp z with rfl | z
  · rw [h] at h1; cases h1
  · cases List.mem_singleton.mp z; rw [h] at h2; cases h2
theorem Kp.late {ex : List Addr} {H1 H2 : Hp} {a : Addr} (k : Kp ex H1 H2) (h : H1 a = none) (o : HO) : Kp ex H1 (upd H2 a o) := fun b v e n => by
  rw [upd_ne (ne_of_none e h)]; exact k b v e n
end My

namespace My
open PySem PySem.Spec PyProof.Rows L2
section
variable {X : Cx} {pos : Pos} {k : Nat}
end
end My

namespace My
open PySem PySem.Spec PyProof.Rows L2
end My

namespace My
open PySem PySem.Spec PyProof.Rows L2
end My

namespace L2
open PySem PySem.Spec PyProof.Rows
section
variable {X : Cx}
end
end L2

namespace My
open PySem PySem.Spec PyProof.Rows L2
end My

namespace My
open PySem PySem.Spec PyProof.Rows L2
end My

namespace My
open PySem PySem.Spec PyProof.Rows L2
section
variable {p c sl : Addr} {R U : Int} {ws : List Way} {bv : V} {sums : List (List Int × List Int)} {svs : List V} {H H' : Hp} {n m : Nat}
end
end My

namespace L2
open PySem PySem.Spec PyProof.Rows
section
variable {P : Program} {w : World} {H H' : Hp} {h h' : Heap} {a : Addr} {o : HO}
theorem ObjOk.there (x : ObjOk P w H h a o) : ∃ ob, h.get? a = some ob := by
  cases o with
  | lst xs => obtain ⟨_, _, _, _, e⟩ := x; exact ⟨_, e⟩
  | tup xs => obtain ⟨_, _, _, ob, e, _⟩ := x; exact ⟨_, e⟩
  | dK kvs => obtain ⟨_, _, _, _, o, _, _, e, _⟩ := x; exact ⟨_, e⟩
  | dT kvs => obtain ⟨_, _, _, _, o, _, _, e, _⟩ := x; exact ⟨_, e⟩
  | set S n => obtain ⟨o, _, _, _, e, _⟩ := x; exact ⟨_, e⟩
  | ins C dx fs => obtain ⟨_, _, _, e, _⟩ := x; exact ⟨_, e⟩
  | own y => obtain ⟨_, e⟩ := x; exact ⟨_, e⟩
  | xd fs => obtain ⟨_, ⟨_, _, _, e, _⟩, _⟩ := x; exact ⟨_, e⟩
  | rng lo hi => obtain ⟨_, _, _, e⟩ := x; exact ⟨_, e⟩
  | frz ob u => obtain ⟨e, _⟩ := x; exact ⟨_, e⟩
  | tbl ps => exact ⟨_, (show h.get? a = some _ from x)⟩
  | met f y => exact ⟨_, (show h.get? a = some _ from x)⟩
  | ext φ => obtain ⟨_, e, _⟩ := x; exact e
theorem HOk.there (x : HOk P w H h) (e : H a = some o) : ∃ ob, h.get? a = some ob := (x a o e).there
theorem HOk.keptT (x : HOk P w H h) (k : ∀ b u, (H b).isSome = true → h.get? b = some u → h'.get? b = some u) : HOk P w H h' := fun a o e =>
  (x a o e).stay (fun b u hb q => k b u (by
    rcases hb with rfl | hb
    · rw [e]; rfl
    · rw [hb]; rfl) q) (fun _ q => q) fun _ _ q => q
theorem HOk.more {φ : Heap → Prop} (x : HOk P w H h) (hn : H a = none) (hp : φ h) (ht : ∃ ob, h.get? a = some ob) (st : ∀ h1 h2 : Heap, φ h1 → (∀ o, h1.get? a = some o → h2.get? a = some o) → φ h2) : HOk P w (upd H a (.ext φ)) h := fun b u e => by
  by_cases hb : b = a
  · subst hb; rw [upd_same] at e; cases e; exact ⟨hp, ht, st⟩
  · rw [upd_ne hb] at e
    exact (x b u e).stay (fun _ _ _ q => q) (fun c q => by rw [upd_ne (ne_of_none q hn)]; exact q) fun c xs q => by rw [upd_ne (ne_of_none q hn)]; exact q
end
structure Fly (P : Program) (w : World) (outer : List Env) (H : Hp) (s : Shared) (H' : Hp) (ea : Addr) (cls : Value) (s' : Shared) : Prop where
  os : s'.os = s.os
  bare : AllBare s'.gens
  un : Un (frs outer) [] H H' s.heap s'.heap
  hok : HOk P w H' s'.heap
  fl : ∃ (B : Heap) (t : Addr), (∀ b o, s'.heap.get? b = some o → ((H' b).isSome = true ∨ ∃ o₀, s.heap.get? b = some o₀) → b ∉ frs outer → B.get? b = some o) ∧ Heap.FlyingW B outer ea cls (.ref t) s'.heap
section
variable {X : Cx} {pins : List (Addr × Obj)} {σ : St} {H H' : Hp} {s s' : Shared}
theorem Inv.old_ne (I : Inv X pins σ H s) {b : Addr} {o : Obj} (q : X.s₀.heap.get? b = some o) : b ≠ X.env.locals := fun z => by
  have := Heap.lt_size q
  rw [z] at this
  exact absurd (Nat.lt_of_lt_of_le this I.ok.above) (Nat.lt_irrefl _)
theorem Inv.old_stk (I : Inv X pins σ H s) {b : Addr} {o : Obj} (q : X.s₀.heap.get? b = some o) (n : b ∉ X.fs) : b ∉ frs X.stack := fun z => by
  rcases List.mem_cons.mp (I.stkSub b z) with z | z
  · exact I.old_ne q z
  · exact n z
theorem Inv.fly (I : Inv X pins σ H s) (hex : X.ex = []) {B h' : Heap} {ea t : Addr} {cls : Value} (hB : ∀ b o, s.heap.get? b = some o → ((H b).isSome = true ∨ ∃ o₀, X.s₀.heap.get? b = some o₀) → b ∉ frs X.stack → B.get? b = some o)
    (fl : Heap.FlyingW B X.outer ea cls (.ref t) h') (us : s.heap.UpToSlots h') (os : s'.os = s.os) (hg : AllBare s'.gens) (hh : s'.heap = h') : Fly X.prog X.w X.outer X.H₀ X.s₀ H ea cls s' := by
  subst hh
  have nex : ∀ b, b ∉ X.ex := fun b => by rw [hex]; simp
  have fdata : ∀ b o, X.s₀.heap.get? b = some o → b ∈ X.fs → ∀ vs, o.data ≠ .fields vs := fun b o q hb vs => by
    obtain ⟨_, o', ho', hd⟩ := I.ok.funs.mem hb
    rw [q] at ho'; cases ho'
    exact hd vs
  have trk : ∀ b, (H b).isSome = true → b ∉ frs X.stack := fun b hb z => by rw [I.stkFree b z] at hb; cases hb
  have kt : ∀ b u, (H b).isSome = true → s.heap.get? b = some u → s'.heap.get? b = some u := fun b u hb q => fl.1 b u (hB b u q (.inl hb) (trk b hb))
  refine ⟨os.trans I.os, hg, ⟨fun b o q n hb _ => ?_, fun b o q n hb _ => ?_, fun b o q n _ => I.base.free b o q n (nex b), fun b o q _ => ?_, I.base.tups, I.base.frzs, I.base.tbls⟩, I.hok.keptT kt, B, t, fun b o q hb hn => ?_, fl⟩
  · exact fl.1 b o (hB b o (I.base.keep b o q n hb (nex b)) (.inr ⟨o, q⟩) (I.old_stk q hb))
  · obtain ⟨sl, e⟩ := I.base.slot b o q n hb (nex b)
    obtain ⟨sl', e'⟩ := us b _ e (fdata b o q hb)
    exact ⟨sl', e'⟩
  · obtain ⟨o', e⟩ := I.base.there b o q (nex b)
    by_cases hb : b ∈ X.fs
    · obtain ⟨sl, e2⟩ := I.base.slot b o q (I.ok.frf b hb) hb (nex b)
      obtain ⟨sl', e'⟩ := us b _ e2 (fdata b o q hb)
      exact ⟨_, e'⟩
    · exact ⟨o', fl.1 b o' (hB b o' e (.inr ⟨o, q⟩) (I.old_stk q hb))⟩
  · rcases hb with hb | ⟨o₀, hb⟩
    · obtain ⟨v, hv⟩ := Option.isSome_iff_exists.mp hb
      obtain ⟨u, hu⟩ := I.hok.there hv
      have e := hB b u hu (.inl hb) (trk b hb)
      have e2 := fl.1 b u e
      rw [q] at e2; cases e2
      exact e
    · obtain ⟨u, hu⟩ := I.base.there b o₀ hb (nex b)
      have e := hB b u hu (.inr ⟨o₀, hb⟩) (I.old_stk hb hn)
      have e2 := fl.1 b u e
      rw [q] at e2; cases e2
      exact e
end
section
variable {P : Program} {w : World} {K : PySem.W.Frag} {mg : Str → Option Value} {base : Heap} {N : List Str} {qual : Str} {scope : Scope} {f : Addr} {cd : Value} {A : Around} {outer : List Env} {s₀ : Shared} {H₀ : Hp} {E : XK}
end
end L2

namespace L2
open PySem PySem.Spec PyProof.Rows PySem.W Builtin Builtin.ObjectAttr Builtin.Getset_descriptor
structure ExC (K : PySem.W.Frag) (D : Addr) : Prop where
  ga : PySem.W.findIn K (.ref D) "__getattribute__" = some (some (.builtin "BaseException.__getattribute__"))
  gn : PySem.W.findIn K (.ref D) "__getattr__" = some none
  ca : PySem.W.findIn K (.ref D) "__class__" = some (some (.builtin "object.__class__"))
  cg : PySem.W.specialIn K (.builtin "object.__class__") "__get__" = some (some (.builtin "getset_descriptor.__get__"))
  ct : PySem.W.takesIn K (.builtin "object.__class__") = some true
  mo : PySem.W.mroIn K D (.type "object") = some true
  mb : PySem.W.mroIn K D (.type "BaseException") = some true
noncomputable def OfC (x D : Addr) (h : Heap) : Prop := ∃ o, h.get? x = some o ∧ o.cls = .ref D
section
variable {prog : Program} {w : World} {A : Around} {E : Value → Shared → Prop} {s : Shared} {K : PySem.W.Frag} {x D : Addr} {R : Result → Shared → Prop}
theorem OfC.ty {M : Model} {h : Heap} (I : OfC x D h) : Looks M h (typeOf (.ref x)) (.ref D) := by
  obtain ⟨o, e, c⟩ := I
  exact c ▸ (Looks.ld e).andThen .now
theorem excls_get {tp : Value} (X : K.In s.heap) (I : OfC x D s.heap) (C : ExC K D) (h : R (.ok (.ret (.ref D))) s) : codeAny (model prog w) A (.call (.builtin "getset_descriptor.__get__") ⟨[.builtin "object.__class__", .ref x, tp], []⟩) R s := by
  obtain ⟨hh, g, dr, t, os⟩ := s
  have L0 := I.ty (M := model prog w)
  have L1 := looks_mroIn (M := model prog w) X C.mo
  have key := fun q => codeAny_call_builtin (prog := prog) (w := w) (A := A) (R := R) (s := ⟨hh, g, dr, t, os⟩) KF.slot_gs.plain KF.entry_gs (KF.slot_gs.check _ _ _ _ (Value.builtin "object.__class__") _ _ _ (show (Shared.mk hh g dr t os).TypeIs (Value.builtin "object.__class__") "getset_descriptor" from KF.type_class) (KF.args_gs (Value.builtin "object.__class__") (Value.ref x) tp) q)
  apply key
  unfold Builtin.«getset_descriptor.__get__» descrGet; rw [dga_obj]; refine wpAny_bind (wpAny_pure ?_)
  unfold descrGetter descrCheckInstance descrNameAndClass isInstance; simp only [KF.owner_class]
  repeat lk
  have key2 := fun q => codeAny_builtin (prog := prog) (w := w) (A := A) (R := R) (s := ⟨hh, g, dr, t, os⟩) (args := ⟨[Value.ref x], []⟩) KF.entry_class q
  refine ⟨Code.quiet_builtin _ (by decide +kernel), key2 ?_⟩
  unfold Builtin.«object.__class__» shownTypeOf; repeat lk
  exact h
theorem exc_class {Q : Option Value → Shared → Prop} (X : K.In s.heap) (I : OfC x D s.heap) (C : ExC K D)
    (h : Q (some (.ref D)) { s with toks := s.toks + 1 }) : wpAny (model prog w) A (getAttr? (.ref x) "__class__") Q E s := by
  obtain ⟨hh, g, d, t, os⟩ := s
  have L0 := I.ty (M := model prog w)
  have L1 := looks_findIn (M := model prog w) X C.ga
  have L2 := looks_findIn (M := model prog w) X C.gn
  have T3 := looks_takesIn (M := model prog w) X C.ct
  have L3 : Looks (model prog w) hh (Builtin.ObjectAttr.find (.ref x) (.ref D) "__class__") (.bind (.builtin "getset_descriptor.__get__") (.builtin "object.__class__")) :=
    (looks_findIn (M := model prog w) X C.ca).andThen ((show Looks (model prog w) hh (Builtin.ObjectAttr.getOf (some (.builtin "object.__class__"))) _ from looks_specialIn X C.cg).andThen ((show Looks (model prog w) hh (Builtin.ObjectAttr.dataDescriptor? (some (.builtin "object.__class__")) (some (.builtin "getset_descriptor.__get__"))) (some (.builtin "getset_descriptor.__get__", .builtin "object.__class__")) from T3.andThen .now).andThen (Looks.tag .now)))
  have L4 := looks_mroIn (M := model prog w) X C.mb
  have hx2 : (Value.builtin "BaseException.__getattribute__" == Value.builtin "object.__getattribute__") = false := by decide +kernel
  unfold getAttr? getAttrBy? getAttrBy
  refine wpAny_bind (wpAny_mkText (wpAny_bind (wpAny_attempt (wpAny_holding (wpAny_bind (L0.at (wpAny_bind (L1.at ?_))))))))
  simp only [hx2, Bool.and_false, Bool.false_eq_true, if_false]
  unfold getAttrByItsOwn hookBefore
  refine wpAny_bind ?_
  show wpAny _ _ (typeLookup (Value.ref D) (Str.ofString "__getattr__")) _ _ _
  refine L2.at ?_
  refine wpAny_bind (wpAny_attempt (wpAny_holding ?_))
  show wpAny _ _ (boundAndCalled (Value.builtin "BaseException.__getattribute__") (Value.ref x) (Value.str (Str.ofString "__class__") t)) _ _ _
  have fb : bindSpecial (Value.builtin "BaseException.__getattribute__") (Value.ref x) = pure (Value.builtin "BaseException.__getattribute__", [Value.ref x]) := F.excAttr_ValueError.ga.bind (.ref x)
  unfold boundAndCalled
  rw [fb]
  refine wpAny_bind (wpAny_pure ?_)
  show wpAny _ _ (call (Value.builtin "BaseException.__getattribute__") [Value.ref x, Value.str (Str.ofString "__class__") t]) _ _ _
  refine wpAny_call (codeAny_call_builtin F.excAttr_ValueError.ga.plain F.entry_bexc_ga ?_)
  have hk' : builtinKind "BaseException.__getattribute__" = some .slot := by decide +kernel
  have hs' : splitId "BaseException.__getattribute__" = some ("BaseException", "__getattribute__") := by decide +kernel
  have ha := F.args_bexc_ga (.ref x) (Value.str (Str.ofString "__class__") t)
  simp only [checkBuiltinCall, hk', hs']
  refine wpAny_bind ?_
  unfold isInstance
  refine wpAny_bind (L0.at (L4.at ?_))
  repeat (first | assumption | wp_step)
  obtain ⟨ox, ex, cx⟩ := id I
  refine wpAny_loadPart ex (wpAny_pure ?_)
  rw [cx]
  refine wpAny_bind (L3.at ?_)
  show wpAny _ _ (holding [Value.builtin "object.__class__"] (call (Value.builtin "getset_descriptor.__get__") [Value.builtin "object.__class__", Value.ref x, Value.ref D]) >>= ret) _ _ _
  refine wpAny_bind (wpAny_holding (wpAny_call (excls_get (s := ⟨hh, g, d, t + 1, os⟩) X I C ?_)))
  exact wpAny_pure (handed_on rfl (wpAny_pure h))
end
theorem kitx_exc {K : PySem.W.Frag} {x D : Addr} {cd : ClassData} (C : ExC K D) (hc : PySem.W.clsIn K D = some cd) : PySem.W.KitX K (.ref x) (.ref D) (OfC x D) where
  ty := fun _ _ _ I => I.ty
  it := fun _ _ X _ => by
    unfold PySem.W.clsIn at hc
    split at hc
    · rename_i c' d' cd' sl' ho
      intro A' Q' E' s' k q
      exact (show wpAny _ _ (loadHead D >>= _) _ _ _ from wpAny_bind (wpAny_loadPart (k _ _ (X _ _ ho)) (wpAny_pure q)))
    · cases hc
  ne := fun h tp dd its n sl X htp => by
    cases hb : (Value.ref D == Value.ref tp) with
    | false => rfl
    | true =>
      cases (Value.ref.inj (beq_iff_eq.mp hb))
      unfold PySem.W.clsIn at hc
      split at hc
      · rename_i c' d' cd' sl' ho
        have z := (X _ _ ho).symm.trans htp
        cases z
      · cases hc
  ca := fun X I q => exc_class X I C q
end L2

namespace L2
open PySem PySem.Spec PyProof.Rows
noncomputable def vMro : List Value := [.type "ValueError", .type "Exception", .type "BaseException", .type "object"]
section
variable {P : Program} {w : World} {K : PySem.W.Frag} {mg : Str → Option Value} {base : Heap} {N : List Str} {qual : Str} {scope : Scope} {f : Addr} {cd : Value} {A : Around} {outer : List Env} {s₀ : Shared} {H₀ : Hp} {E : XK}
  {x : Str} {C : Addr} {e : Expr} {es : List Expr} {np cpos pos : Pos} {t : TA}
end
section
variable {P : Program} {w : World} {K : PySem.W.Frag} {mg : Str → Option Value} {base : Heap}
end
section
variable {X : Cx} {x : Str} {e : Expr} {es : List Expr} {p pos : Pos} {t : TA} {k : Nat} {ps : List Str} {sp : Sp} {E : XK}
end
noncomputable abbrev XW := St → Value → Hp → Prop
noncomputable def XP (X : Cx) (pins : List (Addr × Obj)) (W : XW) (e : Value) (s' : Shared) : Prop := ∃ ea cls σ' H H' s, e = .ref ea ∧ Inv X pins σ' H s ∧ Fly X.prog X.w X.stack H s H' ea cls s' ∧ W σ' cls H'
noncomputable abbrev TSX := Ends → XW → St → Hp → Prop
section
variable {X : Cx} {x y : Str} {e : Expr} {es : List Expr} {p p' pos apos : Pos} {t : TA} {k : Nat} {ps : List Str} {sp : Sp}
end
end L2

namespace L2
open PySem PySem.Spec PyProof.Rows
noncomputable def HB (X : Cx) (s0 : Shared) (H : Hp) (h B : Heap) : Prop := ∀ b o, h.get? b = some o → ((H b).isSome = true ∨ ∃ o₀, s0.heap.get? b = some o₀) → b ∉ frs X.stack → B.get? b = some o
section
variable {X : Cx} {pins : List (Addr × Obj)} {σ σ0 : St} {H H0 : Hp} {s s0 : Shared} {B h' : Heap}
theorem Inv.fdata (I : Inv X pins σ H s) {b : Addr} {o : Obj} (q : X.s₀.heap.get? b = some o) (hb : b ∈ X.fs) : ∀ vs, o.data ≠ .fields vs := fun vs => by
  obtain ⟨_, o', ho', hd⟩ := I.ok.funs.mem hb
  rw [q] at ho'; cases ho'
  exact hd vs
theorem Inv.trkF (I : Inv X pins σ H s) {b : Addr} (hb : (H b).isSome = true) : b ∉ frs X.stack := fun z => by rw [I.stkFree b z] at hb; cases hb
theorem Inv.cellF (I : Inv X pins σ H s) {x : Str} {c : Addr} (e : X.env.cells.lookup x = some c) (nf : c ∉ X.fs) : c ∉ frs X.stack := fun z => by
  rcases List.mem_cons.mp (I.stkSub c z) with z | z
  · exact I.cne x c e z
  · exact nf z
theorem Inv.move (I0 : Inv X pins σ0 H0 s0) (I : Inv X pins σ H s) (hcf : ∀ x c, X.env.cells.lookup x = some c → c ∉ X.fs) (hB : HB X s0 H s.heap B) (st : B.StaysIn h') (us : s.heap.UpToSlots h') : Inv X pins σ H { s with heap := h' } := by
  have kt : ∀ b u, (H b).isSome = true → s.heap.get? b = some u → h'.get? b = some u := fun b u hb q => st b u (hB b u q (.inl hb) (I.trkF hb))
  have ko : ∀ b u, (∃ o₀, s0.heap.get? b = some o₀) → b ∉ frs X.stack → s.heap.get? b = some u → h'.get? b = some u := fun b u ho hb q => st b u (hB b u q (.inr ho) hb)
  have cellK : ∀ x c v, X.env.cells.lookup x = some c → s.heap.IsCell c v → h'.IsCell c v := fun x c v e z => by
    obtain ⟨o, ho, hd⟩ := z
    obtain ⟨v0, o0, ho0, _⟩ := I0.cell x c e
    exact ⟨o, ko c o ⟨o0, ho0⟩ (I.cellF e (hcf x c e)) ho, hd⟩
  have old : ∀ b o, X.s₀.heap.get? b = some o → b ∉ X.ex → ∃ o₀, s0.heap.get? b = some o₀ := fun b o q hx => I0.base.there b o q hx
  refine ⟨I.ok, I.os, I.bare, ⟨fun b o q n hb hx => ?_, fun b o q n hb hx => ?_, I.base.free, fun b o q hx => ?_, I.base.tups, I.base.frzs, I.base.tbls⟩, ?_, fun x c e => ?_, I.free, I.freeC, fun p hp => ?_, I.hok.keptT kt, I.len⟩
  · exact ko b o (old b o q hx) (I.old_stk q hb) (I.base.keep b o q n hb hx)
  · obtain ⟨sl, e⟩ := I.base.slot b o q n hb hx
    obtain ⟨sl', e'⟩ := us b _ e (show ∀ vs, o.data ≠ .fields vs from I.fdata q hb)
    exact ⟨sl', e'⟩
  · obtain ⟨o', e⟩ := I.base.there b o q hx
    by_cases hb : b ∈ X.fs
    · obtain ⟨sl, e2⟩ := I.base.slot b o q (I.ok.frf b hb) hb hx
      obtain ⟨sl', e'⟩ := us b _ e2 (show ∀ vs, o.data ≠ .fields vs from I.fdata q hb)
      exact ⟨_, e'⟩
    · exact ⟨o', ko b o' (old b o q hx) (I.old_stk q hb) e⟩
  · obtain ⟨m, hn, hl⟩ := I.loc
    refine ⟨m, us.ns hn, fun i x v e1 e2 e3 => ?_⟩
    obtain ⟨u, r, l⟩ := hl i x v e1 e2 e3
    refine ⟨u, r, ?_⟩
    rcases l with l | ⟨k, c, e, z⟩
    · exact .inl l
    · exact .inr ⟨k, c, e, cellK x c _ e z⟩
  · obtain ⟨v, z⟩ := I.cell x c e
    exact ⟨v, cellK x c v e z⟩
  · obtain ⟨e, n, ne, nf, d⟩ := I.pin p hp
    obtain ⟨e0, _⟩ := I0.pin p hp
    refine ⟨ko p.1 p.2 ⟨_, e0⟩ (fun z => ?_) e, n, ne, nf, d⟩
    rcases List.mem_cons.mp (I.stkSub p.1 z) with z | z
    · exact ne z
    · exact nf z
theorem HB.move (I0 : Inv X pins σ0 H0 s0) (I : Inv X pins σ H s) (hth : ∀ b o₀, s0.heap.get? b = some o₀ → ∃ o, s.heap.get? b = some o) (hB : HB X s0 H s.heap B) (st : B.StaysIn h') : HB X s0 H h' B := fun b o q hb hn => by
  have ex : ∃ u, s.heap.get? b = some u := by
    rcases hb with hb | ⟨o₀, hb⟩
    · obtain ⟨v, hv⟩ := Option.isSome_iff_exists.mp hb
      exact I.hok.there hv
    · exact hth b o₀ hb
  obtain ⟨u, hu⟩ := ex
  have e := hB b u hu hb hn
  have e2 := st b u e
  rw [q] at e2; cases e2
  exact e
noncomputable abbrev Cx.inH (X : Cx) (ea : Addr) : Cx := { X with A := X.A.mark (some (.ref ea)), calm := false }
theorem Inv.inH (I : Inv X pins σ H s) (ea : Addr) (hfr : (X.A.mark (some (.ref ea))).frames = X.A.frames) : Inv (X.inH ea) pins σ H s :=
  ⟨⟨I.ok.mod, I.ok.kind, I.ok.glob, I.ok.blt, I.ok.above, I.ok.inj, I.ok.has, I.ok.cab, fun z => Bool.noConfusion z, hfr.trans I.ok.frames, I.ok.stk, I.ok.exf, I.ok.bs, I.ok.bsz, I.ok.noex, I.ok.exfs, I.ok.funs, I.ok.frf⟩, I.os, I.bare, I.base, I.loc, I.cell, I.free, I.freeC, I.pin, I.hok, I.len⟩
theorem Inv.outH {ea : Addr} (I : Inv (X.inH ea) pins σ H s) (hd : X.calm = true → X.A.handled = none) (hfr : (X.A.mark (some (.ref ea))).frames = X.A.frames) : Inv X pins σ H s :=
  ⟨⟨I.ok.mod, I.ok.kind, I.ok.glob, I.ok.blt, I.ok.above, I.ok.inj, I.ok.has, I.ok.cab, hd, hfr.symm.trans I.ok.frames, I.ok.stk, I.ok.exf, I.ok.bs, I.ok.bsz, I.ok.noex, I.ok.exfs, I.ok.funs, I.ok.frf⟩, I.os, I.bare, I.base, I.loc, I.cell, I.free, I.freeC, I.pin, I.hok, I.len⟩
theorem unset_ok {M : Model} {A : Around} {E : Value → Shared → Prop} {i : Nat} {n : Str} {pos : Pos} {Q : Unit → Shared → Prop} (I : Inv X pins σ H s) (hN : X.N.Nodup) (hi : X.N[i]? = some n) (hl : X.env.scope.names.lookup n = some .local)
    (h : ∀ s', Inv X pins (σ.set i none) H s' → Q () s') : wpAny M A (do bindName X.env n .none; unbindBehindTheSuite X.env n pos) Q E s := by
  obtain ⟨m, hn, hv⟩ := id I.loc
  have hiσ : i < σ.length := by rw [I.len]; exact (List.getElem?_eq_some_iff.mp hi).1
  refine wpAny_nameGoes_keeps (m := m) hl hn (by rw [I.ok.kind]; rfl) fun h' v hn' hs => h _ ?_
  have ne : ∀ b o, X.s₀.heap.get? b = some o → b ≠ X.env.locals := fun b o q => I.old_ne q
  have kt : ∀ b u, (H b).isSome = true → s.heap.get? b = some u → h'.get? b = some u := fun b u hb q => (hs.2 b (fun z => by rw [z, I.free] at hb; cases hb)).trans q
  refine ⟨I.ok, I.os, I.bare, ⟨fun b o q n hb hx => (hs.2 b (ne b o q)).trans (I.base.keep b o q n hb hx), fun b o q n hb hx => ?_, I.base.free, fun b o q hx => ?_, I.base.tups, I.base.frzs, I.base.tbls⟩, ⟨_, hn', fun j y v' e1 e2 e3 => ?_⟩, fun y c e => ?_, I.free, I.freeC, fun p hp => ?_, I.hok.keptT kt, by simpa using I.len⟩
  · obtain ⟨sl, e⟩ := I.base.slot b o q n hb hx
    exact ⟨sl, (hs.2 b (ne b o q)).trans e⟩
  · obtain ⟨o', e⟩ := I.base.there b o q hx
    exact ⟨o', (hs.2 b (ne b o q)).trans e⟩
  · have hj : j ≠ i := fun z => by rw [z, List.getElem?_set_self hiσ] at e2; cases e2
    rw [List.getElem?_set_ne (Ne.symm hj)] at e2
    obtain ⟨u, r, l⟩ := hv j y v' e1 e2 e3
    refine ⟨u, r, ?_⟩
    rcases l with ⟨k, e⟩ | ⟨k, c, e, z⟩
    · have hy : y ≠ n := fun z => hj (nodup_ix hN e1 (z ▸ hi))
      exact .inl ⟨k, by simp [hy, e]⟩
    · exact .inr ⟨k, c, e, z.sameBut hs (I.cne y c e)⟩
  · obtain ⟨w', z⟩ := I.cell y c e
    exact ⟨w', z.sameBut hs (I.cne y c e)⟩
  · obtain ⟨e, n', ne', nf, d⟩ := I.pin p hp
    exact ⟨(hs.2 p.1 ne').trans e, n', ne', nf, d⟩
end
end L2

namespace L2
open PySem PySem.Spec PyProof.Rows
noncomputable def unE (i : Nat) (D : Ends) : Ends := { nx := fun σ H => D.nx (σ.set i none) H, rt := D.rt, bk := fun σ H => D.bk (σ.set i none) H, ct := fun σ H => D.ct (σ.set i none) H }
theorem landed {X : Cx} {pins : List (Addr × Obj)} {σ : St} {H0 H : Hp} {s0 s : Shared} {ea : Addr} {cls : Value} {E : Value → Shared → Prop} {Q : Shared → Prop} (hst : X.stack = X.env :: X.outer) (hf : X.env.frame = some X.env.locals) (hfn : ∀ x, X.fn x = true) (I0 : Inv X pins σ H0 s0) (F : Fly X.prog X.w X.stack H0 s0 H ea cls s)
    (h : ∀ s3 B t, Inv X pins σ H s3 → HB X s0 H s3.heap B → (∀ b o₀, s0.heap.get? b = some o₀ → ∃ o, s3.heap.get? b = some o) → Heap.FlyingW B X.stack ea cls (.ref t) s3.heap → Q s3) :
    wpAny (model X.prog X.w) X.A (noteFrame (.ref ea) X.env) (fun _ s₂ => wpAny (model X.prog X.w) X.A (setFlight (.ref ea) none) (fun _ s₃ => Q s₃) E s₂) E s := by
  obtain ⟨B, t, hB, fl⟩ := F.fl
  have I : Inv X pins σ H s := I0.call' F.os F.un F.hok F.bare fun b z => absurd z (by simp)
  have hcf : ∀ x c, X.env.cells.lookup x = some c → c ∉ X.fs := fun x c e z => by
    obtain ⟨_, o, ho, _⟩ := I0.ok.funs.mem z
    exact absurd (Nat.lt_of_lt_of_le (Heap.lt_size ho) (I0.ok.cab x c (hfn x) e)) (Nat.lt_irrefl _)
  have th : ∀ b o₀, s0.heap.get? b = some o₀ → ∃ o, s.heap.get? b = some o := fun b o₀ q => F.un.there b o₀ q (by simp)
  have hB0 : HB X s0 H s.heap B := hB
  have fl0 := fl
  rw [hst] at fl
  refine wpAny_looks_onW (by rw [I0.ok.frames, hst]) hf fl fun h4 held4 us4 => ?_
  refine wpAny_landsW held4 fun h5 fl5 us5 => ?_
  have us := us4.trans us5
  rw [← hst] at fl5
  have I5 : Inv X pins σ H { s with heap := h5 } := Inv.move I0 I hcf hB0 fl5.1 us
  have hB5 : HB X s0 H h5 B := HB.move I0 I th hB0 fl5.1
  refine h _ B t I5 hB5 (fun b o₀ q => ?_) fl5
  by_cases hb : b ∈ frs X.stack
  · have := (fl5.2.2.1.mem hb).2
    exact ⟨_, this.choose_spec.1⟩
  · obtain ⟨o, e⟩ := th b o₀ q
    exact ⟨o, fl5.1 b o (hB0 b o e (.inr ⟨o₀, q⟩) hb)⟩
section
variable {X : Cx} {body : List Stmt} {tb : TSX} {ts : TS} {b₀ : Stmt} {suite : List Stmt} {c n : Str} {C : Addr} {i : Nat} {np hpos pos : Pos}
end
end L2

namespace L2
open PySem PySem.Spec PyProof.Rows PySem.SeqAt
structure RoomH (k : Nat) (A : Around) : Prop where
  dp : A.depth + 3 * k + 5 < recursionLimit
  un : A.units + 16 * k + 200 < cLine
  gd : A.guards = some []
theorem Room.h {k : Nat} {A : Around} (r : Room k A) : RoomH k A := ⟨r.dp, r.un, r.gd⟩
theorem RoomH.mark {k : Nat} {A : Around} (r : RoomH k A) (e : Option Value) : RoomH k (A.mark e) := ⟨r.dp, r.un, r.gd⟩
theorem RoomH.deeper {k : Nat} {A : Around} (r : RoomH (k + 1) A) (env : Env) : RoomH k (A.deeper env) :=
  ⟨by have := r.dp; show A.depth + 1 + 3 * k + 5 < _; omega, by have := r.un; show A.units + 3 + 16 * k + 200 < _; omega, r.gd⟩
theorem Inv.recalm {X : Cx} {pins : List (Addr × Obj)} {σ : St} {H : Hp} {s : Shared} (I : Inv X pins σ H s) (A' : Around) (hfr : A'.frames = X.A.frames) : Inv { X with A := A', calm := false } pins σ H s :=
  ⟨⟨I.ok.mod, I.ok.kind, I.ok.glob, I.ok.blt, I.ok.above, I.ok.inj, I.ok.has, I.ok.cab, fun z => Bool.noConfusion z, hfr.trans I.ok.frames, I.ok.stk, I.ok.exf, I.ok.bs, I.ok.bsz, I.ok.noex, I.ok.exfs, I.ok.funs, I.ok.frf⟩, I.os, I.bare, I.base, I.loc, I.cell, I.free, I.freeC, I.pin, I.hok, I.len⟩
section
variable {P : Program} {w : World} {K : PySem.W.Frag} {mg : Str → Option Value} {base : Heap}
noncomputable abbrev cxH (P : Program) (w : World) (K : PySem.W.Frag) (mg : Str → Option Value) (base : Heap) (N : List Str) (qual : Str) (scope : Scope) (f : Addr) (cd : Value) (A : Around) (outer : List Env) (s : Shared) (H : Hp) : Cx :=
  { (cxOf CX0 P w K mg base N qual scope f cd A outer s H E0).nox with calm := false }
structure FnOkH (P : Program) (w : World) (K : PySem.W.Frag) (mg : Str → Option Value) (base : Heap) (k : Nat) (f : Addr) (fd : FuncData) (ps : List Str) (sp : Sp) : Prop where
  len : ∀ vs H Q E, sp vs H Q E → vs.length = ps.length
  run : ∀ (A : Around) (outer : List Env) (s : Shared) (H : Hp) (args : Args) (us : List Value) (vs : List V) (Q : VK), RoomH k A → Env0 P w K mg base A outer s H → BindsTo s fd args (ps.zip us) → Vals vs us → sp vs H Q E0 →
    codeAny (model P w) A (.call (.ref f) args) (CR CX0 outer P w H s Q E0) s
theorem Fun.okH {x qual : Str} {st : Stmt} {f : Addr} {fd : FuncData} {N ps : List Str} {k : Nat} {sp : Sp} (F : Fun K x qual st f fd) (S : FnScope N ps (defScope st)) (len : ∀ vs H Q E, sp vs H Q E → vs.length = ps.length)
    (hbody : ∀ (cdv : Value) (A : Around) (outer : List Env) (s : Shared) (H : Hp) (vs : List V) (Q : VK), RoomH k (A.deeper (envOfC qual (defScope st) s.heap.objs.size f cdv)) → sp vs H Q E0 →
      ∃ t, PSs (cxH P w K mg base N qual (defScope st) f cdv A outer s H) (defBody st) t ∧ t { nx := fun _ H' => Q .non H', rt := Q } (start N vs) H) : FnOkH P w K mg base (k + 1) f fd ps sp := by
  obtain ⟨oc, od, kV, doc, pm, an, cdv, ct, osl, rfl, lk, hcd⟩ := F.ex
  refine ⟨len, fun A outer s H args us vs Q hr e0 hb r hsp => ?_⟩
  have hl := len _ _ _ _ hsp
  have KX : K.In s.heap := e0.mod.kin.keeps fun b o e => (e0.bs b o e).1
  have lim : s.heap.NoLimit := e0.mod.nolimit.keeps fun b o e => (e0.bs b o e).1
  have hkind : ∀ y ∈ ps.zip us, (defScope st).names.lookup y.1 = some .local ∨ ((defScope st).names.lookup y.1 = some .cell ∧ ((cellsFrom (s.heap.objs.size + 1) (defScope st).names []).lookup y.1).isSome = true) := fun ⟨n, v⟩ hy => by
    rcases S.par n (List.of_mem_zip hy).1 with q | q
    · exact .inl q
    · exact .inr ⟨q, PySem.W.cellsFrom_some _ _ _ (.inl q)⟩
  refine codeAny_call_function (by have := hr.dp; omega) (KX _ _ lk) rfl S.co S.gen rfl (PySem.W.codeRec_of KX hcd) (hb _ _ _ _ ?_)
  refine wpAny_newFunctionEnv_cells S.kind hkind fun env he s1 x => ?_
  subst he
  refine ⟨lim.keeps x.toInCall.keep, codeAny_func ?_⟩
  obtain ⟨t, ht, hq⟩ := hbody cdv A outer s H vs Q (hr.deeper _) hsp
  have e1 : Env0 P w K mg base { A with handled := none } outer s H := ⟨e0.frames, e0.mod, e0.bs, e0.bsz, e0.funs, e0.frf, e0.hok, e0.bare⟩
  have I0 : Inv (cxOf CX0 P w K mg base N qual (defScope st) f cdv { A with handled := none } outer s H E0) [] (start N vs) H s1 := inv_start S rfl e1 hl r x
  have I : Inv (cxH P w K mg base N qual (defScope st) f cdv A outer s H) [] (start N vs) H s1 := ((I0.recalm (A.deeper (envOfC qual (defScope st) s.heap.objs.size f cdv)) rfl).wish _)
  refine wpAny_mono (ht [] s1 (start N vs) H _ I hq) (fun fl s' hs => ?_) fun e s' hs => hs.elim
  have fin : ∀ {σ' : St} {H' : Hp} {v : V} {u : Value}, Inv (cxH P w K mg base N qual (defScope st) f cdv A outer s H) [] σ' H' s' → RelV v u → Q v H' → CE outer P w H s Q u s' :=
    fun {σ' H' v u} J rv q => ⟨v, H', J.os, J.bare, J.base, J.hok, rv, q⟩
  cases fl with
  | ret u =>
    obtain ⟨v, σ', H', J, rv, q⟩ := hs
    exact fin J rv q
  | next =>
    obtain ⟨σ', H', J, q⟩ := hs
    exact fin (v := V.non) (u := Value.none) J rfl q
  | brk =>
    obtain ⟨_, _, _, q⟩ := hs
    exact False.elim q
  | cont =>
    obtain ⟨_, _, _, q⟩ := hs
    exact False.elim q
noncomputable def CalH (P : Program) (w : World) (K : PySem.W.Frag) (mg : Str → Option Value) (base : Heap) (name : Str) (k : Nat) (ps : List Str) (sp : Sp) : Prop :=
  ∃ f fd, mg name = some (.ref f) ∧ PySem.W.keepIn K (.ref f) = true ∧ Binds K fd ps [] ∧ FnOkH P w K mg base k f fd ps sp
theorem Def.calH {name : Str} {st : Stmt} {ps : List Str} {k : Nat} {sp : Sp} (d : Def K mg name st ps) (h : ∀ f fd, Fun K name name st f fd → FnOkH P w K mg base k f fd ps sp) : CalH P w K mg base name k ps sp := by
  obtain ⟨f, fd, hm, F, b⟩ := d
  exact ⟨f, fd, hm, F.kp, b, h f fd F⟩
end
section
variable {X : Cx} {x : Str} {e : Expr} {es : List Expr} {p pos : Pos} {t : TA} {k : Nat} {ps : List Str} {sp : Sp}
theorem pe_cH (c : CalH X.prog X.w X.K X.mg X.base x k ps sp) (hr : RoomH k X.A) (hg : Gl X x) (ha : PA X (e :: es) t) (hdb : (x == ("__debug__" : Str)) = false := by decide)
    (he : starEach (e :: es) X.env = (false, eval e X.env) :: starEach es X.env := by rfl) (hpl : (backTo pos (starEach es X.env)).any (·.1) = false := by rfl) :
    PE X (.Call (.Name x p) (e :: es) [] pos) (tCall sp [] E0 t) := by
  obtain ⟨f, fd, hm, hk, b, F⟩ := c
  intro pins s σ H Q I h
  refine wpAny_Call_Name_kw (ld_glob I hg hm ?_ hdb)
  refine PySem.W.callWith_K (h₀ := X.base) I.ok.mod.kin hk (thn (ha pos pins s σ H _ I h) fun us s1 ⟨vs, H1, I1, r, q⟩ => ⟨I1.kIn, ?_⟩) he hpl
  have r2 : Vals (vs ++ []) (us ++ []) := r.append .nil
  have hl : (us ++ []).length = ps.length := by rw [← r2.length]; exact F.len _ _ _ _ q
  refine wpAny_call (codeAny_mono (F.run X.A X.stack s1 H1 ⟨us, []⟩ (us ++ []) (vs ++ []) Q hr I1.env0 (b s1 us I1.kIn hl) r2 q) fun r s' hq => ?_)
  cases r with
  | error e => exact False.elim hq
  | ok fl =>
    cases fl with
    | ret u => exact I1.after hq
    | next => exact False.elim hq
    | brk => exact False.elim hq
    | cont => exact False.elim hq
theorem eqB {A : Around} {s : Shared} {bs : List Bool} {us : List Value} (r : Vals (bs.map V.bl) us) (e : Value → Bool) (hE : ∀ b, e (.bool b) = b) : ∀ y, y ∈ us.toArray → EqAt A s y (.bool true) (e y) := by
  intro y hy
  have hy : y ∈ us := by simpa using hy
  obtain ⟨i, hi, rfl⟩ := List.getElem_of_mem hy
  have hl := r.length
  rw [List.length_map] at hl
  obtain ⟨u, hu, ru⟩ := r.get (i := i) (x := .bl (bs[i]'(by omega))) (by rw [List.getElem?_map, List.getElem?_eq_getElem]; rfl)
  rw [List.getElem?_eq_getElem hi] at hu
  cases hu
  rw [show us[i] = Value.bool (bs[i]'(by omega)) from ru, hE]
  have := EqAt.bool_bool (A := A) (s := s) (bs[i]'(by omega)) true
  rw [show ((bs[i]'(by omega)) == true) = (bs[i]'(by omega)) by simp] at this
  exact this
noncomputable def boolOf : Value → Bool | .bool b => b | _ => false
theorem vals_bl {bs : List Bool} : ∀ {us : List Value}, Vals (bs.map V.bl) us → us = bs.map Value.bool := by
  induction bs with
  | nil => intro us r; cases r; rfl
  | cons b bs ih =>
    intro us r
    cases r with
    | cons r t => rw [show _ = Value.bool b from r, ih t]; rfl
noncomputable def rCountT (K : PySem.W.Frag) : V → List V → Hp → VK → Prop := fun x vs H Q => ∃ (l : Addr) (bs : List Bool), x = .ref l ∧ vs = [.bl true] ∧ H l = some (.lst (bs.map V.bl)) ∧ Q (.int (bs.countP id : Nat)) H
theorem mt_countT : MtM X "list.count" (rCountT X.K) := by
  intro pins s σ H x vs v us Q I rx rv h
  obtain ⟨l, bs, rfl, rfl, hH, q⟩ := h
  cases rx
  obtain ⟨u, rfl, ru⟩ := rv.one
  cases (show u = Value.bool true from ru)
  obtain ⟨z, its, n, r, hl, e⟩ := I.lstM hH
  refine call_meets F.slot_list_count ⟨_, e, rfl⟩ F.entry_list_count (F.args_list_count_2 _ _) (list_countAt l its.toArray n none #[] (.bool true) boolOf) ⟨e, eqB r boolOf (fun _ => rfl), ?_⟩
  refine ⟨.int _, H, I.tok _, ⟨_, rfl⟩, ?_⟩
  rw [vals_bl r]
  have : List.countP boolOf (bs.map Value.bool).toArray.toList = bs.countP id := by simp [List.countP_map]; rfl
  rw [this]; exact q
noncomputable def rIndexT (K : PySem.W.Frag) : V → List V → Hp → VK → Prop := fun x vs H Q => ∃ (l : Addr) (bs : List Bool) (j : Nat), x = .ref l ∧ vs = [.bl true] ∧ H l = some (.lst (bs.map V.bl)) ∧ bs[j]? = some true ∧ (∀ m, m < j → bs[m]? = some false) ∧ Q (.int (j : Nat)) H
theorem mt_indexT : MtM X "list.index" (rIndexT X.K) := by
  intro pins s σ H x vs v us Q I rx rv h
  obtain ⟨l, bs, j, rfl, rfl, hH, hj, hno, q⟩ := h
  cases rx
  obtain ⟨u, rfl, ru⟩ := rv.one
  cases (show u = Value.bool true from ru)
  obtain ⟨z, its, n, r, hl, e⟩ := I.lstM hH
  have eb := vals_bl r
  subst eb
  have hs := sizeLine_eq
  have hjl : j < bs.length := (List.getElem?_eq_some_iff.mp hj).1
  rw [List.length_map] at z
  refine call_meets F.slot_list_index ⟨_, e, rfl⟩ F.entry_list_index (F.args_list_index_2 _ _) (list_indexAt l (bs.map Value.bool).toArray n none #[] (.bool true) boolOf j (by simpa using hjl) (by omega) ?_ ?_) ⟨e, eqB r boolOf (fun _ => rfl), ?_⟩
  · have : bs[j] = true := by rw [List.getElem?_eq_getElem hjl] at hj; exact Option.some.inj hj
    simp [boolOf, this]
  · intro m hm hmj
    have hml : m < bs.length := by omega
    have := hno m hmj
    rw [List.getElem?_eq_getElem hml] at this
    simp [boolOf, Option.some.inj this]
  · exact ⟨.int _, H, I.tok _, ⟨_, rfl⟩, q⟩
end
end L2

namespace L2
open PySem PySem.Spec PyProof.Rows
structure Er where
  fall : Addr
  way : Addr
  round : Addr
  ring : Addr
  purse : Addr
  end_ : Addr
  stand : Addr
  many : Addr
  line : Addr
  row : Addr
noncomputable def Er.all (z : Er) : List Addr := [z.way, z.round, z.ring, z.purse, z.end_, z.stand, z.many, z.line, z.row]
noncomputable def Er.able (z : Er) : List Addr := [z.way, z.round, z.ring, z.purse, z.end_, z.stand, z.many, z.line]
noncomputable def clAt (K : PySem.W.Frag) (x : Str) : Addr := match PySem.W.nsIn K mainGlobals x with
  | some (some (.ref a)) => a
  | _ => 0
noncomputable def erOf (K : PySem.W.Frag) : Er := ⟨clAt K "FallError", clAt K "NoWay", clAt K "NoRound", clAt K "NoRing", clAt K "NoPurse", clAt K "NoEnd", clAt K "NoStand", clAt K "TooMany", clAt K "NoLine", clAt K "NoRow"⟩
noncomputable def exCB (K : PySem.W.Frag) (D : Addr) : Bool := PySem.W.findIn K (.ref D) "__getattribute__" == some (some (.builtin "BaseException.__getattribute__")) && PySem.W.findIn K (.ref D) "__getattr__" == some none && PySem.W.findIn K (.ref D) "__class__" == some (some (.builtin "object.__class__"))
  && PySem.W.specialIn K (.builtin "object.__class__") "__get__" == some (some (.builtin "getset_descriptor.__get__")) && PySem.W.takesIn K (.builtin "object.__class__") == some true && PySem.W.mroIn K D (.type "object") == some true && PySem.W.mroIn K D (.type "BaseException") == some true
theorem exC_of {K : PySem.W.Frag} {D : Addr} (h : exCB K D = true) : ExC K D := by
  unfold exCB at h
  simp only [Bool.and_eq_true, beq_iff_eq] at h
  obtain ⟨⟨⟨⟨⟨⟨h1, h2⟩, h3⟩, h4⟩, h5⟩, h6⟩, h7⟩ := h
  exact ⟨h1, h2, h3, h4, h5, h6, h7⟩
noncomputable def erB (K : PySem.W.Frag) (z : Er) : Bool :=
  (PySem.W.nsIn K mainGlobals "FallError" == some (some (.ref z.fall)) && PySem.W.nsIn K mainGlobals "NoWay" == some (some (.ref z.way)) && PySem.W.nsIn K mainGlobals "NoRound" == some (some (.ref z.round)) && PySem.W.nsIn K mainGlobals "NoRing" == some (some (.ref z.ring)) && PySem.W.nsIn K mainGlobals "NoPurse" == some (some (.ref z.purse))
    && PySem.W.nsIn K mainGlobals "NoEnd" == some (some (.ref z.end_)) && PySem.W.nsIn K mainGlobals "NoStand" == some (some (.ref z.stand)) && PySem.W.nsIn K mainGlobals "TooMany" == some (some (.ref z.many)) && PySem.W.nsIn K mainGlobals "NoLine" == some (some (.ref z.line)) && PySem.W.nsIn K mainGlobals "NoRow" == some (some (.ref z.row)))
  && (z.able.all fun c => PySem.W.excIn K c vMro "ValueError.__new__")
  && (z.all.all fun c => exCB K c && (PySem.W.clsIn K c).isSome && PySem.W.kitOne K (.ref c) (.type "ValueError") == some true && PySem.W.exmOne K (.ref c) (.ref z.fall) == some true && PySem.W.exmOne K (.ref c) (.ref c) == some true && z.all.all fun d => PySem.W.kitOne K (.ref c) (.ref d) == some (c == d))
  && decide z.all.Nodup
structure ErOk (K : PySem.W.Frag) (mg : Str → Option Value) (z : Er) : Prop where
  fall : mg "FallError" = some (.ref z.fall)
  way : mg "NoWay" = some (.ref z.way)
  round : mg "NoRound" = some (.ref z.round)
  ring : mg "NoRing" = some (.ref z.ring)
  purse : mg "NoPurse" = some (.ref z.purse)
  end_ : mg "NoEnd" = some (.ref z.end_)
  stand : mg "NoStand" = some (.ref z.stand)
  many : mg "TooMany" = some (.ref z.many)
  line : mg "NoLine" = some (.ref z.line)
  row : mg "NoRow" = some (.ref z.row)
  ab : ∀ c ∈ z.able, PySem.W.excIn K c vMro "ValueError.__new__" = true
  ex : ∀ c ∈ z.all, ExC K c
  cl : ∀ c ∈ z.all, ∃ cd, PySem.W.clsIn K c = some cd
  va : ∀ c ∈ z.all, PySem.W.kitOne K (.ref c) (.type "ValueError") = some true
  xm : ∀ c ∈ z.all, PySem.W.exmOne K (.ref c) (.ref z.fall) = some true
  xs : ∀ c ∈ z.all, PySem.W.exmOne K (.ref c) (.ref c) = some true
  ki : ∀ c ∈ z.all, ∀ d ∈ z.all, PySem.W.kitOne K (.ref c) (.ref d) = some (c == d)
  nd : z.all.Nodup
theorem erOk_of {K : PySem.W.Frag} {mg : Str → Option Value} {h : Heap} {z : Er} (X : K.In h) (G : h.Ns mainGlobals mg) (e : erB K z = true) : ErOk K mg z := by
  unfold erB at e
  simp only [Bool.and_eq_true, beq_iff_eq, List.all_eq_true, decide_eq_true_eq] at e
  obtain ⟨⟨⟨⟨⟨⟨⟨⟨⟨⟨⟨⟨n1, n2⟩, n3⟩, n4⟩, n5⟩, n6⟩, n7⟩, n8⟩, n9⟩, n10⟩, ha⟩, hall⟩, nd⟩ := e
  exact ⟨PySem.W.mg_of X G n1, PySem.W.mg_of X G n2, PySem.W.mg_of X G n3, PySem.W.mg_of X G n4, PySem.W.mg_of X G n5, PySem.W.mg_of X G n6, PySem.W.mg_of X G n7, PySem.W.mg_of X G n8, PySem.W.mg_of X G n9, PySem.W.mg_of X G n10, ha,
    fun c hc => exC_of (hall c hc).1.1.1.1.1, fun c hc => Option.isSome_iff_exists.mp (hall c hc).1.1.1.1.2, fun c hc => (hall c hc).1.1.1.2, fun c hc => (hall c hc).1.1.2, fun c hc => (hall c hc).1.2, fun c hc d hd => (hall c hc).2 d hd, nd⟩
theorem erOk_mk {K : PySem.W.Frag} {mg : Str → Option Value} {h : Heap} (X : K.In h) (G : h.Ns mainGlobals mg) (e : erB K (erOf K) = true) : ErOk K mg (erOf K) := erOk_of X G e
section
variable {K : PySem.W.Frag} {mg : Str → Option Value} {z : Er}
end
section
variable {X : Cx} {v : Expr} {te : TE} {a b : Str} {ja jb : Nat} {pa pb pf pos : Pos}
end
end L2

namespace L2
open PySem PySem.Spec PyProof.Rows
section
variable {X : Cx} {x : Str} {e : Expr} {es : List Expr} {p pos apos : Pos} {t : TA} {k : Nat} {ps : List Str} {sp : Sp}
variable {body : List Stmt} {tb : TSX} {ts : TS} {b₀ : Stmt} {suite : List Stmt} {c : Str} {C : Addr} {np hpos : Pos}
end
end L2
namespace My
open PySem PySem.Spec PyProof.Rows L2
end My
namespace My
open PySem PySem.Spec PyProof.Rows L2
theorem kno {K : PySem.W.Frag} {mg : Str → Option Value} {z : Er} (Z : ErOk K mg z) {c d : Addr} (hc : c ∈ z.all) (hd : d ∈ z.all) (h : c ≠ d) : PySem.W.kitOne K (.ref c) (.ref d) = some false := by
  rw [Z.ki c hc d hd, beq_eq_false_iff_ne.mpr h]
theorem kyes {K : PySem.W.Frag} {mg : Str → Option Value} {z : Er} (Z : ErOk K mg z) {c : Addr} (hc : c ∈ z.all) : PySem.W.kitOne K (.ref c) (.ref c) = some true := by
  rw [Z.ki c hc c hc, beq_self_eq_true]
end My
namespace My
open PySem PySem.Spec PyProof.Rows L2
end My
namespace My
open PySem PySem.Spec PyProof.Rows L2
end My

namespace HT
open PySem PySem.Spec PyProof.Rows
section
variable {prog : Program} {w : World} {A : Around} {E : Value → Shared → Prop} {s : Shared}
end
end HT
namespace L2
open PySem PySem.Spec PyProof.Rows
end L2
namespace My
open PySem PySem.Spec PyProof.Rows L2
theorem sIx_none (n d : Nat) : HT.sIx n d none = d := rfl
end My
namespace My
open PySem PySem.Spec PyProof.Rows L2
end My

namespace My
open PySem PySem.Spec PyProof.Rows L2
end My

namespace L2
open PySem PySem.Spec PyProof.Rows
end L2
namespace My
open PySem PySem.Spec PyProof.Rows L2
section
variable {p c wl : Addr} {R U : Int} {ws : List Way} {bv fv hv : V} {r : Int} {xs : List Int} {Hs H H' : Hp} {ns : List Int}
end
end My
namespace My
open PySem PySem.Spec PyProof.Rows L2
end My
namespace My
open PySem PySem.Spec PyProof.Rows L2
end My
namespace L2
open PySem PySem.Spec PyProof.Rows
end L2

namespace L2
open PySem PySem.Spec PyProof.Rows
section
variable {prog : Program} {w : World} {A : Around} {E : Value → Shared → Prop} {s : Shared} {l : Addr} {xs : Array (Int × Tok)}
end
section
variable {X : Cx}
end
end L2

namespace My
open PySem PySem.Spec PyProof.Rows L2
end My
namespace My
open PySem PySem.Spec PyProof.Rows L2
structure L3 (ws : List Way) : Prop where
  len : ws.length = 3
  ok : ∀ w ∈ ws, WayOk 2 1 w
  a0 : (wayAt ws 0).a = 0
  b0 : (wayAt ws 0).b = 0
  a1 : (wayAt ws 1).a = 0
  b1 : (wayAt ws 1).b = 1
  a2 : (wayAt ws 2).a = 1
  b2 : (wayAt ws 2).b = 0
end My
namespace My
open PySem PySem.Spec PyProof.Rows L2
end My

namespace My
open PySem PySem.Spec PyProof.Rows L2
end My

namespace L2
open PySem PySem.Spec PyProof.Rows
section
variable {X : Cx}
end
end L2

namespace My
open PySem PySem.Spec PyProof.Rows L2
end My

namespace My
open PySem PySem.Spec PyProof.Rows L2
end My

namespace My
open PySem PySem.Spec PyProof.Rows L2
inductive Rt (es : List (Nat × Nat)) : Nat → Nat → Prop
  | refl (a : Nat) : Rt es a a
  | step {a b c : Nat} : Rt es a b → (b, c) ∈ es → Rt es a c
end My

namespace L2
open PySem PySem.Spec PyProof.Rows
section
variable {M : Model} {A : Around} {E : Value → Shared → Prop} {s : Shared}
end
section
variable {X : Cx} {pins : List (Addr × Obj)} {σ : St} {H : Hp} {s : Shared} {scope : Scope} {N' : List Str} {k : Nat} {idx : List Nat} {sc : Scope} {N : List Str}
end
section
variable {X : Cx} {tg iter elt : Expr} {ifs : List Expr} {scope sc : Scope} {N N' : List Str} {k : Nat} {idx : List Nat} {wi : TI} {g : TG} {tt : TT} {te : TE} {pos : Pos}
end
end L2

namespace My
open PySem PySem.Spec PyProof.Rows L2
end My

namespace My
open PySem PySem.Spec PyProof.Rows L2

inductive Vl where
  | jnk | jar | tape | d (x : PyData) | own (xs : List PyData) | dct (kvs : List (Key × PyData)) | own2 (ks : Option (List Key)) (ps : List (Addr × List PyData)) | pin (v : V) (x : PyData)
structure Src where
  jv : V
  ch : List Addr
  inv : Nat → Hp → Prop
  keep : ∀ {n : Nat} {H H' : Hp}, inv n H → (∀ b ∈ ch, ∀ o, H b = some o → H' b = some o) → inv n H'
  dom : ∀ {n : Nat} {H : Hp}, inv n H → ∀ b ∈ ch, H b ≠ none
noncomputable def JarN (H : Hp) (p c : Addr) (n : Nat) : Prop := ∃ e, JarE H p c e ∧ (n = 0 ∨ e = some (n : Int))
theorem JarN.jar {H : Hp} {p c : Addr} {n : Nat} (J : JarN H p c n) : Jar H p c := J.choose_spec.1.jar
theorem Jar.n {H : Hp} {p c : Addr} (J : Jar H p c) : JarN H p c 0 := let ⟨e, h⟩ := J.e; ⟨e, h, .inl rfl⟩
theorem jar_dom {H : Hp} {p c : Addr} {n : Nat} (J : JarN H p c n) : ∀ b ∈ [p, c], H b ≠ none := fun b hb z => J.jar.fresh z hb
theorem jar_keep {H H' : Hp} {p c : Addr} {n : Nat} (J : JarN H p c n) (h : ∀ b ∈ [p, c], ∀ o, H b = some o → H' b = some o) : JarN H' p c n := by
  obtain ⟨e, ⟨ns, r, s, t, X, h3⟩, hn⟩ := J
  exact ⟨e, ⟨ns, r, s, t, ⟨h _ (by simp) _ X.d, h _ (by simp) _ X.l⟩, h3⟩, hn⟩
noncomputable def Src.jar (p c : Addr) : Src := ⟨.ref p, [p, c], fun n H => JarN H p c n, fun J h => jar_keep J h, fun J => jar_dom J⟩
theorem tape_keep {H H' : Hp} {p c : Addr} {n : Nat} (J : Tape H p c n) (h : ∀ b ∈ [p, c], ∀ o, H b = some o → H' b = some o) : Tape H' p c n := by
  obtain ⟨ns, a, g, h1, h2, h3⟩ := J.ex
  exact ⟨ns, a, g, h _ (by simp) _ h1, h _ (by simp) _ h2, h3⟩
noncomputable def Src.tape (p c : Addr) : Src := ⟨.ref p, [p, c], fun n H => Tape H p c n, fun J h => tape_keep J h, fun J b hb z => J.fresh z hb⟩
noncomputable def Step (S : Src) (n' : Nat) (H H' : Hp) : Prop := Kp S.ch H H' ∧ S.inv n' H'
section
variable {S : Src} {n m : Nat} {H H1 H2 H' : Hp} {ex : List Addr}
theorem Step.refl (h : S.inv n H) : Step S n H H := ⟨.refl, h⟩
theorem Step.trans (a : Step S n H H1) (b : Step S m H1 H2) : Step S m H H2 := ⟨a.1.trans b.1, b.2⟩
theorem Step.new (h : S.inv n H) (k : Kp [] H H') : Step S n H H' := ⟨k.of, S.keep h fun b _ o e => k b o e (by simp)⟩
theorem Step.then (a : Step S n H H1) (k : Kp [] H1 H2) : Step S n H H2 := a.trans (.new a.2 k)
theorem Step.free {p : Addr} (a : Step S n H H1) (h : H1 p = none) : H p = none := by
  cases e : H p with
  | none => rfl
  | some o =>
    by_cases hp : p ∈ S.ch
    · exact absurd h (S.dom a.2 p hp)
    · rw [a.1 p o e hp] at h; cases h
noncomputable def Alc (ex : List Addr) (H : Hp) : Prop := ∀ a ∈ ex, H a ≠ none
theorem Alc.nm {p : Addr} (h : Alc ex H) (e : H p = none) : p ∉ ex := fun z => h p z e
theorem Alc.step (h : Alc ex H) (k : Step S n H H') : Alc ex H' := fun a ha z => h a ha (k.free z)
mutual
theorem Rep.add {l : Addr} (h : H l = none) : ∀ {d : PyData} {v : V}, Rep ex H d v → Rep (l :: ex) H d v
  | _, _, .none => .none
  | _, _, .bool b => .bool b
  | _, _, .int i => .int i
  | _, _, .str x => .str x
  | _, _, .tuple e n z r => .tuple e (fun q => (List.mem_cons.mp q).elim (fun q => by rw [q, h] at e; cases e) n) z (Reps.add h r)
  | _, _, .list e n z r => .list e (fun q => (List.mem_cons.mp q).elim (fun q => by rw [q, h] at e; cases e) n) z (Reps.add h r)
  | _, _, .obj e n k r => .obj e (fun q => (List.mem_cons.mp q).elim (fun q => by rw [q, h] at e; cases e) n) k (Reps.add h r)
  | _, _, .dctf e n k r => .dctf e (fun q => (List.mem_cons.mp q).elim (fun q => by rw [q, h] at e; cases e) n) k (Reps.add h r)
theorem Reps.add {l : Addr} (h : H l = none) : ∀ {ds : List PyData} {vs : List V}, Reps ex H ds vs → Reps (l :: ex) H ds vs
  | _, _, .nil => .nil
  | _, _, .cons r t => .cons (Rep.add h r) (Reps.add h t)
end
theorem Reps.sub {l : Addr} {d : List PyData} {v : List V} (r : Reps (l :: ex) H d v) : Reps ex H d v := Reps.mono (fun b hb => List.mem_cons_of_mem _ hb) r
end
noncomputable def exm (m : Bool) (S : Src) (ex : List Addr) : List Addr := match m with | true => ex | false => S.ch
noncomputable def KvR (ex : List Addr) (H : Hp) (kvs : List (Key × PyData)) (kws : List (Key × V)) : Prop := kws.map (·.1) = kvs.map (·.1) ∧ Reps ex H (kvs.map (·.2)) (kws.map (·.2))
noncomputable def nestO (ks : Option (List Key)) (rs : List V) : HO := match ks with
  | none => .lst rs
  | some ks => .dK (ks.zip rs)
structure In2 (S : Src) (ex : List Addr) (H : Hp) (p : Addr × List PyData) : Prop where
  m : p.1 ∈ ex
  c : p.1 ∉ S.ch
  h : ∃ vs, H p.1 = some (.lst vs) ∧ vs.length ≤ sizeLine ∧ Reps ex H p.2 vs
noncomputable def refs (ps : List (Addr × List PyData)) : List V := ps.map fun p => .ref p.1
structure Own2 (S : Src) (ex : List Addr) (H : Hp) (ks : Option (List Key)) (ps : List (Addr × List PyData)) (a : Addr) : Prop where
  h : H a = some (nestO ks (refs ps))
  z : ps.length ≤ 1000000
  k : ∀ l, ks = some l → l.length = ps.length
  nd : (a :: ps.map (·.1)).Nodup
  m : a ∈ ex
  c : a ∉ S.ch
  i : ∀ p ∈ ps, In2 S ex H p
noncomputable def SlR (S : Src) (ex : List Addr) (H : Hp) : Vl → Option V → Prop
  | .jnk, _ => True
  | .jar, o => ∃ p c, S = Src.jar p c ∧ o = some (.ref p)
  | .tape, o => ∃ p c, S = Src.tape p c ∧ o = some (.ref p)
  | .d x, o => ∃ v, o = some v ∧ Rep ex H x v
  | .own xs, o => ∃ a vs, o = some (.ref a) ∧ H a = some (.lst vs) ∧ vs.length ≤ sizeLine ∧ Reps ex H xs vs ∧ a ∈ ex ∧ a ∉ S.ch
  | .dct kvs, o => ∃ a kws, o = some (.ref a) ∧ H a = some (.dK kws) ∧ KvR ex H kvs kws ∧ a ∈ ex ∧ a ∉ S.ch
  | .own2 ks ps, o => ∃ a, o = some (.ref a) ∧ Own2 S ex H ks ps a
  | .pin v x, o => o = some v ∧ Rep ex H x v
structure Ev (S : Src) (ex : List Addr) (env : List Vl) (σ : L2.St) (H : Hp) (n : Nat) : Prop where
  len : env.length ≤ σ.length
  sl : ∀ (i : Nat) (w : Vl), env[i]? = some w → SlR S ex H w (σ[i]?).join
  ch : ∀ a ∈ S.ch, a ∈ ex
  al : Alc ex H
  inv : S.inv n H
section
variable {S : Src} {n m : Nat} {H H1 H2 H' : Hp} {ex : List Addr} {env : List Vl} {σ : L2.St}
theorem SlR.kp {w : Vl} {o : Option V} (hc : ∀ a ∈ S.ch, a ∈ ex) (k : Kp S.ch H H') (h : SlR S ex H w o) : SlR S ex H' w o := by
  have kx : Kp ex H H' := k.mono hc
  cases w with
  | jnk => trivial
  | jar => exact h
  | tape => exact h
  | d x => obtain ⟨v, e, r⟩ := h; exact ⟨v, e, r.keep kx⟩
  | pin v x => obtain ⟨e, r⟩ := h; exact ⟨e, r.keep kx⟩
  | own xs => obtain ⟨a, vs, e, h1, h2, h3, h4, h5⟩ := h; exact ⟨a, vs, e, k _ _ h1 h5, h2, h3.keep kx, h4, h5⟩
  | dct kvs => obtain ⟨a, kws, e, h1, ⟨h2, h3⟩, h4, h5⟩ := h; exact ⟨a, kws, e, k _ _ h1 h5, ⟨h2, h3.keep kx⟩, h4, h5⟩
  | own2 ks ps => obtain ⟨a, e, q⟩ := h; exact ⟨a, e, k _ _ q.h q.c, q.z, q.k, q.nd, q.m, q.c, fun p hp => let w := q.i p hp; ⟨w.m, w.c, let ⟨vs, h1, h2, h3⟩ := w.h; ⟨vs, k _ _ h1 w.c, h2, h3.keep kx⟩⟩⟩
theorem Ev.step (E : Ev S ex env σ H n) (k : Step S m H H') : Ev S ex env σ H' m := ⟨E.len, fun i w e => (E.sl i w e).kp E.ch k.1, E.ch, E.al.step k, k.2⟩
theorem Ev.rep (E : Ev S ex env σ H n) (k : Step S m H H') {d : PyData} {v : V} (r : Rep ex H d v) : Rep ex H' d v := r.keep (k.1.mono E.ch)
theorem Ev.reps (E : Ev S ex env σ H n) (k : Step S m H H') {d : List PyData} {v : List V} (r : Reps ex H d v) : Reps ex H' d v := r.keep (k.1.mono E.ch)
theorem Ev.sub (E : Ev S ex env σ H n) (b : Bool) : ∀ a ∈ exm b S ex, a ∈ ex := by
  cases b with
  | true => exact fun a h => h
  | false => exact E.ch
theorem Ev.sup (E : Ev S ex env σ H n) (b : Bool) : ∀ a ∈ S.ch, a ∈ exm b S ex := by
  cases b with
  | true => exact E.ch
  | false => exact fun a h => h
theorem Ev.alm (E : Ev S ex env σ H n) (b : Bool) : Alc (exm b S ex) H := fun a h => E.al a (E.sub b a h)
theorem Ev.repm (E : Ev S ex env σ H n) (b : Bool) (k : Step S m H H') {d : PyData} {v : V} (r : Rep (exm b S ex) H d v) : Rep (exm b S ex) H' d v := r.keep (k.1.mono (E.sup b))
theorem Rep.nil {d : PyData} {v : V} (r : Rep ex H d v) : Rep [] H d v := Rep.mono (fun b hb => by cases hb) r
theorem Reps.nil' {d : List PyData} {v : List V} (r : Reps ex H d v) : Reps [] H d v := Reps.mono (fun b hb => by cases hb) r
theorem join_some {i : Nat} {v : V} (h : (σ[i]?).join = some v) : σ[i]? = some (some v) := by
  cases e : σ[i]? with
  | none => rw [e] at h; cases h
  | some o => rw [e] at h; cases o with
    | none => cases h
    | some u => cases h; rfl
end
noncomputable abbrev GE := List Vl → Nat → (PyData → Nat → Prop) → Prop
noncomputable abbrev GT := List Vl → Nat → (Bool → Nat → Prop) → Prop
noncomputable abbrev GA := List Vl → Nat → (List Vl → Nat → Prop) → Prop
noncomputable abbrev GN := List Vl → Nat → (List PyData → Nat → Prop) → Prop
noncomputable abbrev GSp := List Vl → Nat → (PyData → Nat → Prop) → Prop
noncomputable def ArgsR (S : Src) (ex : List Addr) (H : Hp) : List Vl → List V → Prop
  | [], [] => True
  | a :: as, v :: vs => SlR S ex H a (some v) ∧ ArgsR S ex H as vs
  | _, _ => False
class EV (m : Bool) (te : TE) (g : outParam GE) : Prop where
  ev : ∀ {S : Src} {ex : List Addr} {env : List Vl} {σ : L2.St} {H : Hp} {n : Nat} {Q : VK} {P : PyData → Nat → Prop}, Ev S ex env σ H n → g env n P → (∀ d n' v H', P d n' → Step S n' H H' → Rep (exm m S ex) H' d v → Q v H') → te σ H Q
class NV (te : TE) (g : outParam GN) : Prop where
  nv : ∀ {S : Src} {ex : List Addr} {env : List Vl} {σ : L2.St} {H : Hp} {n : Nat} {Q : VK} {P : List PyData → Nat → Prop}, Ev S ex env σ H n → g env n P → (∀ ds n' a vs H', P ds n' → Step S n' H H' → H a = none → H' a = some (.lst vs) → vs.length ≤ sizeLine → Reps (a :: ex) H' ds vs → Q (.ref a) H') → te σ H Q
class TV (tt : TT) (g : outParam GT) : Prop where
  tv : ∀ {S : Src} {ex : List Addr} {env : List Vl} {σ : L2.St} {H : Hp} {n : Nat} {Q : Bool → Hp → Prop} {P : Bool → Nat → Prop}, Ev S ex env σ H n → g env n P → (∀ b n' H', P b n' → Step S n' H H' → Q b H') → tt σ H Q
class AV (m : Bool) (ta : TA) (g : outParam GA) : Prop where
  av : ∀ {S : Src} {ex : List Addr} {env : List Vl} {σ : L2.St} {H : Hp} {n : Nat} {Q : List V → Hp → Prop} {P : List Vl → Nat → Prop}, Ev S ex env σ H n → g env n P → (∀ as n' vs H', P as n' → Step S n' H H' → ArgsR S (exm m S ex) H' as vs → Q vs H') → ta σ H Q
class DV (m : Bool) (ta : TA) (g : outParam GN) : Prop where
  dv : ∀ {S : Src} {ex : List Addr} {env : List Vl} {σ : L2.St} {H : Hp} {n : Nat} {Q : List V → Hp → Prop} {P : List PyData → Nat → Prop}, Ev S ex env σ H n → g env n P → (∀ ds n' vs H', P ds n' → Step S n' H H' → Reps (exm m S ex) H' ds vs → Q vs H') → ta σ H Q
noncomputable abbrev G2 := PyData → PyData → (PyData → Prop) → Prop
class OV (r : R2) (f : outParam G2) : Prop where
  ov : ∀ {ex : List Addr} {H : Hp} {x y : V} {dx dy : PyData} {Q : VK} {P : PyData → Prop}, Alc ex H → Rep ex H dx x → Rep ex H dy y → f dx dy P → (∀ d v H', P d → Kp [] H H' → Rep ex H' d v → Q v H') → r x y H Q
class OS (r : R2) (f : outParam G2) : Prop where
  os : ∀ {H : Hp} {x y : V} {dx dy : PyData} {Q : VK} {P : PyData → Prop}, Rep [] H dx x → Rep [] H dy y → f dx dy P → (∀ d v, P d → (∀ ex, Rep ex H d v) → Q v H) → r x y H Q
noncomputable abbrev G1 := List PyData → (PyData → Prop) → Prop
class CS (r : List V → Hp → VK → Prop) (f : outParam G1) : Prop where
  cs : ∀ {H : Hp} {xs : List V} {ds : List PyData} {Q : VK} {P : PyData → Prop}, Reps [] H ds xs → f ds P → (∀ d v, P d → (∀ ex, Rep ex H d v) → Q v H) → r xs H Q
class CO (r : List V → Hp → VK → Prop) (f : outParam G1) : Prop where
  co : ∀ {ex : List Addr} {H : Hp} {xs : List V} {ds : List PyData} {Q : VK} {P : PyData → Prop}, Alc ex H → Reps ex H ds xs → f ds P → (∀ d v H', P d → Kp [] H H' → Rep ex H' d v → Q v H') → r xs H Q
noncomputable abbrev gVar (i : Nat) : GE := fun env n Q => match env[i]? with
  | some (.d x) => Q x n
  | some (.pin _ x) => Q x n
  | _ => False
noncomputable abbrev gLook (i : Nat) : GE := fun env n Q => match env[i]? with
  | some (.d x) => Q x n
  | some (.pin _ x) => Q x n
  | some (.own xs) => Q (.list xs) n
  | some (.own2 none ps) => Q (.list (ps.map fun p => .list p.2)) n
  | _ => False
theorem own2_reps {S : Src} {ex : List Addr} {H : Hp} : ∀ {ps : List (Addr × List PyData)}, (∀ a ∈ S.ch, a ∈ ex) → (∀ p ∈ ps, In2 S ex H p) → Reps S.ch H (ps.map fun p => PyData.list p.2) (refs ps)
  | [], _, _ => .nil
  | p :: ps, hc, h => by
    have w := h p List.mem_cons_self
    obtain ⟨vs, h1, h2, h3⟩ := w.h
    exact .cons (.list h1 w.c h2 (Reps.mono hc h3)) (own2_reps hc fun q hq => h q (List.mem_cons_of_mem _ hq))
noncomputable abbrev gC (d : PyData) : GE := fun _ n Q => Q d n
section
variable {S : Src} {n m : Nat} {H H1 H2 H' : Hp} {ex : List Addr} {env : List Vl} {σ : L2.St} {b : Bool} {te ta tb tc : TE} {g ga gb gc : GE}
noncomputable instance ev_var {i : Nat} : EV true (tVar i) (gVar i) := ⟨fun {S ex env σ H n Q P} E h k => by
  unfold gVar at h
  split at h
  · rename_i x e
    obtain ⟨v, ev, r⟩ := E.sl i _ e
    exact ⟨v, join_some ev, k _ _ v H h (.refl E.inv) r⟩
  · rename_i v x e
    obtain ⟨ev, r⟩ := E.sl i _ e
    exact ⟨v, join_some ev, k _ _ v H h (.refl E.inv) r⟩
  · exact h.elim⟩
noncomputable instance pv_var {i : Nat} : EV false (tVar i) (gLook i) := ⟨fun {S ex env σ H n Q P} E h k => by
  unfold gLook at h
  split at h
  · rename_i x e
    obtain ⟨v, ev, r⟩ := E.sl i _ e
    exact ⟨v, join_some ev, k _ _ v H h (.refl E.inv) (Rep.mono E.ch r)⟩
  · rename_i v x e
    obtain ⟨ev, r⟩ := E.sl i _ e
    exact ⟨v, join_some ev, k _ _ v H h (.refl E.inv) (Rep.mono E.ch r)⟩
  · rename_i xs e
    obtain ⟨a, vs, ev, h1, h2, h3, h4, h5⟩ := E.sl i _ e
    exact ⟨_, join_some ev, k _ _ _ H h (.refl E.inv) (.list h1 h5 h2 (Reps.mono E.ch h3))⟩
  · rename_i ps e
    obtain ⟨a, ev, q⟩ := E.sl i _ e
    have hs : sizeLine = 16777216 := sizeLine_eq
    exact ⟨_, join_some ev, k _ _ _ H h (.refl E.inv) (.list q.h q.c (by unfold refs; rw [List.length_map]; have := q.z; omega) (own2_reps E.ch q.i))⟩
  · exact h.elim⟩
noncomputable instance ev_int {i : Int} : EV b (tC (.int i)) (gC (.int i)) := ⟨fun E h k => k _ _ _ _ h (.refl E.inv) (.int i)⟩
noncomputable instance ev_bl {i : Bool} : EV b (tC (.bl i)) (gC (.bool i)) := ⟨fun E h k => k _ _ _ _ h (.refl E.inv) (.bool i)⟩
noncomputable instance ev_str {i : Str} : EV b (tC (.str i)) (gC (.str i)) := ⟨fun E h k => k _ _ _ _ h (.refl E.inv) (.str i)⟩
noncomputable instance ev_non : EV b (tC .non) (gC .none) := ⟨fun E h k => k _ _ _ _ h (.refl E.inv) .none⟩

noncomputable abbrev gOp (f : G2) (ga gb : GE) : GE := fun env n Q => ga env n fun x n1 => gb env n1 fun y n2 => f x y fun d => Q d n2
noncomputable instance ev_opS {r : R2} {f : G2} [O : OS r f] [A : EV false ta ga] [B : EV false tb gb] : EV b (tOp r ta tb) (gOp f ga gb) := ⟨fun {S ex env σ H n Q P} E h k => by
  refine A.ev E h fun x n1 v1 H1 h1 s1 r1 => B.ev (E.step s1) h1 fun y n2 v2 H2 h2 s2 r2 => ?_
  exact O.os (Rep.nil ((E.step s1).repm false s2 r1)) (Rep.nil r2) h2 fun d v p r => k _ _ _ _ p (s1.trans s2) (r _)⟩
noncomputable instance (priority := low) ev_op {r : R2} {f : G2} [O : OV r f] [A : EV b ta ga] [B : EV b tb gb] : EV b (tOp r ta tb) (gOp f ga gb) := ⟨fun {S ex env σ H n Q P} E h k => by
  refine A.ev E h fun x n1 v1 H1 h1 s1 r1 => B.ev (E.step s1) h1 fun y n2 v2 H2 h2 s2 r2 => ?_
  exact O.ov ((E.step (s1.trans s2)).alm b) ((E.step s1).repm b s2 r1) r2 h2 fun d v H' p kp r => k _ _ _ _ p ((s1.trans s2).then kp) r⟩
noncomputable abbrev gNew (g : GN) : GE := fun env n Q => g env n fun ds n' => Q (.list ds) n'
noncomputable instance (priority := low) ev_nv {g : GN} [N : NV te g] : EV b te (gNew g) := ⟨fun {S ex env σ H n Q P} E h k =>
  N.nv E h fun ds n' a vs H' p st ha hl hz r => k _ _ _ _ p st (.list hl (fun z => E.alm b a z ha) hz (Reps.mono (fun c hc => List.mem_cons_of_mem _ (E.sub b c hc)) r))⟩
theorem nv_close {S : Src} {ex : List Addr} {env : List Vl} {σ : L2.St} {H H1 : Hp} {n n1 : Nat} {p : Addr} {vs : List V} {ds : List PyData} (E : Ev S ex env σ H n) (s : Step S n1 H H1) (hp : H1 p = none) (r : Reps ex H1 ds vs) :
    Step S n1 H (upd H1 p (.lst vs)) ∧ H p = none ∧ Reps (p :: ex) (upd H1 p (.lst vs)) ds vs :=
  ⟨s.then (Kp.new hp _), s.free hp, (Reps.add hp r).keep (Kp.new hp _)⟩
noncomputable abbrev gNilA : GA := fun _ n Q => Q [] n
noncomputable abbrev gArg (i : Nat) (rest : GA) : GA := fun env n Q => match env[i]? with
  | some (.d x) => rest env n fun as n' => Q (.d x :: as) n'
  | some .jar => rest env n fun as n' => Q (.jar :: as) n'
  | some .tape => rest env n fun as n' => Q (.tape :: as) n'
  | _ => False
noncomputable abbrev gArgL (i : Nat) (rest : GA) : GA := fun env n Q => match env[i]? with
  | some (.d x) => rest env n fun as n' => Q (.d x :: as) n'
  | some (.own xs) => rest env n fun as n' => Q (.d (.list xs) :: as) n'
  | some (.own2 none ps) => rest env n fun as n' => Q (.d (.list (ps.map fun p => .list p.2)) :: as) n'
  | some .jar => rest env n fun as n' => Q (.jar :: as) n'
  | some .tape => rest env n fun as n' => Q (.tape :: as) n'
  | _ => False
noncomputable abbrev gConsA (g : GE) (rest : GA) : GA := fun env n Q => g env n fun d n1 => rest env n1 fun as n2 => Q (.d d :: as) n2
noncomputable abbrev gNilD : GN := fun _ n Q => Q [] n
noncomputable abbrev gConsD (g : GE) (rest : GN) : GN := fun env n Q => g env n fun d n1 => rest env n1 fun as n2 => Q (d :: as) n2
noncomputable instance av_nil : AV b tNil gNilA := ⟨fun E h k => k _ _ _ _ h (.refl E.inv) trivial⟩
noncomputable instance (priority := low) av_cons {t : TA} {gt : GA} [A : EV b te g] [B : AV b t gt] : AV b (tCons te t) (gConsA g gt) := ⟨fun {S ex env σ H n Q P} E h k =>
  A.ev E h fun x n1 v1 H1 h1 s1 r1 => B.av (E.step s1) h1 fun as n2 vs H2 h2 s2 r2 => k _ _ _ _ h2 (s1.trans s2) ⟨⟨_, rfl, (E.step s1).repm b s2 r1⟩, r2⟩⟩
noncomputable instance av_var {t : TA} {gt : GA} {i : Nat} [B : AV true t gt] : AV true (tCons (tVar i) t) (gArg i gt) := ⟨fun {S ex env σ H n Q P} E h k => by
  unfold gArg at h
  split at h
  · rename_i x e
    obtain ⟨v, ev, r⟩ := E.sl i _ e
    exact ⟨v, join_some ev, B.av E h fun as n2 vs H2 h2 s2 r2 => k _ _ _ _ h2 s2 ⟨⟨_, rfl, E.repm true s2 r⟩, r2⟩⟩
  · rename_i e
    obtain ⟨p, c, hS, ev⟩ := E.sl i _ e
    exact ⟨_, join_some ev, B.av E h fun as n2 vs H2 h2 s2 r2 => k _ _ _ _ h2 s2 ⟨⟨p, c, hS, rfl⟩, r2⟩⟩
  · rename_i e
    obtain ⟨p, c, hS, ev⟩ := E.sl i _ e
    exact ⟨_, join_some ev, B.av E h fun as n2 vs H2 h2 s2 r2 => k _ _ _ _ h2 s2 ⟨⟨p, c, hS, rfl⟩, r2⟩⟩
  · exact h.elim⟩
noncomputable instance av_look {t : TA} {gt : GA} {i : Nat} [B : AV false t gt] : AV false (tCons (tVar i) t) (gArgL i gt) := ⟨fun {S ex env σ H n Q P} E h k => by
  unfold gArgL at h
  split at h
  · rename_i x e
    obtain ⟨v, ev, r⟩ := E.sl i _ e
    exact ⟨v, join_some ev, B.av E h fun as n2 vs H2 h2 s2 r2 => k _ _ _ _ h2 s2 ⟨⟨_, rfl, E.repm false s2 (Rep.mono E.ch r)⟩, r2⟩⟩
  · rename_i xs e
    obtain ⟨a, vs, ev, h1, h2, h3, h4, h5⟩ := E.sl i _ e
    exact ⟨_, join_some ev, B.av E h fun as n2 vs' H2 hh s2 r2 => k _ _ _ _ hh s2 ⟨⟨_, rfl, E.repm false s2 (.list h1 h5 h2 (Reps.mono E.ch h3))⟩, r2⟩⟩
  · rename_i ps e
    obtain ⟨a, ev, q⟩ := E.sl i _ e
    exact ⟨_, join_some ev, B.av E h fun as n2 vs' H2 hh s2 r2 => k _ _ _ _ hh s2 ⟨⟨_, rfl, E.repm false s2 (.list q.h q.c (by unfold refs; rw [List.length_map, sizeLine_eq]; have := q.z; omega) (own2_reps E.ch q.i))⟩, r2⟩⟩
  · rename_i e
    obtain ⟨p, c, hS, ev⟩ := E.sl i _ e
    exact ⟨_, join_some ev, B.av E h fun as n2 vs H2 h2 s2 r2 => k _ _ _ _ h2 s2 ⟨⟨p, c, hS, rfl⟩, r2⟩⟩
  · rename_i e
    obtain ⟨p, c, hS, ev⟩ := E.sl i _ e
    exact ⟨_, join_some ev, B.av E h fun as n2 vs H2 h2 s2 r2 => k _ _ _ _ h2 s2 ⟨⟨p, c, hS, rfl⟩, r2⟩⟩
  · exact h.elim⟩
noncomputable instance dv_nil : DV b tNil gNilD := ⟨fun E h k => k _ _ _ _ h (.refl E.inv) .nil⟩
noncomputable instance dv_cons {t : TA} {gt : GN} [A : EV b te g] [B : DV b t gt] : DV b (tCons te t) (gConsD g gt) := ⟨fun {S ex env σ H n Q P} E h k =>
  A.ev E h fun x n1 v1 H1 h1 s1 r1 => B.dv (E.step s1) h1 fun as n2 vs H2 h2 s2 r2 => k _ _ _ _ h2 (s1.trans s2) (.cons ((E.step s1).repm b s2 r1) r2)⟩
noncomputable abbrev gTupD (t : GN) : GE := fun env n Q => t env n fun ds n1 => ds.length ≤ sizeLine ∧ Q (.tuple ds) n1
noncomputable abbrev gLstD (t : GN) : GN := fun env n Q => t env n fun ds n1 => ds.length ≤ sizeLine ∧ Q ds n1
noncomputable instance ev_tup {t : TA} {gt : GN} [A : DV b t gt] : EV b (tTup t) (gTupD gt) := ⟨fun {S ex env σ H n Q P} E h k =>
  A.dv E h fun ds n1 vs H1 h1 s1 r1 => ⟨by rw [← r1.length]; exact h1.1, fun p hp => k _ _ _ _ h1.2 (s1.then (Kp.new hp _)) (.tuple upd_same ((E.step s1).alm b |>.nm hp) (by rw [← r1.length]; exact h1.1) (r1.keep (Kp.new hp _)))⟩⟩
noncomputable instance nv_lst {t : TA} {gt : GN} [A : DV true t gt] : NV (tLst t) (gLstD gt) := ⟨fun {S ex env σ H n Q P} E h k =>
  A.dv E h fun ds n1 vs H1 h1 s1 r1 => ⟨by rw [← r1.length]; exact h1.1, fun p hp => by
    obtain ⟨c1, c2, c3⟩ := nv_close E s1 hp r1
    exact k _ _ _ _ _ h1.2 c1 c2 upd_same (by rw [← r1.length]; exact h1.1) c3⟩⟩
noncomputable abbrev gCB (f : G1) (t : GN) : GE := fun env n Q => t env n fun ds n1 => f ds fun d => Q d n1
noncomputable instance ev_cs {r : List V → Hp → VK → Prop} {f : G1} {t : TA} {gt : GN} [C : CS r f] [A : DV false t gt] : EV b (tCB r t) (gCB f gt) := ⟨fun {S ex env σ H n Q P} E h k =>
  A.dv E h fun ds n1 vs H1 h1 s1 r1 => C.cs (Reps.nil' r1) h1 fun d v p r => k _ _ _ _ p s1 (r _)⟩
noncomputable instance (priority := low) ev_co {r : List V → Hp → VK → Prop} {f : G1} {t : TA} {gt : GN} [C : CO r f] [A : DV b t gt] : EV b (tCB r t) (gCB f gt) := ⟨fun {S ex env σ H n Q P} E h k =>
  A.dv E h fun ds n1 vs H1 h1 s1 r1 => C.co ((E.step s1).alm b) r1 h1 fun d v H' p kp r => k _ _ _ _ p (s1.then kp) r⟩
noncomputable def liftV (sp : GSp) : Sp := fun vs H Q _ => ∃ (S : Src) (ex : List Addr) (as : List Vl) (n : Nat) (P : PyData → Nat → Prop), ArgsR S ex H as vs ∧ (∀ a ∈ S.ch, a ∈ ex) ∧ Alc ex H ∧ S.inv n H ∧ sp as n P ∧ ∀ d n' v H', P d n' → Step S n' H H' → Rep ex H' d v → Q v H'
noncomputable def scalD : PyData → Bool
  | .none | .bool _ | .int _ | .str _ => true
  | _ => false
theorem scal_rep {d : PyData} {v : V} (h : scalD d = true) (r : Rep ex H d v) : ∀ ex', Rep ex' H d v := fun ex' => by
  cases r with
  | none => exact .none
  | bool b => exact .bool b
  | int i => exact .int i
  | str x => exact .str x
  | tuple => cases h
  | list => cases h
  | obj => cases h
  | dctf => cases h
class Scal (sp : GSp) : Prop where
  sc : ∀ {as : List Vl} {n : Nat} {P : PyData → Nat → Prop}, sp as n P → sp as n fun d n' => scalD d = true ∧ P d n'
noncomputable abbrev gCall (sp : GSp) (ga : GA) : GE := fun env n Q => ga env n fun as n1 => sp as n1 Q
noncomputable instance ev_callS {sp : GSp} {E' : XK} {t : TA} {gt : GA} [Z : Scal sp] [A : AV false t gt] : EV b (tCall (liftV sp) [] E' t) (gCall sp gt) := ⟨fun {S ex env σ H n Q P} E h k =>
  A.av E h fun as n1 vs H1 h1 s1 r1 => by
    rw [List.append_nil]
    exact ⟨S, S.ch, as, n1, _, r1, fun _ h => h, fun a ha => (E.step s1).al a (E.ch a ha), s1.2, Z.sc h1, fun d n' v H' p s2 r => k _ _ _ _ p.2 (s1.trans s2) (scal_rep p.1 r _)⟩⟩
noncomputable instance (priority := low) ev_call {sp : GSp} {E' : XK} {t : TA} {gt : GA} [A : AV b t gt] : EV b (tCall (liftV sp) [] E' t) (gCall sp gt) := ⟨fun {S ex env σ H n Q P} E h k =>
  A.av E h fun as n1 vs H1 h1 s1 r1 => by
    rw [List.append_nil]
    exact ⟨S, exm b S ex, as, n1, _, r1, E.sup b, (E.step s1).alm b, s1.2, h1, fun d n' v H' p s2 r => k _ _ _ _ p (s1.trans s2) r⟩⟩
noncomputable abbrev gTest (g : GE) : GT := fun env n Q => g env n fun d n1 => match d with
  | .bool c => Q c n1
  | _ => False
theorem bool_inv {d : PyData} {n : Nat} {Q : Bool → Nat → Prop} {v : V} (h : match d with | .bool c => Q c n | _ => False) (r : Rep ex H d v) : ∃ c, v = .bl c ∧ Q c n := by
  cases r with
  | bool c => exact ⟨c, rfl, h⟩
  | none => exact h.elim
  | obj => exact h.elim
  | dctf => exact h.elim
  | int => exact h.elim
  | str => exact h.elim
  | tuple => exact h.elim
  | list => exact h.elim
noncomputable instance tv_test [A : EV false te g] : TV (tTest te) (gTest g) := ⟨fun {S ex env σ H n Q P} E h k => A.ev E h fun d n1 v H1 h1 s1 r1 => by
  obtain ⟨c, e, q⟩ := bool_inv h1 r1
  exact ⟨c, e, k _ _ _ q s1⟩⟩
noncomputable instance tv_b [A : EV false te g] : TV (tB te) (gTest g) := ⟨fun {S ex env σ H n Q P} E h k => A.ev E h fun d n1 v H1 h1 s1 r1 => by
  obtain ⟨c, e, q⟩ := bool_inv h1 r1
  exact ⟨c, e, k _ _ _ q s1⟩⟩
noncomputable abbrev gAnd (a b : GT) : GT := fun env n Q => a env n fun c n1 => if c = true then b env n1 Q else Q false n1
noncomputable abbrev gOr (a b : GT) : GT := fun env n Q => a env n fun c n1 => if c = true then Q true n1 else b env n1 Q
noncomputable abbrev gNot (a : GT) : GT := fun env n Q => a env n fun c n1 => Q (!c) n1
noncomputable instance tv_and {t u : TT} {gt gu : GT} [A : TV t gt] [B : TV u gu] : TV (tAnd t u) (gAnd gt gu) := ⟨fun {S ex env σ H n Q P} E h k => A.tv E h fun c n1 H1 h1 s1 => by
  cases c with
  | true => exact B.tv (E.step s1) h1 fun c n2 H2 h2 s2 => k _ _ _ h2 (s1.trans s2)
  | false => exact k _ _ _ h1 s1⟩
noncomputable instance tv_or {t u : TT} {gt gu : GT} [A : TV t gt] [B : TV u gu] : TV (tOr t u) (gOr gt gu) := ⟨fun {S ex env σ H n Q P} E h k => A.tv E h fun c n1 H1 h1 s1 => by
  cases c with
  | false => exact B.tv (E.step s1) h1 fun c n2 H2 h2 s2 => k _ _ _ h2 (s1.trans s2)
  | true => exact k _ _ _ h1 s1⟩
noncomputable instance tv_not {t : TT} {gt : GT} [A : TV t gt] : TV (tNot t) (gNot gt) := ⟨fun {S ex env σ H n Q P} E h k => A.tv E h fun c n1 H1 h1 s1 => k _ _ _ h1 s1⟩
noncomputable instance tv_noTest : TV tNoTest (fun _ n Q => Q true n) := ⟨fun {S ex env σ H n Q P} E h k => k _ _ _ h (.refl E.inv)⟩
noncomputable abbrev gIf (t : GT) (a b : GE) : GE := fun env n Q => t env n fun c n1 => if c = true then a env n1 Q else b env n1 Q
noncomputable instance ev_if {t : TT} {gt : GT} [T : TV t gt] [A : EV b ta ga] [B : EV b tb gb] : EV b (tIf t ta tb) (gIf gt ga gb) := ⟨fun {S ex env σ H n Q P} E h k => T.tv E h fun c n1 H1 h1 s1 => by
  cases c with
  | true => exact A.ev (E.step s1) h1 fun d n2 v H2 h2 s2 r => k _ _ _ _ h2 (s1.trans s2) r
  | false => exact B.ev (E.step s1) h1 fun d n2 v H2 h2 s2 r => k _ _ _ _ h2 (s1.trans s2) r⟩
noncomputable abbrev gAndV (a b : GE) : GE := fun env n Q => a env n fun d n1 => match d with
  | .bool c => if c = true then b env n1 Q else Q (.bool false) n1
  | _ => False
noncomputable abbrev gOrV (a b : GE) : GE := fun env n Q => a env n fun d n1 => match d with
  | .bool c => if c = true then Q (.bool true) n1 else b env n1 Q
  | _ => False
noncomputable abbrev gNotV (a : GE) : GE := fun env n Q => a env n fun d n1 => match d with
  | .bool c => Q (.bool (!c)) n1
  | _ => False
noncomputable instance ev_andV [A : EV false ta ga] [B : EV b tb gb] : EV b (tAndV ta tb) (gAndV ga gb) := ⟨fun {S ex env σ H n Q P} E h k => A.ev E h fun d n1 v H1 h1 s1 r1 => by
  obtain ⟨c, e, q⟩ := bool_inv (Q := fun c n1 => if c = true then gb env n1 P else P (.bool false) n1) h1 r1
  refine ⟨c, e, ?_⟩
  cases c with
  | true => exact B.ev (E.step s1) q fun d n2 v H2 h2 s2 r => k _ _ _ _ h2 (s1.trans s2) r
  | false => exact k _ _ _ _ q s1 (.bool _)⟩
noncomputable instance ev_orV [A : EV false ta ga] [B : EV b tb gb] : EV b (tOrV ta tb) (gOrV ga gb) := ⟨fun {S ex env σ H n Q P} E h k => A.ev E h fun d n1 v H1 h1 s1 r1 => by
  obtain ⟨c, e, q⟩ := bool_inv (Q := fun c n1 => if c = true then P (.bool true) n1 else gb env n1 P) h1 r1
  refine ⟨c, e, ?_⟩
  cases c with
  | false => exact B.ev (E.step s1) q fun d n2 v H2 h2 s2 r => k _ _ _ _ h2 (s1.trans s2) r
  | true => exact k _ _ _ _ q s1 (.bool _)⟩
noncomputable instance ev_notV [A : EV false ta ga] : EV b (tNotV ta) (gNotV ga) := ⟨fun {S ex env σ H n Q P} E h k => A.ev E h fun d n1 v H1 h1 s1 r1 => by
  obtain ⟨c, e, q⟩ := bool_inv (Q := fun c n1 => P (.bool (!c)) n1) h1 r1
  exact ⟨c, e, k _ _ _ _ q s1 (.bool _)⟩⟩
noncomputable abbrev gUn (f : PyData → (PyData → Prop) → Prop) (a : GE) : GE := fun env n Q => a env n fun d n1 => f d fun e => Q e n1
noncomputable abbrev fU (f : Int → V) : PyData → (PyData → Prop) → Prop := fun d Q => match d with
  | .int i => (match f i with | .int k => Q (.int k) | _ => False)
  | _ => False
noncomputable instance ev_unI {f : Int → V} [A : EV false ta ga] : EV b (tUn (rU f) ta) (gUn (fU f) ga) := ⟨fun {S ex env σ H n Q P} E h k => A.ev E h fun d n1 v H1 h1 s1 r1 => by
  cases r1 with
  | int i =>
    unfold fU at h1
    refine ⟨i, rfl, ?_⟩
    dsimp only at h1
    split at h1
    · rename_i j e; rw [e]; exact k _ _ _ _ h1 s1 (.int _)
    · exact h1.elim
  | none => exact h1.elim
  | obj => exact h1.elim
  | dctf => exact h1.elim
  | bool => exact h1.elim
  | str => exact h1.elim
  | tuple => exact h1.elim
  | list => exact h1.elim⟩
end
end My

namespace My
open PySem PySem.Spec PyProof.Rows L2

noncomputable abbrev ofV : V → (PyData → Prop) → Prop
  | .int k, Q => Q (.int k)
  | .bl c, Q => Q (.bool c)
  | .str s, Q => Q (.str s)
  | .non, Q => Q .none
  | _, _ => False
theorem ofV_rep {v : V} {P : PyData → Prop} {H : Hp} (h : ofV v P) : ∃ d, P d ∧ ∀ ex, Rep ex H d v := by
  cases v with
  | int k => exact ⟨_, h, fun _ => .int k⟩
  | bl k => exact ⟨_, h, fun _ => .bool k⟩
  | str k => exact ⟨_, h, fun _ => .str k⟩
  | non => exact ⟨_, h, fun _ => .none⟩
  | byt _ => exact h.elim
  | flt _ => exact h.elim
  | ref _ => exact h.elim
  | ty _ => exact h.elim
noncomputable abbrev fI0 (f : Int → Int → V) : G2 := fun x y Q => match x, y with
  | .int i, .int j => ofV (f i j) Q
  | _, _ => False
noncomputable abbrev fI (C : Int → Int → Prop) (f : Int → Int → V) : G2 := fun x y Q => match x, y with
  | .int i, .int j => C i j ∧ ofV (f i j) Q
  | _, _ => False
theorem ints_inv {ex : List Addr} {H : Hp} {dx dy : PyData} {x y : V} {A : Int → Int → Prop} (h : match dx, dy with | .int i, .int j => A i j | _, _ => False) (r1 : Rep ex H dx x) (r2 : Rep ex H dy y) : ∃ i j, x = .int i ∧ y = .int j ∧ A i j := by
  split at h
  · cases r1; cases r2; exact ⟨_, _, rfl, rfl, h⟩
  · exact h.elim
noncomputable instance os_I0 {f : Int → Int → V} : OS (rI0 f) (fI0 f) := ⟨fun {H x y dx dy Q P} r1 r2 h k => by
  obtain ⟨i, j, rfl, rfl, h⟩ := ints_inv (A := fun i j => ofV (f i j) P) h r1 r2
  obtain ⟨d, p, r⟩ := ofV_rep (H := H) h
  exact ⟨i, j, rfl, rfl, k _ _ p r⟩⟩
noncomputable def eqS : PyData → PyData → Option Bool
  | .int i, .int j => some (decide (i = j))
  | .str a, .str b => some (decide (a = b))
  | .bool a, .bool b => some (decide (a = b))
  | .none, .none => some true
  | .none, .int _ | .none, .bool _ | .none, .str _ | .int _, .none | .bool _, .none | .str _, .none => some false
  | .int _, .str _ | .str _, .int _ | .bool _, .str _ | .str _, .bool _ => some false
  | _, _ => none
noncomputable def fEq (neg : Bool) : G2 := fun x y Q => match eqS x y with
  | some c => Q (.bool (if neg then !c else c))
  | none => False
theorem eqS_ok {ex : List Addr} {H : Hp} {dx dy : PyData} {x y : V} {c : Bool} (h : eqS dx dy = some c) (r1 : Rep ex H dx x) (r2 : Rep ex H dy y) : scal x y = true ∧ decide (x = y) = c := by
  cases r1 <;> cases r2 <;> simp [eqS] at h <;> subst h <;> simp [scal]
noncomputable instance os_eq : OS rEq (fEq false) := ⟨fun {H x y dx dy Q P} r1 r2 h k => by
  unfold fEq at h
  split at h
  · rename_i c e
    obtain ⟨h1, h2⟩ := eqS_ok e r1 r2
    exact ⟨h1, by rw [h2]; exact k _ _ h fun _ => .bool _⟩
  · exact h.elim⟩
noncomputable instance os_ne : OS rNe (fEq true) := ⟨fun {H x y dx dy Q P} r1 r2 h k => by
  unfold fEq at h
  split at h
  · rename_i c e
    obtain ⟨h1, h2⟩ := eqS_ok e r1 r2
    exact ⟨h1, by rw [h2]; exact k _ _ h fun _ => .bool _⟩
  · exact h.elim⟩
noncomputable def EqOk (x y : PyData) : Prop := x.canLay0 = true ∧ y.canLay0 = true ∧ min x.depth y.depth ≤ 50
noncomputable def fEqD (neg : Bool) : G2 := fun x y Q => EqOk x y ∧ Q (.bool (if neg then !PyData.eqv x y else PyData.eqv x y))
noncomputable instance os_neD : OS rNeD (fEqD true) := ⟨fun {H x y dx dy Q P} r1 r2 h k => ⟨[], dx, dy, r1, r2, h.1.1, h.1.2.1, h.1.2.2, k _ _ h.2 fun _ => .bool _⟩⟩
noncomputable def isNone : PyData → Bool
  | .none => true
  | _ => false
noncomputable abbrev fIsN (neg : Bool) : G2 := fun x y Q => isNone y = true ∧ Q (.bool (if neg then !isNone x else isNone x))
theorem isNone_ok {ex : List Addr} {H : Hp} {d : PyData} {v : V} (r : Rep ex H d v) : decide (v = .non) = isNone d := by
  cases r <;> simp [isNone]
theorem isNone_v {ex : List Addr} {H : Hp} {d : PyData} {v : V} (r : Rep ex H d v) (h : isNone d = true) : v = .non := by
  cases r <;> simp [isNone] at h <;> rfl
noncomputable instance os_isN : OS (fun x y H Q => y = .non ∧ Q (.bl (decide (x = .non))) H) (fIsN false) := ⟨fun {H x y dx dy Q P} r1 r2 h k => ⟨isNone_v r2 h.1, by rw [isNone_ok r1]; exact k _ _ h.2 fun _ => .bool _⟩⟩
noncomputable def inD (x : PyData) (xs : List PyData) : Bool := xs.any fun y => PyData.eqv y x
noncomputable def fIn (neg : Bool) : G2 := fun x y Q => match y with
  | .list xs => scalD x = true ∧ xs.all scalD = true ∧ Q (.bool (if neg then !inD x xs else inD x xs))
  | .tuple xs => scalD x = true ∧ xs.all scalD = true ∧ Q (.bool (if neg then !inD x xs else inD x xs))
  | _ => False
theorem flat_ok {ex : List Addr} {H : Hp} {d : PyData} {v : V} (r : Rep ex H d v) (h : scalD d = true) : flatV v = true := by
  cases r <;> first | rfl | cases h
theorem flat_all {ex : List Addr} {H : Hp} : ∀ {ds : List PyData} {vs : List V}, Reps ex H ds vs → ds.all scalD = true → vs.all flatV = true
  | _, _, .nil, _ => rfl
  | _, _, .cons r t, h => by
    simp only [List.all_cons, Bool.and_eq_true] at h ⊢
    exact ⟨flat_ok r h.1, flat_all t h.2⟩
theorem eqv_ok {ex : List Addr} {H : Hp} {d e : PyData} {v w : V} (r : Rep ex H d v) (s : Rep ex H e w) (h : scalD d = true) (g : scalD e = true) : eqV v w = PyData.eqv d e := by
  cases r <;> cases s <;> first | rfl | (cases h; done) | (cases g; done) | simp [eqV, PyData.eqv]
theorem in_ok {ex : List Addr} {H : Hp} {d : PyData} {v : V} (r : Rep ex H d v) (h : scalD d = true) : ∀ {ds : List PyData} {vs : List V}, Reps ex H ds vs → ds.all scalD = true → inV v vs = inD d ds
  | _, _, .nil, _ => rfl
  | _, _, .cons s t, g => by
    simp only [List.all_cons, Bool.and_eq_true] at g
    have := in_ok r h t g.2
    unfold inV inD at this ⊢
    rw [List.any_cons, List.any_cons, this, eqv_ok s r g.1 h]
noncomputable instance os_in {K : PySem.W.Frag} {neg : Bool} : OS (rIn K neg) (fIn neg) := ⟨fun {H x y dx dy Q P} r1 r2 h k => by
  cases r2 with
  | list e _ _ rs => exact ⟨_, _, rfl, .inl (SqL.of e), flat_ok r1 h.1, flat_all rs h.2.1, by rw [in_ok r1 h.1 rs h.2.1]; exact k _ _ h.2.2 fun _ => .bool _⟩
  | tuple e _ _ rs => exact ⟨_, _, rfl, .inr (SqT.of e), flat_ok r1 h.1, flat_all rs h.2.1, by rw [in_ok r1 h.1 rs h.2.1]; exact k _ _ h.2.2 fun _ => .bool _⟩
  | none => exact h.elim
  | obj => exact h.elim
  | dctf => exact h.elim
  | bool => exact h.elim
  | int => exact h.elim
  | str => exact h.elim⟩
noncomputable instance os_catS : OS (fun x y H Q => ∃ i j, x = .str i ∧ y = .str j ∧ i.length + j.length ≤ sizeLine ∧ Q (.str (i ++ j)) H) (fun x y Q => match x, y with | .str i, .str j => i.length + j.length ≤ sizeLine ∧ Q (.str (i ++ j)) | _, _ => False) := ⟨fun {H x y dx dy Q P} r1 r2 h k => by
  split at h
  · cases r1; cases r2; exact ⟨_, _, rfl, rfl, h.1, k _ _ h.2 fun _ => .str _⟩
  · exact h.elim⟩

theorem reps_at {ex : List Addr} {H : Hp} {ds : List PyData} {vs : List V} {i : Int} {d : PyData} (r : Reps ex H ds vs) (h : atI ds i = some d) : ∃ v, atI vs i = some v ∧ Rep ex H d v := by
  unfold atI at h ⊢
  rw [← r.length]
  cases e : ixN ds.length i with
  | none => rw [e] at h; cases h
  | some j => rw [e] at h; exact r.get h
noncomputable abbrev fIxL : G2 := fun x y Q => match x, y with
  | .list xs, .int i => ∃ d, atI xs i = some d ∧ Q d
  | _, _ => False
noncomputable abbrev fIxT : G2 := fun x y Q => match x, y with
  | .tuple xs, .int i => ∃ d, atI xs i = some d ∧ Q d
  | _, _ => False
noncomputable instance ov_ixL {K : PySem.W.Frag} : OV (rIxL K) fIxL := ⟨fun {ex H x y dx dy Q P} al r1 r2 h k => by
  unfold fIxL at h
  split at h
  · obtain ⟨d, e, p⟩ := h
    cases r2
    cases r1 with
    | list e1 _ _ rs =>
      obtain ⟨v, ev, r⟩ := reps_at rs e
      exact ⟨_, _, _, v, rfl, rfl, SqL.of e1, ev, k _ _ _ p .refl r⟩
  · exact h.elim⟩
noncomputable instance ov_ixT {K : PySem.W.Frag} : OV (rIxT K) fIxT := ⟨fun {ex H x y dx dy Q P} al r1 r2 h k => by
  unfold fIxT at h
  split at h
  · obtain ⟨d, e, p⟩ := h
    cases r2
    cases r1 with
    | tuple e1 _ _ rs =>
      obtain ⟨v, ev, r⟩ := reps_at rs e
      exact ⟨_, _, _, v, rfl, rfl, SqT.of e1, ev, k _ _ _ p .refl r⟩
  · exact h.elim⟩
noncomputable abbrev gIxO (i : Nat) (gb : GE) : GE := fun env n Q => match env[i]? with
  | some (.own xs) => gb env n fun y n1 => fIxL (.list xs) y fun d => Q d n1
  | some (.d x) => gb env n fun y n1 => fIxL x y fun d => Q d n1
  | _ => False
noncomputable instance (priority := high) ev_ixO {K : PySem.W.Frag} {i : Nat} {tb : TE} {gb : GE} [B : EV true tb gb] : EV true (tOp (rIxL K) (tVar i) tb) (gIxO i gb) := ⟨fun {S ex env σ H n Q P} E h k => by
  unfold gIxO at h
  split at h
  · rename_i xs e
    obtain ⟨a, vs, ev, h1, h2, h3, h4, h5⟩ := E.sl i _ e
    refine ⟨_, join_some ev, B.ev E h fun y n1 v1 H1 hh s1 r1 => ?_⟩
    cases r1 with
    | int j =>
      obtain ⟨d, ed, p⟩ := hh
      obtain ⟨v, ev2, r⟩ := reps_at (E.reps s1 h3) ed
      exact ⟨_, _, _, v, rfl, rfl, SqL.of (s1.1 _ _ h1 h5), ev2, k _ _ _ _ p s1 r⟩
    | none => exact hh.elim
    | obj => exact hh.elim
    | dctf => exact hh.elim
    | bool => exact hh.elim
    | str => exact hh.elim
    | tuple => exact hh.elim
    | list => exact hh.elim
  · rename_i x e
    obtain ⟨v, ev, r⟩ := E.sl i _ e
    refine ⟨v, join_some ev, B.ev E h fun y n1 v1 H1 hh s1 r1 => ?_⟩
    exact (ov_ixL (K := K)).ov (E.step s1).al (E.rep s1 r) r1 hh fun d v H' p kp r => k _ _ _ _ p (s1.then kp) r
  · exact h.elim⟩

noncomputable abbrev fLen : G1 := fun ds Q => match ds with
  | [.list xs] => Q (.int xs.length)
  | [.tuple xs] => Q (.int xs.length)
  | _ => False
noncomputable instance cs_len {K : PySem.W.Frag} : CS (fun xs H Q => ∃ p ys, xs = [.ref p] ∧ (SqL K H p ys ∨ SqT K H p ys) ∧ Q (.int ys.length) H) fLen := ⟨fun {H xs ds Q P} r h k => by
  unfold fLen at h
  split at h
  · cases r with
    | cons r1 t =>
      cases t
      cases r1 with
      | list e _ _ rs => exact ⟨_, _, rfl, .inl (SqL.of e), by rw [← rs.length]; exact k _ _ h fun _ => .int _⟩
  · cases r with
    | cons r1 t =>
      cases t
      cases r1 with
      | tuple e _ _ rs => exact ⟨_, _, rfl, .inr (SqT.of e), by rw [← rs.length]; exact k _ _ h fun _ => .int _⟩
  · exact h.elim⟩
noncomputable abbrev fTupleOf : G1 := fun ds Q => match ds with
  | [.list xs] => Q (.tuple xs)
  | [.tuple xs] => Q (.tuple xs)
  | _ => False
noncomputable instance co_tuple {K : PySem.W.Frag} : CO (fun xs H Q => ∃ p ys, xs = [.ref p] ∧ ((SqL K H p ys ∧ ∀ l, H l = none → Q (.ref l) (upd H l (.tup ys))) ∨ (SqT K H p ys ∧ Q (.ref p) H))) fTupleOf := ⟨fun {ex H xs ds Q P} al r h k => by
  unfold fTupleOf at h
  split at h
  · cases r with
    | cons r1 t =>
      cases t
      cases r1 with
      | list e _ z rs => exact ⟨_, _, rfl, .inl ⟨SqL.of e, fun l hl => k _ _ _ h (Kp.new hl _) (.tuple upd_same (al.nm hl) z (rs.keep (Kp.new hl _)))⟩⟩
  · cases r with
    | cons r1 t =>
      cases t
      cases r1 with
      | tuple e n z rs => exact ⟨_, _, rfl, .inr ⟨SqT.of e, k _ _ _ h .refl (.tuple e n z rs)⟩⟩
  · exact h.elim⟩
theorem Reps.bools_inv {ex : List Addr} {H : Hp} : ∀ {ns : List Bool} {vs : List V}, Reps ex H (ns.map PyData.bool) vs → vs = ns.map V.bl
  | [], _, .nil => rfl
  | n :: r, _, .cons (.bool _) t => by rw [Reps.bools_inv t]; rfl
noncomputable def fAll (c : Bool) : G1 := fun ds Q => ∃ bs : List Bool, ds = [.list (bs.map .bool)] ∧ c = true ∧ Q (.bool (bs.all id))
noncomputable instance cs_all {K : PySem.W.Frag} {c : Bool} : CS (fun xs H Q => c = true ∧ ∃ (p : Addr) (bs : List Bool), xs = [.ref p] ∧ SqL K H p (bs.map V.bl) ∧ Q (.bl (bs.all id)) H) (fAll c) := ⟨fun {H xs ds Q P} r h k => by
  obtain ⟨ns, rfl, hc, q⟩ := h
  cases r with
  | cons r1 t =>
    cases t
    cases r1 with
    | list e _ _ rs =>
      cases Reps.bools_inv rs
      exact ⟨hc, _, ns, rfl, SqL.of e, k _ _ q fun _ => .bool _⟩⟩
noncomputable abbrev gInst (T : String) (g : GE) : GE := fun env n Q => g env n fun d n1 => noD d = true ∧ Q (.bool (instD d T)) n1
section
variable {b : Bool} {te : TE} {g : GE}
theorem ev_inst (T : String) (hT : T = "int" ∨ T = "bool" ∨ T = "str" ∨ T = "tuple" ∨ T = "list") [A : EV false te g] : EV b (tCB (fun xs H Q => ∃ ex d x T, xs = [x, .ty T] ∧ Rep ex H d x ∧ noD d = true ∧ (T = "int" ∨ T = "bool" ∨ T = "str" ∨ T = "tuple" ∨ T = "list") ∧ Q (.bl (instD d T)) H) (tCons te (tCons (tC (.ty T)) tNil))) (gInst T g) := ⟨fun {S ex env σ H n Q P} E h k =>
  A.ev E h fun d n1 v H1 h1 s1 r1 => ⟨_, d, v, T, rfl, r1, h1.1, hT, k _ _ _ _ h1.2 s1 (.bool _)⟩⟩
noncomputable instance (priority := high) ev_instI [A : EV false te g] : EV b (tCB (fun xs H Q => ∃ ex d x T, xs = [x, .ty T] ∧ Rep ex H d x ∧ noD d = true ∧ (T = "int" ∨ T = "bool" ∨ T = "str" ∨ T = "tuple" ∨ T = "list") ∧ Q (.bl (instD d T)) H) (tCons te (tCons (tC (.ty "int")) tNil))) (gInst "int" g) := ev_inst _ (by simp)
noncomputable instance (priority := high) ev_instB [A : EV false te g] : EV b (tCB (fun xs H Q => ∃ ex d x T, xs = [x, .ty T] ∧ Rep ex H d x ∧ noD d = true ∧ (T = "int" ∨ T = "bool" ∨ T = "str" ∨ T = "tuple" ∨ T = "list") ∧ Q (.bl (instD d T)) H) (tCons te (tCons (tC (.ty "bool")) tNil))) (gInst "bool" g) := ev_inst _ (by simp)
noncomputable instance (priority := high) ev_instT [A : EV false te g] : EV b (tCB (fun xs H Q => ∃ ex d x T, xs = [x, .ty T] ∧ Rep ex H d x ∧ noD d = true ∧ (T = "int" ∨ T = "bool" ∨ T = "str" ∨ T = "tuple" ∨ T = "list") ∧ Q (.bl (instD d T)) H) (tCons te (tCons (tC (.ty "tuple")) tNil))) (gInst "tuple" g) := ev_inst _ (by simp)
class OPV (t : TO) (g : outParam (List Vl → Nat → (Option Int → Nat → Prop) → Prop)) : Prop where
  op : ∀ {S : Src} {ex : List Addr} {env : List Vl} {σ : L2.St} {H : Hp} {n : Nat} {Q : Option Int → Hp → Prop} {P : Option Int → Nat → Prop}, Ev S ex env σ H n → g env n P → (∀ o n' H', P o n' → Step S n' H H' → Q o H') → t σ H Q
noncomputable instance op_no : OPV tNoPart (fun _ n Q => Q none n) := ⟨fun E h k => k _ _ _ h (.refl E.inv)⟩
noncomputable abbrev gPart (g : GE) : List Vl → Nat → (Option Int → Nat → Prop) → Prop := fun env n Q => g env n fun d n1 => match d with
  | .int i => Q (some i) n1
  | _ => False
noncomputable instance op_part [A : EV false te g] : OPV (tPart te) (gPart g) := ⟨fun {S ex env σ H n Q P} E h k => A.ev E h fun d n1 v H1 h1 s1 r1 => by
  cases r1 with
  | int i => exact ⟨i, rfl, k _ _ _ h1 s1⟩
  | none => exact h1.elim
  | obj => exact h1.elim
  | dctf => exact h1.elim
  | bool => exact h1.elim
  | str => exact h1.elim
  | tuple => exact h1.elim
  | list => exact h1.elim⟩
theorem reps_cut {ex : List Addr} {H : Hp} {ds : List PyData} {vs : List V} (r : Reps ex H ds vs) (lo hi : Option Int) : Reps ex H (cutD ds lo hi) (cutV vs lo hi) := by
  unfold cutD cutV
  rw [r.length]
  exact Reps.take _ (Reps.drop _ r)
noncomputable abbrev gChain (f f' : G2) (ga gb gc : GE) : GE := fun env n Q => ga env n fun x n1 => gb env n1 fun y n2 => f x y fun d => match d with
  | .bool true => gc env n2 fun z n3 => f' y z fun e => Q e n3
  | .bool false => Q (.bool false) n2
  | _ => False
noncomputable instance ev_chain {r r' : R2} {f f' : G2} {ta tb tc : TE} {ga gb gc : GE} [O : OS r f] [O' : OS r' f'] [A : EV false ta ga] [B : EV false tb gb] [C : EV false tc gc] : EV b (tChain r r' ta tb tc) (gChain f f' ga gb gc) := ⟨fun {S ex env σ H n Q P} E h k => by
  refine A.ev E h fun x n1 v1 H1 h1 s1 r1 => B.ev (E.step s1) h1 fun y n2 v2 H2 h2 s2 r2 => ?_
  refine O.os (Rep.nil ((E.step s1).repm false s2 r1)) (Rep.nil r2) h2 fun d v p r => ?_
  cases r [] with
  | bool c =>
    refine ⟨c, rfl, ?_⟩
    cases c with
    | true => exact C.ev (E.step (s1.trans s2)) p fun z n3 v3 H3 h3 s3 r3 => O'.os (Rep.nil ((E.step (s1.trans s2)).repm false s3 r2)) (Rep.nil r3) h3 fun d v p r => k _ _ _ _ p ((s1.trans s2).trans s3) (r _)
    | false => exact k _ _ _ _ p (s1.trans s2) (.bool _)
  | none => exact p.elim
  | obj => exact p.elim
  | dctf => exact p.elim
  | int => exact p.elim
  | str => exact p.elim
  | tuple => exact p.elim
  | list => exact p.elim⟩
end
end My

namespace My
open PySem PySem.Spec PyProof.Rows L2

noncomputable def ItAt (ex : List Addr) (J : It) (items : List PyData) (H : Hp) : Prop := J.stop items.length H ∧ ∀ (i : Nat) (d : PyData), items[i]? = some d → J.go i H ∧ ∀ x H', J.yld i H x H' → Kp [] H H' ∧ Rep ex H' d x
class IV (wi : TI) (g : outParam GN) : Prop where
  iv : ∀ {S : Src} {ex : List Addr} {env : List Vl} {σ : L2.St} {H : Hp} {n : Nat} {R : It → Hp → Prop} {P : List PyData → Nat → Prop}, Ev S ex env σ H n → g env n P →
    (∀ items n' J (hd : List (PyData × V)) H', P items n' → Step S n' H H' → (∀ h ∈ hd, Rep ex H' h.1 h.2) → (∀ ex' H2, Alc ex' H2 → (∀ h ∈ hd, Rep ex' H2 h.1 h.2) → ItAt ex' J items H2) → R J H') → wi σ H R
class IC (wi : TI) (g : outParam GN) : Prop where
  ic : ∀ {S : Src} {ex : List Addr} {env : List Vl} {σ : L2.St} {H : Hp} {n : Nat} {R : It → Hp → Prop} {P : List PyData → Nat → Prop}, Ev S ex env σ H n → g env n P →
    (∀ items n' J H', P items n' → Step S n' H H' → (∀ l H2, H' l = none → Kp (l :: S.ch) H' H2 → Alc (l :: ex) H2 → ItAt (l :: ex) J items H2) → R J H') → wi σ H R
section
variable {K : PySem.W.Frag} {S : Src} {n m : Nat} {H H1 H2 H' : Hp} {ex : List Addr} {env : List Vl} {σ : L2.St} {b : Bool} {te ta tb tc : TE} {g ga gb gc : GE} {wi : TI} {gi : GN}
theorem kp_cons {l : Addr} (hc : ∀ a ∈ S.ch, a ∈ ex) (k : Kp (l :: S.ch) H H') : Kp (l :: ex) H H' := k.mono fun b hb => (List.mem_cons.mp hb).elim (fun e => by rw [e]; exact List.mem_cons_self) fun h => List.mem_cons_of_mem _ (hc b h)
noncomputable instance (priority := low) ic_iv [I : IV wi gi] : IC wi gi := ⟨fun {S ex env σ H n R P} E h k => I.iv E h fun items n' J hd H' p s hr hit => k _ _ _ _ p s fun l H2 hl kp al =>
  hit _ _ al fun x hx => (Rep.add hl (hr x hx)).keep (kp_cons E.ch kp)⟩
theorem it_list {a : Addr} {vs : List V} {ds : List PyData} (ha : H a = some (.lst vs)) (r : Reps ex H ds vs) : ItAt ex (Itl K a) ds H := by
  refine ⟨⟨vs, SqL.of ha, by rw [r.length]; exact Nat.le_refl _⟩, fun i d e => ?_⟩
  obtain ⟨v, ev, rv⟩ := r.get e
  refine ⟨⟨vs, v, SqL.of ha, ev⟩, fun x H' y => ?_⟩
  obtain ⟨rfl, hx⟩ := y
  have := hx vs (SqL.of ha)
  rw [ev] at this
  cases this
  exact ⟨.refl, rv⟩
theorem it_tup {a : Addr} {vs : List V} {ds : List PyData} (ha : H a = some (.tup vs)) (r : Reps ex H ds vs) : ItAt ex (Itt K a) ds H := by
  refine ⟨⟨vs, SqT.of ha, by rw [r.length]; exact Nat.le_refl _⟩, fun i d e => ?_⟩
  obtain ⟨v, ev, rv⟩ := r.get e
  refine ⟨⟨vs, v, SqT.of ha, ev⟩, fun x H' y => ?_⟩
  obtain ⟨rfl, hx⟩ := y
  have := hx vs (SqT.of ha)
  rw [ev] at this
  cases this
  exact ⟨.refl, rv⟩
noncomputable def rngD (lo : Int) (k : Nat) : List PyData := (List.range k).map fun (i : Nat) => .int (lo + (i : Int))
theorem rngD_len (lo : Int) (k : Nat) : (rngD lo k).length = k := by unfold rngD; rw [List.length_map, List.length_range]
theorem it_rng {lo : Int} {k : Nat} : ItAt ex (Itr lo k) (rngD lo k) H := by
  refine ⟨by rw [rngD_len]; exact Nat.le_refl _, fun i d e => ?_⟩
  have hi : i < k := by
    have := (List.getElem?_eq_some_iff.mp e).1
    rw [rngD_len] at this
    exact this
  unfold rngD at e
  rw [List.getElem?_map, List.getElem?_range hi] at e
  cases e
  refine ⟨hi, fun x H' y => ?_⟩
  obtain ⟨rfl, rfl⟩ := y
  exact ⟨.refl, .int _⟩
theorem two_line : (2 : Nat) ≤ sizeLine := by rw [sizeLine_eq]; decide
theorem three_line : (3 : Nat) ≤ sizeLine := by rw [sizeLine_eq]; decide
noncomputable abbrev gIter (f : PyData → Option (List PyData)) (g : GE) : GN := fun env n Q => g env n fun d n1 => match f d with
  | some ds => Q ds n1
  | none => False
noncomputable def lstD : PyData → Option (List PyData)
  | .list xs => some xs
  | _ => none
noncomputable def tupD' : PyData → Option (List PyData)
  | .tuple xs => some xs
  | _ => none
noncomputable instance iv_list [A : EV true te g] : IV (iList K te) (gIter lstD g) := ⟨fun {S ex env σ H n R P} E h k => A.ev E h fun d n1 v H1 h1 s1 r1 => by
  cases r1 with
  | list e m z rs =>
    refine ⟨_, rfl, ⟨_, SqL.of e⟩, k _ _ _ [(PyData.list _, V.ref _)] _ h1 s1 (fun h hh => by rw [List.mem_singleton.mp hh]; exact .list e m z rs) fun ex' H2 al hr => ?_⟩
    have := hr _ (List.mem_singleton.mpr rfl)
    cases this with
    | list e m z rs => exact it_list e rs
  | none => exact h1.elim
  | obj => exact h1.elim
  | dctf => exact h1.elim
  | bool => exact h1.elim
  | str => exact h1.elim
  | int => exact h1.elim
  | tuple => exact h1.elim⟩
noncomputable instance iv_tup [A : EV true te g] : IV (iTup K te) (gIter tupD' g) := ⟨fun {S ex env σ H n R P} E h k => A.ev E h fun d n1 v H1 h1 s1 r1 => by
  cases r1 with
  | tuple e m z rs =>
    refine ⟨_, rfl, ⟨_, SqT.of e⟩, k _ _ _ [(PyData.tuple _, V.ref _)] _ h1 s1 (fun h hh => by rw [List.mem_singleton.mp hh]; exact .tuple e m z rs) fun ex' H2 al hr => ?_⟩
    have := hr _ (List.mem_singleton.mpr rfl)
    cases this with
    | tuple e m z rs => exact it_tup e rs
  | none => exact h1.elim
  | obj => exact h1.elim
  | dctf => exact h1.elim
  | bool => exact h1.elim
  | str => exact h1.elim
  | int => exact h1.elim
  | list => exact h1.elim⟩
noncomputable abbrev gIterO (i : Nat) : GN := fun env n Q => match env[i]? with
  | some (.own xs) => Q xs n
  | some (.d (.list xs)) => Q xs n
  | _ => False
noncomputable instance (priority := high) ic_own {i : Nat} : IC (iList K (tVar i)) (gIterO i) := ⟨fun {S ex env σ H n R P} E h k => by
  unfold gIterO at h
  split at h
  · rename_i xs e
    obtain ⟨a, vs, ev, h1, h2, h3, h4, h5⟩ := E.sl i _ e
    refine ⟨_, join_some ev, _, rfl, ⟨_, SqL.of h1⟩, k _ _ _ _ h (.refl E.inv) fun l H2 hl kp al => ?_⟩
    have na : a ≠ l := ne_of_none h1 hl
    exact it_list (kp _ _ h1 fun z => (List.mem_cons.mp z).elim na h5) ((Reps.add hl h3).keep (kp_cons E.ch kp))
  · rename_i xs e
    obtain ⟨v, ev, r⟩ := E.sl i _ e
    cases r with
    | list e1 m z rs =>
      refine ⟨_, join_some ev, _, rfl, ⟨_, SqL.of e1⟩, k _ _ _ _ h (.refl E.inv) fun l H2 hl kp al => ?_⟩
      have := (Rep.add hl (.list e1 m z rs)).keep (kp_cons E.ch kp)
      cases this with
      | list e m z rs => exact it_list e rs
  · exact h.elim⟩
noncomputable abbrev gRng1 (t : GN) : GN := fun env n Q => t env n fun ds n1 => ∃ j : Int, ds = [.int j] ∧ (-(2 ^ 62) ≤ j ∧ j < 2 ^ 62) ∧ Q (rngD 0 j.toNat) n1
noncomputable abbrev gRng2 (t : GN) : GN := fun env n Q => t env n fun ds n1 => ∃ i j : Int, ds = [.int i, .int j] ∧ (-(2 ^ 62) ≤ i ∧ i < 2 ^ 62 ∧ -(2 ^ 62) ≤ j ∧ j < 2 ^ 62) ∧ Q (rngD i (j - i).toNat) n1
noncomputable instance iv_rng1 {t : TA} {gt : GN} [A : DV false t gt] : IV (iRng1 t) (gRng1 gt) := ⟨fun {S ex env σ H n R P} E h k => A.dv E h fun ds n1 vs H1 h1 s1 r1 => by
  obtain ⟨j, rfl, h2, q⟩ := h1
  cases r1 with
  | cons r1 t =>
    cases t
    cases r1
    exact ⟨j, rfl, h2.1, h2.2, k _ _ _ [] _ q s1 (fun h hh => by cases hh) fun ex' H2 al _ => it_rng⟩⟩
noncomputable instance iv_rng2 {t : TA} {gt : GN} [A : DV false t gt] : IV (iRng2 t) (gRng2 gt) := ⟨fun {S ex env σ H n R P} E h k => A.dv E h fun ds n1 vs H1 h1 s1 r1 => by
  obtain ⟨i, j, rfl, h2, q⟩ := h1
  cases r1 with
  | cons r1 t =>
    cases t with
    | cons r2 t =>
      cases t
      cases r1
      cases r2
      exact ⟨i, j, rfl, h2, k _ _ _ [] _ q s1 (fun h hh => by cases hh) fun ex' H2 al _ => it_rng⟩⟩
end

noncomputable def ownAt (env : List Vl) (σ : L2.St) (i : Nat) : List Addr := match env[i]?, (σ[i]?).join with
  | some (.own _), some (.ref a) => [a]
  | some (.dct _), some (.ref a) => [a]
  | some (.own2 _ ps), some (.ref a) => a :: ps.map (·.1)
  | _, _ => []
noncomputable abbrev GG := PyData → List Vl → (List Vl → Prop) → Prop
noncomputable abbrev GGs := List PyData → List Vl → (List Vl → Prop) → Prop
class GV (g : TG) (bd : outParam GG) (ks : outParam (List Nat)) : Prop where
  gv : ∀ {S : Src} {ex : List Addr} {env : List Vl} {σ : L2.St} {H : Hp} {n : Nat} {d : PyData} {v : V} {Q : L2.St → Hp → Prop} {P : List Vl → Prop}, Ev S ex env σ H n → Rep ex H d v → bd d env P →
    (∀ env' σ', P env' → Ev S ex env' σ' H n → (∀ i a, a ∈ ownAt env' σ' i → a ∈ ownAt env σ i) → (∀ i : Nat, i ∉ ks → σ'[i]? = σ[i]?) → σ'.length = σ.length → Q σ' H) → g v σ H Q
class GVs (g : TGs) (bd : outParam GGs) (ks : outParam (List Nat)) : Prop where
  gvs : ∀ {S : Src} {ex : List Addr} {env : List Vl} {σ : L2.St} {H : Hp} {n : Nat} {d : List PyData} {v : List V} {Q : L2.St → Hp → Prop} {P : List Vl → Prop}, Ev S ex env σ H n → Reps ex H d v → bd d env P →
    (∀ env' σ', P env' → Ev S ex env' σ' H n → (∀ i a, a ∈ ownAt env' σ' i → a ∈ ownAt env σ i) → (∀ i : Nat, i ∉ ks → σ'[i]? = σ[i]?) → σ'.length = σ.length → Q σ' H) → g v σ H Q
noncomputable abbrev bName (i : Nat) : GG := fun d env P => P (env.set i (.d d))
theorem Ev.put {S : Src} {ex : List Addr} {env : List Vl} {σ : L2.St} {H : Hp} {n i : Nat} {w : Vl} {v : V} (E : Ev S ex env σ H n) (h : SlR S ex H w (some v)) : Ev S ex (env.set i w) (σ.set i (some v)) H n := by
  refine ⟨by rw [List.length_set, List.length_set]; exact E.len, fun j u e => ?_, E.ch, E.al, E.inv⟩
  by_cases hj : i = j
  · subst hj
    have hl : i < env.length := by
      have := (List.getElem?_eq_some_iff.mp e).1
      rw [List.length_set] at this; exact this
    rw [List.getElem?_set_self hl] at e
    cases e
    rw [List.getElem?_set_self (Nat.lt_of_lt_of_le hl E.len)]
    exact h
  · rw [List.getElem?_set_ne hj] at e ⊢
    exact E.sl j u e
theorem own_put {env : List Vl} {σ : L2.St} {i : Nat} {d : PyData} {v : V} : ∀ j a, a ∈ ownAt (env.set i (.d d)) (σ.set i (some v)) j → a ∈ ownAt env σ j := fun j a h => by
  unfold ownAt at h ⊢
  by_cases hj : i = j
  · subst hj
    by_cases hl : i < env.length
    · rw [List.getElem?_set_self hl] at h
      cases h
    · rw [List.getElem?_eq_none (by rw [List.length_set]; omega)] at h
      cases h
  · rw [List.getElem?_set_ne hj, List.getElem?_set_ne hj] at h
    exact h
noncomputable instance gv_name {i : Nat} : GV (gName i) (bName i) [i] := ⟨fun {S ex env σ H n d v Q P} E r h k => k _ _ h (E.put ⟨v, rfl, r⟩) own_put (fun j hj => List.getElem?_set_ne (fun z => hj (by rw [z]; exact List.mem_singleton.mpr rfl))) List.length_set⟩
noncomputable abbrev bNil : GGs := fun ds env P => ds = [] ∧ P env
noncomputable abbrev bCons (t : GG) (u : GGs) : GGs := fun ds env P => match ds with
  | d :: r => t d env fun env1 => u r env1 P
  | [] => False
noncomputable instance gvs_nil : GVs L2.gNil bNil [] := ⟨fun {S ex env σ H n d v Q P} E r h k => by
  obtain ⟨rfl, h⟩ := h
  cases r
  exact ⟨rfl, k _ _ h E (fun _ _ h => h) (fun _ _ => rfl) rfl⟩⟩
noncomputable instance gvs_cons {t : TG} {u : TGs} {bt : GG} {bu : GGs} {k1 k2 : List Nat} [A : GV t bt k1] [B : GVs u bu k2] : GVs (L2.gCons t u) (bCons bt bu) (k1 ++ k2) := ⟨fun {S ex env σ H n d v Q P} E r h k => by
  cases r with
  | nil => exact h.elim
  | cons r1 t =>
    refine ⟨_, _, rfl, A.gv E r1 h fun env1 σ1 h1 E1 o1 f1 z1 => B.gvs E1 t h1 fun env2 σ2 h2 E2 o2 f2 z2 => k _ _ h2 E2 (fun i a ha => o1 i a (o2 i a ha)) (fun i hi => ?_) (z2.trans z1)⟩
    rw [f2 i fun z => hi (List.mem_append_right _ z), f1 i fun z => hi (List.mem_append_left _ z)]⟩
noncomputable abbrev bTup (k : Nat) (bs : GGs) : GG := fun d env P => match d with
  | .tuple ds => ds.length = k ∧ bs ds env P
  | _ => False
noncomputable instance gv_tup {K : PySem.W.Frag} {k : Nat} {t : TGs} {bs : GGs} {ks : List Nat} [A : GVs t bs ks] : GV (gTup K k t) (bTup k bs) ks := ⟨fun {S ex env σ H n d v Q P} E r h k => by
  cases r with
  | tuple e m z rs => exact ⟨_, _, rfl, SqT.of e, by rw [← rs.length]; exact h.1, A.gvs E rs h.2 k⟩
  | none => exact h.elim
  | obj => exact h.elim
  | dctf => exact h.elim
  | bool => exact h.elim
  | str => exact h.elim
  | int => exact h.elim
  | list => exact h.elim⟩
noncomputable def cmpW (f : PyData → Nat → (Option PyData → Nat → Prop) → Prop) : List PyData → Nat → (List PyData → Nat → Prop) → Prop
  | [], n, Q => Q [] n
  | x :: xs, n, Q => f x n fun o n1 => cmpW f xs n1 fun ys n2 => Q (o.toList ++ ys) n2
noncomputable def jenv (k : Nat) (idx : List Nat) (env : List Vl) : List Vl := List.replicate k .jnk ++ idx.map fun i => (env[i]?).getD .jnk
noncomputable abbrev gTurn (bd : GG) (gt : GT) (ge : GE) (env : List Vl) : PyData → Nat → (Option PyData → Nat → Prop) → Prop := fun x n Q => bd x env fun env' => gt env' n fun c n1 => if c = true then ge env' n1 fun y n2 => Q (some y) n2 else Q none n1
noncomputable abbrev gComp (gi : GN) (k : Nat) (idx : List Nat) (ks : List Nat) (bd : GG) (gt : GT) (ge : GE) : GN := fun env n Q => gi env n fun items n1 => (ks.all (fun i => decide (i < k)) = true ∧ items.length ≤ sizeLine) ∧ cmpW (gTurn bd gt ge (jenv k idx env)) items n1 Q
theorem SlR.add {S : Src} {ex : List Addr} {H : Hp} {l : Addr} {w : Vl} {o : Option V} (hl : H l = none) (h : SlR S ex H w o) : SlR S (l :: ex) H w o := by
  cases w with
  | jnk => trivial
  | jar => exact h
  | tape => exact h
  | d x => obtain ⟨v, e, r⟩ := h; exact ⟨v, e, Rep.add hl r⟩
  | pin v x => obtain ⟨e, r⟩ := h; exact ⟨e, Rep.add hl r⟩
  | own xs => obtain ⟨a, vs, e, h1, h2, h3, h4, h5⟩ := h; exact ⟨a, vs, e, h1, h2, Reps.add hl h3, List.mem_cons_of_mem _ h4, h5⟩
  | dct kvs => obtain ⟨a, kws, e, h1, ⟨h2, h3⟩, h4, h5⟩ := h; exact ⟨a, kws, e, h1, ⟨h2, Reps.add hl h3⟩, List.mem_cons_of_mem _ h4, h5⟩
  | own2 ks ps => obtain ⟨a, e, q⟩ := h; exact ⟨a, e, q.h, q.z, q.k, q.nd, List.mem_cons_of_mem _ q.m, q.c, fun p hp => let w := q.i p hp; ⟨List.mem_cons_of_mem _ w.m, w.c, let ⟨vs, h1, h2, h3⟩ := w.h; ⟨vs, h1, h2, Reps.add hl h3⟩⟩⟩
theorem SlR.upd {S : Src} {ex : List Addr} {H : Hp} {l : Addr} {w : Vl} {o : Option V} {u : HO} (hl : l ∈ ex) (hn : ∀ b ∈ ownAt [w] [o] 0, b ≠ l) (h : SlR S ex H w o) : SlR S ex (upd H l u) w o := by
  cases w with
  | jnk => trivial
  | jar => exact h
  | tape => exact h
  | d x => obtain ⟨v, e, r⟩ := h; exact ⟨v, e, r.keep (Kp.at hl _)⟩
  | pin v x => obtain ⟨e, r⟩ := h; exact ⟨e, r.keep (Kp.at hl _)⟩
  | own xs => obtain ⟨a, vs, e, h1, h2, h3, h4, h5⟩ := h; subst e; exact ⟨a, vs, rfl, by rw [upd_ne (hn a List.mem_cons_self)]; exact h1, h2, h3.keep (Kp.at hl _), h4, h5⟩
  | dct kvs => obtain ⟨a, kws, e, h1, ⟨h2, h3⟩, h4, h5⟩ := h; subst e; exact ⟨a, kws, rfl, by rw [upd_ne (hn a List.mem_cons_self)]; exact h1, ⟨h2, h3.keep (Kp.at hl _)⟩, h4, h5⟩
  | own2 ks ps => obtain ⟨a, e, q⟩ := h; subst e; exact ⟨a, rfl, by rw [upd_ne (hn a List.mem_cons_self)]; exact q.h, q.z, q.k, q.nd, q.m, q.c, fun p hp => let w := q.i p hp; ⟨w.m, w.c, let ⟨vs, h1, h2, h3⟩ := w.h; ⟨vs, by rw [upd_ne (hn p.1 (List.mem_cons_of_mem _ (List.mem_map.mpr ⟨p, hp, rfl⟩)))]; exact h1, h2, h3.keep (Kp.at hl _)⟩⟩⟩
theorem ev_inner {S : Src} {ex : List Addr} {env : List Vl} {σ : L2.St} {H : Hp} {n : Nat} (E : Ev S ex env σ H n) (k : Nat) (idx : List Nat) : Ev S ex (jenv k idx env) (startC k idx σ) H n := by
  refine ⟨by unfold jenv startC; simp, fun i w e => ?_, E.ch, E.al, E.inv⟩
  unfold jenv at e
  by_cases hi : i < k
  · rw [List.getElem?_append_left (by simpa using hi), List.getElem?_replicate, if_pos hi] at e
    cases e
    trivial
  · rw [List.getElem?_append_right (by simpa using Nat.le_of_not_lt hi), List.getElem?_map] at e
    rw [List.length_replicate] at e
    cases hj : idx[i - k]? with
    | none => rw [hj] at e; cases e
    | some j =>
      rw [hj] at e
      cases e
      have e2 : (startC k idx σ)[i]? = some ((σ[j]?).join) := by
        unfold startC
        rw [List.getElem?_append_right (by simpa using Nat.le_of_not_lt hi), List.length_replicate, List.getElem?_map, hj]; rfl
      rw [e2]
      show SlR S ex H ((env[j]?).getD .jnk) (σ[j]?).join
      cases hw : env[j]? with
      | none => exact trivial
      | some w => exact E.sl j w hw
theorem ev_turn {S : Src} {ex : List Addr} {je : List Vl} {σ0 σ' : L2.St} {H1 H2 : Hp} {n1 n2 k : Nat} {l : Addr} (E : Ev S ex je σ0 H1 n1) (hl : H1 l = none) (kp : Kp (l :: S.ch) H1 H2) (h2 : H2 l ≠ none) (iv : S.inv n2 H2) (hj : ∀ j : Nat, j < k → je[j]? = none ∨ je[j]? = some .jnk) (hs : ∀ j : Nat, k ≤ j → σ'[j]? = σ0[j]?) (hz : σ'.length = σ0.length) : Ev S (l :: ex) je σ' H2 n2 := by
  have hc : ∀ a ∈ S.ch, a ∈ l :: ex := fun a h => List.mem_cons_of_mem _ (E.ch a h)
  have kx : Kp (l :: ex) H1 H2 := kp_cons E.ch kp
  refine ⟨by rw [hz]; exact E.len, fun j w e => ?_, hc, fun a ha => ?_, iv⟩
  · by_cases hjk : j < k
    · rcases hj j hjk with h | h
      · rw [h] at e; cases e
      · rw [h] at e; cases e; trivial
    · rw [hs j (Nat.le_of_not_lt hjk)]
      have h := SlR.add hl (E.sl j w e)
      cases w with
      | jnk => trivial
      | jar => exact h
      | tape => exact h
      | d x => obtain ⟨v, e, r⟩ := h; exact ⟨v, e, r.keep kx⟩
      | pin v x => obtain ⟨e, r⟩ := h; exact ⟨e, r.keep kx⟩
      | own xs => obtain ⟨a, vs, e, h1, h2, h3, h4, h5⟩ := h; exact ⟨a, vs, e, kp _ _ h1 fun z => (List.mem_cons.mp z).elim (ne_of_none h1 hl) h5, h2, h3.keep kx, h4, h5⟩
      | dct kvs => obtain ⟨a, kws, e, h1, ⟨h2, h3⟩, h4, h5⟩ := h; exact ⟨a, kws, e, kp _ _ h1 fun z => (List.mem_cons.mp z).elim (ne_of_none h1 hl) h5, ⟨h2, h3.keep kx⟩, h4, h5⟩
      | own2 ks ps => obtain ⟨a, e, q⟩ := h; exact ⟨a, e, kp _ _ q.h fun z => (List.mem_cons.mp z).elim (ne_of_none q.h hl) q.c, q.z, q.k, q.nd, q.m, q.c, fun p hp => let w := q.i p hp; ⟨w.m, w.c, let ⟨vs, h1, h2, h3⟩ := w.h; ⟨vs, kp _ _ h1 fun z => (List.mem_cons.mp z).elim (ne_of_none h1 hl) w.c, h2, h3.keep kx⟩⟩⟩
  · rcases List.mem_cons.mp ha with rfl | ha
    · exact h2
    · by_cases hac : a ∈ S.ch
      · exact S.dom iv a hac
      · intro z
        cases e : H1 a with
        | none => exact E.al a ha e
        | some o =>
          rw [kp a o e fun q => (List.mem_cons.mp q).elim (ne_of_none e hl) hac] at z
          cases z
theorem jenv_jnk {k : Nat} {idx : List Nat} {env : List Vl} (j : Nat) (h : j < k) : (jenv k idx env)[j]? = none ∨ (jenv k idx env)[j]? = some .jnk := by
  right
  unfold jenv
  rw [List.getElem?_append_left (by simpa using h), List.getElem?_replicate, if_pos h]
noncomputable instance nv_comp {wi : TI} {gi : GN} {k : Nat} {idx ks : List Nat} {g : TG} {bd : GG} {tt : TT} {gt : GT} {te : TE} {ge : GE} [I : IC wi gi] [G : GV g bd ks] [T : TV tt gt] [A : EV true te ge] : NV (tComp wi k idx g tt te) (gComp gi k idx ks bd gt ge) := ⟨fun {S ex env σ H n Q P} E h kk => by
  refine I.ic E h fun items n1 J H1 hc s1 hit l hl => ?_
  obtain ⟨⟨hk, hz⟩, hc⟩ := hc
  have E1 := ev_inner (E.step s1) k idx
  have lch : l ∉ S.ch := fun z => S.dom s1.2 l z hl
  have hkk : ∀ i ∈ ks, i < k := fun i hi => of_decide_eq_true (List.all_eq_true.mp hk i hi)
  refine ⟨fun i m σ' H2 => i ≤ items.length ∧ m = items.length - i ∧ ∃ (n2 : Nat) (ds : List PyData) (vs : List V), cmpW (gTurn bd gt ge (jenv k idx env)) (items.drop i) n2 (fun ys n' => P (ds ++ ys) n') ∧ Kp (l :: S.ch) H1 H2 ∧ H2 l = some (.lst vs) ∧ vs.length ≤ i ∧ Reps (l :: ex) H2 ds vs ∧ S.inv n2 H2 ∧ (∀ j : Nat, k ≤ j → σ'[j]? = (startC k idx σ)[j]?) ∧ σ'.length = (startC k idx σ).length,
    ⟨items.length, Nat.zero_le _, rfl, n1, [], [], by simpa using hc, Kp.new hl _, upd_same, Nat.le_refl _, .nil, S.keep s1.2 fun b _ o' e => Kp.new (ex := []) hl _ _ _ e (by simp), fun _ _ => rfl, rfl⟩, ?_⟩
  rintro i m σ' H2 ⟨hi, rfl, n2, ds, vs, hcm, kp, h2l, hvl, rs, iv2, hsl, hln⟩
  have E2 : Ev S (l :: ex) (jenv k idx env) σ' H2 n2 := ev_turn E1 hl kp (by rw [h2l]; intro z; cases z) iv2 jenv_jnk hsl hln
  have IT := hit l H2 hl kp E2.al
  rcases Nat.lt_or_ge i items.length with hlt | hge
  · refine .inr ⟨(IT.2 i items[i] (List.getElem?_eq_getElem hlt)).1, fun x H3 y => ?_⟩
    obtain ⟨kp3, rx⟩ := (IT.2 i items[i] (List.getElem?_eq_getElem hlt)).2 x H3 y
    rw [List.drop_eq_getElem_cons hlt] at hcm
    have st3 : Step S n2 H2 H3 := Step.new E2.inv kp3
    have E3 := E2.step st3
    refine G.gv E3 rx hcm fun env' σ2 ht E4 _ hs hl2 => T.tv E4 ht fun c n4 H4 h4 s4 => ?_
    have hs2 : ∀ j : Nat, k ≤ j → σ2[j]? = (startC k idx σ)[j]? := fun j hj => by
      rw [hs j fun z => by have := hkk j z; omega]; exact hsl j hj
    cases c with
    | true =>
      refine A.ev (E4.step s4) h4 fun d n5 v H5 h5 s5 r5 => ?_
      have s25 := st3.trans (s4.trans s5)
      have k5 : Kp S.ch H2 H5 := s25.1
      have h5l : H5 l = some (.lst vs) := k5 _ _ h2l lch
      refine ⟨vs, h5l, by omega, _, (?_ : items.length - (i + 1) < _), hlt, rfl, n5, ds ++ [d], vs ++ [v], ?_, ?_, upd_same, ?_, ?_, ?_, hs2, hl2.trans hln⟩
      · omega
      · simpa using h5
      · exact (kp.trans (k5.mono fun b hb => List.mem_cons_of_mem _ hb)).trans (Kp.at List.mem_cons_self _)
      · rw [List.length_append, List.length_singleton]; omega
      · have q1 : Reps (l :: ex) H5 ds vs := rs.keep (k5.mono E2.ch)
        exact (Reps.append q1 (.cons r5 .nil)).keep (Kp.at List.mem_cons_self _)
      · exact S.keep s25.2 fun b hb o e => by rw [upd_ne (fun z => lch (by rw [← z]; exact hb))]; exact e
    | false =>
      have s24 := st3.trans s4
      refine ⟨_, (?_ : items.length - (i + 1) < _), hlt, rfl, n4, ds, vs, by simpa using h4, kp.trans (s24.1.mono fun b hb => List.mem_cons_of_mem _ hb), s24.1 _ _ h2l lch, by omega, rs.keep (s24.1.mono E2.ch), s24.2, hs2, hl2.trans hln⟩
      omega
  · have e : i = items.length := by omega
    subst e
    rw [List.drop_length] at hcm
    refine .inl ⟨IT.1, kk _ _ _ _ _ (by simpa [cmpW] using hcm) ⟨fun b o e nb => kp b o (s1.1 b o e nb) fun z => (List.mem_cons.mp z).elim (fun e2 => by rw [e2, s1.free hl] at e; cases e) nb, iv2⟩ (s1.free hl) h2l (Nat.le_trans hvl hz) rs⟩⟩
end My

namespace My
open PySem PySem.Spec PyProof.Rows L2

structure VEnds where
  nx : List Vl → Nat → Prop
  rt : PyData → Nat → Prop
  rtn : List PyData → Nat → Prop
  bk : List Vl → Nat → Prop := fun _ _ => False
  ct : List Vl → Nat → Prop := fun _ _ => False
  xc : XK → Addr → Nat → Prop := fun _ _ _ => False
  rt2 : List (List PyData) → Nat → Prop := fun _ _ => False
noncomputable abbrev GS := VEnds → List Vl → Nat → Prop
structure Cv where
  S : Src
  ex0 : List Addr
  H0 : Hp
  held : List (PyData × V)
structure At (C : Cv) (ex : List Addr) (env : List Vl) (σ : L2.St) (H : Hp) (n : Nat) : Prop where
  ev : Ev C.S ex env σ H n
  ex0 : ∀ a ∈ C.ex0, a ∈ ex
  al0 : Alc C.ex0 C.H0
  sep : ∀ i j a, a ∈ ownAt env σ i → a ∈ ownAt env σ j → i = j
  new : ∀ i a, a ∈ ownAt env σ i → C.H0 a = none
  kp : Kp C.S.ch C.H0 H
  held : ∀ h ∈ C.held, Rep ex H h.1 h.2
structure Ret (C : Cv) (d : PyData) (n : Nat) (v : V) (H : Hp) : Prop where
  kp : Kp C.S.ch C.H0 H
  inv : C.S.inv n H
  r : Rep C.ex0 H d v
structure RetN (C : Cv) (ds : List PyData) (n : Nat) (a : Addr) (H : Hp) : Prop where
  kp : Kp C.S.ch C.H0 H
  inv : C.S.inv n H
  fr : C.H0 a = none
  r : ∃ vs, H a = some (.lst vs) ∧ vs.length ≤ sizeLine ∧ Reps (a :: C.ex0) H ds vs
structure Ret2 (C : Cv) (ps : List (Addr × List PyData)) (n : Nat) (a : Addr) (H : Hp) : Prop where
  kp : Kp C.S.ch C.H0 H
  inv : C.S.inv n H
  fr : C.H0 a = none
  frs : ∀ p ∈ ps, C.H0 p.1 = none
  o : Own2 C.S (a :: ps.map (·.1) ++ C.ex0) H none ps a
structure EndsOk (C : Cv) (G : VEnds) (D : Ends) : Prop where
  nx : ∀ {ex env σ H n}, At C ex env σ H n → G.nx env n → D.nx σ H
  bk : ∀ {ex env σ H n}, At C ex env σ H n → G.bk env n → D.bk σ H
  ct : ∀ {ex env σ H n}, At C ex env σ H n → G.ct env n → D.ct σ H
  rt : ∀ {d n v H}, Ret C d n v H → G.rt d n → D.rt v H
  rtn : ∀ {ds n a H}, RetN C ds n a H → G.rtn ds n → D.rt (.ref a) H
  xc : ∀ {E c n H}, Kp C.S.ch C.H0 H → C.S.inv n H → G.xc E c n → E (.ref c) none H
  r2 : ∀ {ps n a H}, Ret2 C ps n a H → G.rt2 (ps.map (·.2)) n → D.rt (.ref a) H
class SV (ts : TS) (gs : outParam GS) : Prop where
  sv : ∀ {C : Cv} {G : VEnds} {D : Ends}, EndsOk C G D → ∀ {ex env σ H n}, At C ex env σ H n → gs G env n → ts D σ H
section
variable {C : Cv} {ex : List Addr} {env : List Vl} {σ : L2.St} {H H' : Hp} {n m : Nat}
theorem At.step (A : At C ex env σ H n) (s : Step C.S m H H') : At C ex env σ H' m := ⟨A.ev.step s, A.ex0, A.al0, A.sep, A.new, A.kp.trans s.1, fun h hh => A.ev.rep s (A.held h hh)⟩
theorem own_sl {i : Nat} {a : Addr} (E : Ev C.S ex env σ H n) (h : a ∈ ownAt env σ i) : H a ≠ none ∧ a ∈ ex ∧ a ∉ C.S.ch := by
  unfold ownAt at h
  split at h
  · rename_i xs b e1 e2
    obtain ⟨c, vs, e, h1, h2, h3, h4, h5⟩ := E.sl i _ e1
    rw [e2] at e
    cases e
    rw [List.mem_singleton.mp h]
    exact ⟨(by rw [h1]; intro z; cases z), h4, h5⟩
  · rename_i xs b e1 e2
    obtain ⟨c, vs, e, h1, h2, h4, h5⟩ := E.sl i _ e1
    rw [e2] at e
    cases e
    rw [List.mem_singleton.mp h]
    exact ⟨(by rw [h1]; intro z; cases z), h4, h5⟩
  · rename_i ks ps b e1 e2
    obtain ⟨c, e, q⟩ := E.sl i _ e1
    rw [e2] at e
    cases e
    rcases List.mem_cons.mp h with rfl | h
    · exact ⟨(by rw [q.h]; exact Option.some_ne_none _), q.m, q.c⟩
    · obtain ⟨p, hp, rfl⟩ := List.mem_map.mp h
      have w := q.i p hp
      obtain ⟨vs, h1, _⟩ := w.h
      exact ⟨(by rw [h1]; exact Option.some_ne_none _), w.m, w.c⟩
  · cases h
theorem set_get {α : Type} {l : List α} {i : Nat} {a b : α} (h : (l.set i a)[i]? = some b) : b = a := by
  have hl := (List.getElem?_eq_some_iff.mp h).1
  rw [List.length_set] at hl
  rw [List.getElem?_set_self hl] at h
  exact (Option.some.inj h).symm
theorem own_one {j : Nat} {w : Vl} (e : env[j]? = some w) : ownAt env σ j = ownAt [w] [(σ[j]?).join] 0 := by
  unfold ownAt
  rw [e]
  rfl
theorem At.put (A : At C ex env σ H n) {i : Nat} {d : PyData} {v : V} (r : Rep ex H d v) : At C ex (env.set i (.d d)) (σ.set i (some v)) H n :=
  ⟨A.ev.put ⟨v, rfl, r⟩, A.ex0, A.al0, fun j k a h1 h2 => A.sep j k a (own_put j a h1) (own_put k a h2), fun j a h => A.new j a (own_put j a h), A.kp, A.held⟩
theorem At.bind (A : At C ex env σ H n) {env' : List Vl} {σ' : L2.St} (E : Ev C.S ex env' σ' H n) (o : ∀ i a, a ∈ ownAt env' σ' i → a ∈ ownAt env σ i) : At C ex env' σ' H n :=
  ⟨E, A.ex0, A.al0, fun j k a h1 h2 => A.sep j k a (o j a h1) (o k a h2), fun j a h => A.new j a (o j a h), A.kp, A.held⟩
theorem At.free (A : At C ex env σ H n) {a : Addr} (h : H a = none) : C.H0 a = none := by
  cases e : C.H0 a with
  | none => rfl
  | some o =>
    by_cases hp : a ∈ C.S.ch
    · exact absurd h (C.S.dom A.ev.inv a hp)
    · rw [A.kp a o e hp] at h; cases h
theorem own_other {i j : Nat} {w : Vl} {o : Option V} (h : i ≠ j) : ownAt (env.set i w) (σ.set i o) j = ownAt env σ j := by
  unfold ownAt
  rw [List.getElem?_set_ne h, List.getElem?_set_ne h]
theorem own_at {i : Nat} {ds : List PyData} {a b : Addr} (h : b ∈ ownAt (env.set i (.own ds)) (σ.set i (some (.ref a))) i) : b = a := by
  unfold ownAt at h
  split at h
  · rename_i c e1 e2
    have e3 : (σ.set i (some (.ref a)))[i]? = some (some (.ref c)) := join_some e2
    have := set_get e3
    cases this
    exact List.mem_singleton.mp h
  · rename_i e1 e2
    have := set_get e1
    cases this
  · rename_i e1 e2
    have := set_get e1
    cases this
  · cases h
theorem At.own (A : At C ex env σ H n) {i : Nat} {ds : List PyData} {vs : List V} {a : Addr} (s : Step C.S m H H') (ha : H a = none) (hl : H' a = some (.lst vs)) (hz : vs.length ≤ sizeLine) (r : Reps (a :: ex) H' ds vs) :
    At C (a :: ex) (env.set i (.own ds)) (σ.set i (some (.ref a))) H' m := by
  have ac : a ∉ C.S.ch := fun z => C.S.dom A.ev.inv a z ha
  have hc : ∀ b ∈ C.S.ch, b ∈ a :: ex := fun b h => List.mem_cons_of_mem _ (A.ev.ch b h)
  have E1 : Ev C.S (a :: ex) env σ H' m := by
    refine ⟨A.ev.len, fun j w e => (SlR.add ha (A.ev.sl j w e)).kp hc s.1, hc, fun b hb => ?_, s.2⟩
    rcases List.mem_cons.mp hb with rfl | hb
    · rw [hl]; intro z; cases z
    · exact A.ev.al.step s b hb
  refine ⟨E1.put ⟨a, vs, rfl, hl, hz, r, List.mem_cons_self, ac⟩, fun b h => List.mem_cons_of_mem _ (A.ex0 b h), A.al0, fun j k b h1 h2 => ?_, fun j b h => ?_, A.kp.trans s.1, fun h hh => (Rep.add ha (A.held h hh)).keep (s.1.mono hc)⟩
  · by_cases hj : i = j
    · subst hj
      have e := own_at h1
      subst e
      by_cases hk : i = k
      · exact hk
      · rw [own_other hk] at h2
        exact absurd ha (own_sl A.ev h2).1
    · rw [own_other hj] at h1
      by_cases hk : i = k
      · subst hk
        have e := own_at h2
        subst e
        exact absurd ha (own_sl A.ev h1).1
      · rw [own_other hk] at h2
        exact A.sep j k b h1 h2
  · by_cases hj : i = j
    · subst hj
      have e := own_at h
      subst e
      exact A.free ha
    · rw [own_other hj] at h
      exact A.new j b h
theorem own_same {i : Nat} {xs ys : List PyData} (h : env[i]? = some (.own xs)) : ∀ j, ownAt (env.set i (.own ys)) σ j = ownAt env σ j := fun j => by
  unfold ownAt
  by_cases hj : i = j
  · subst hj
    rw [List.getElem?_set_self (List.getElem?_eq_some_iff.mp h).1, h]
    cases (σ[i]?).join with
    | none => rfl
    | some v => cases v <;> rfl
  · rw [List.getElem?_set_ne hj]
theorem At.re (A : At C ex env σ H n) {i : Nat} {xs ys : List PyData} {ws : List V} {a : Addr} (h : env[i]? = some (.own xs)) (hs : (σ[i]?).join = some (.ref a)) (r : Reps ex H ys ws) (hz : ws.length ≤ sizeLine) :
    At C ex (env.set i (.own ys)) σ (upd H a (.lst ws)) n := by
  have ha : a ∈ ownAt env σ i := by unfold ownAt; rw [h, hs]; exact List.mem_singleton.mpr rfl
  obtain ⟨h1, h2, h3⟩ := own_sl A.ev ha
  have h0 := A.new i a ha
  have kx : Kp ex H (upd H a (.lst ws)) := Kp.at h2 _
  refine ⟨⟨by rw [List.length_set]; exact A.ev.len, fun j w e => ?_, A.ev.ch, fun b hb => ?_, C.S.keep A.ev.inv fun b hb o e => by rw [upd_ne (fun z => h3 (by rw [← z]; exact hb))]; exact e⟩, A.ex0, A.al0, fun j k b q1 q2 => ?_, fun j b q => ?_, Kp.late A.kp h0 _, fun x hx => (A.held x hx).keep kx⟩
  · by_cases hj : i = j
    · subst hj
      rw [List.getElem?_set_self (List.getElem?_eq_some_iff.mp h).1] at e
      cases e
      exact ⟨a, ws, hs, upd_same, hz, r.keep kx, h2, h3⟩
    · rw [List.getElem?_set_ne hj] at e
      exact SlR.upd h2 (fun b hb z => hj (A.sep i j a ha (by rw [own_one e, ← z]; exact hb))) (A.ev.sl j w e)
  · by_cases hb2 : b = a
    · rw [hb2, upd_same]; intro z; cases z
    · rw [upd_ne hb2]; exact A.ev.al b hb
  · rw [own_same h] at q1 q2; exact A.sep j k b q1 q2
  · rw [own_same h] at q; exact A.new j b q
inductive Fz : List Vl → List Vl → Prop
  | refl {env : List Vl} : Fz env env
  | fz {env env' : List Vl} (i : Nat) (xs : List PyData) (h : env[i]? = some (.own xs)) (t : Fz (env.set i (.d (.list xs))) env') : Fz env env'
  | jnk {env env' : List Vl} (i : Nat) (t : Fz (env.set i .jnk) env') : Fz env env'
  | fz2 {env env' : List Vl} (i : Nat) (ps : List (Addr × List PyData)) (h : env[i]? = some (.own2 none ps)) (t : Fz (env.set i (.d (.list (ps.map fun p => .list p.2)))) env') : Fz env env'
  | fzh {env env' : List Vl} (i : Nat) (ps : List (Addr × List PyData)) (h : env[i]? = some (.own2 none ps)) (t : Fz (env.set i (.own (ps.map fun p => .list p.2))) env') : Fz env env'
theorem At.fz1 (A : At C ex env σ H n) {i : Nat} {xs : List PyData} (h : env[i]? = some (.own xs)) : ∃ ex', At C ex' (env.set i (.d (.list xs))) σ H n := by
  obtain ⟨a, vs, e, h1, h2, h3, h4, h5⟩ := A.ev.sl i _ h
  have ha : a ∈ ownAt env σ i := by unfold ownAt; rw [h, e]; exact List.mem_singleton.mpr rfl
  have hsub : ∀ b ∈ ex.filter (fun b => decide (b ≠ a)), b ∈ ex := fun b hb => (List.mem_filter.mp hb).1
  have hin : ∀ b ∈ ex, b ≠ a → b ∈ ex.filter (fun b => decide (b ≠ a)) := fun b hb hn => List.mem_filter.mpr ⟨hb, decide_eq_true hn⟩
  have hn : a ∉ ex.filter (fun b => decide (b ≠ a)) := fun z => (of_decide_eq_true (List.mem_filter.mp z).2) rfl
  have oo : ∀ j b, b ∈ ownAt (env.set i (.d (.list xs))) σ j → b ∈ ownAt env σ j ∧ b ≠ a := fun j b hb => by
    by_cases hj : i = j
    · subst hj
      unfold ownAt at hb
      rw [List.getElem?_set_self (List.getElem?_eq_some_iff.mp h).1] at hb
      cases hb
    · have : ownAt (env.set i (.d (.list xs))) σ j = ownAt env σ j := by unfold ownAt; rw [List.getElem?_set_ne hj]
      rw [this] at hb
      exact ⟨hb, fun z => hj (A.sep i j a ha (by rw [← z]; exact hb))⟩
  refine ⟨ex.filter fun b => decide (b ≠ a), ⟨by rw [List.length_set]; exact A.ev.len, fun j w ew => ?_, fun b hb => hin b (A.ev.ch b hb) fun z => h5 (by rw [← z]; exact hb), fun b hb => A.ev.al b (hsub b hb), A.ev.inv⟩, fun b hb => hin b (A.ex0 b hb) fun z => ?_, A.al0, fun j k b q1 q2 => A.sep j k b (oo j b q1).1 (oo k b q2).1, fun j b q => A.new j b (oo j b q).1, A.kp, fun x hx => Rep.mono hsub (A.held x hx)⟩
  · by_cases hj : i = j
    · subst hj
      rw [List.getElem?_set_self (List.getElem?_eq_some_iff.mp h).1] at ew
      cases ew
      exact ⟨_, e, .list h1 hn h2 (Reps.mono hsub h3)⟩
    · rw [List.getElem?_set_ne hj] at ew
      have q := A.ev.sl j w ew
      have ne : ∀ b ∈ ownAt [w] [(σ[j]?).join] 0, b ≠ a := fun b hb z => hj (A.sep i j a ha (by rw [own_one ew, ← z]; exact hb))
      cases w with
      | jnk => trivial
      | jar => exact q
      | tape => exact q
      | d x => obtain ⟨v, e, r⟩ := q; exact ⟨v, e, Rep.mono hsub r⟩
      | pin v x => obtain ⟨e, r⟩ := q; exact ⟨e, Rep.mono hsub r⟩
      | own ys => obtain ⟨b, ws, e, g1, g2, g3, g4, g5⟩ := q; exact ⟨b, ws, e, g1, g2, Reps.mono hsub g3, hin b g4 (ne b (by rw [e]; exact List.mem_cons_self)), g5⟩
      | dct kvs => obtain ⟨b, ws, e, g1, ⟨g2, g3⟩, g4, g5⟩ := q; exact ⟨b, ws, e, g1, ⟨g2, Reps.mono hsub g3⟩, hin b g4 (ne b (by rw [e]; exact List.mem_cons_self)), g5⟩
      | own2 ks ps => obtain ⟨b, e, q⟩ := q; exact ⟨b, e, q.h, q.z, q.k, q.nd, hin b q.m (ne b (by rw [e]; exact List.mem_cons_self)), q.c, fun p hp => let w := q.i p hp; ⟨hin p.1 w.m (ne p.1 (by rw [e]; exact List.mem_cons_of_mem _ (List.mem_map.mpr ⟨p, hp, rfl⟩))), w.c, let ⟨vs, h1, h2, h3⟩ := w.h; ⟨vs, h1, h2, Reps.mono hsub h3⟩⟩⟩
  · subst z
    exact A.al0 b hb (A.new i b ha)
theorem At.fz2 (A : At C ex env σ H n) {i : Nat} {ps : List (Addr × List PyData)} (h : env[i]? = some (.own2 none ps)) : ∃ ex', At C ex' (env.set i (.d (.list (ps.map fun p => .list p.2)))) σ H n := by
  obtain ⟨a, e, o⟩ := A.ev.sl i _ h
  have hL : ∀ b ∈ a :: ps.map (·.1), b ∈ ownAt env σ i := fun b hb => by unfold ownAt; rw [h, e]; exact hb
  have hsub : ∀ b ∈ ex.filter (fun b => decide (b ∉ a :: ps.map (·.1))), b ∈ ex := fun b hb => (List.mem_filter.mp hb).1
  have hin : ∀ b ∈ ex, b ∉ a :: ps.map (·.1) → b ∈ ex.filter (fun b => decide (b ∉ a :: ps.map (·.1))) := fun b hb hn => List.mem_filter.mpr ⟨hb, decide_eq_true hn⟩
  have hn : ∀ b ∈ a :: ps.map (·.1), b ∉ ex.filter (fun b => decide (b ∉ a :: ps.map (·.1))) := fun b hb z => (of_decide_eq_true (List.mem_filter.mp z).2) hb
  have hc : ∀ b ∈ a :: ps.map (·.1), b ∉ C.S.ch := fun b hb => by
    rcases List.mem_cons.mp hb with rfl | hb
    · exact o.c
    · obtain ⟨p, hp, rfl⟩ := List.mem_map.mp hb; exact (o.i p hp).c
  have oo : ∀ j b, b ∈ ownAt (env.set i (.d (.list (ps.map fun p => .list p.2)))) σ j → b ∈ ownAt env σ j ∧ b ∉ a :: ps.map (·.1) := fun j b hb => by
    by_cases hj : i = j
    · subst hj
      unfold ownAt at hb
      rw [List.getElem?_set_self (List.getElem?_eq_some_iff.mp h).1] at hb
      cases hb
    · have : ownAt (env.set i (.d (.list (ps.map fun p => .list p.2)))) σ j = ownAt env σ j := by unfold ownAt; rw [List.getElem?_set_ne hj]
      rw [this] at hb
      exact ⟨hb, fun z => hj (A.sep i j b (hL b z) hb)⟩
  refine ⟨ex.filter fun b => decide (b ∉ a :: ps.map (·.1)), ⟨by rw [List.length_set]; exact A.ev.len, fun j w ew => ?_, fun b hb => hin b (A.ev.ch b hb) fun z => hc b z hb, fun b hb => A.ev.al b (hsub b hb), A.ev.inv⟩, fun b hb => hin b (A.ex0 b hb) fun z => ?_, A.al0, fun j k b q1 q2 => A.sep j k b (oo j b q1).1 (oo k b q2).1, fun j b q => A.new j b (oo j b q).1, A.kp, fun x hx => Rep.mono hsub (A.held x hx)⟩
  · by_cases hj : i = j
    · subst hj
      rw [List.getElem?_set_self (List.getElem?_eq_some_iff.mp h).1] at ew
      cases ew
      refine ⟨_, e, .list o.h (hn a List.mem_cons_self) (by unfold refs; rw [List.length_map, sizeLine_eq]; have := o.z; omega) ?_⟩
      have : ∀ qs : List (Addr × List PyData), (∀ q ∈ qs, q ∈ ps) → Reps (ex.filter fun b => decide (b ∉ a :: ps.map (·.1))) H (qs.map fun p => PyData.list p.2) (refs qs) := by
        intro qs
        induction qs with
        | nil => exact fun _ => .nil
        | cons q qs ih =>
          intro hq
          have hm := hq q List.mem_cons_self
          obtain ⟨vs, g1, g2, g3⟩ := (o.i q hm).h
          exact .cons (.list g1 (hn q.1 (List.mem_cons_of_mem _ (List.mem_map.mpr ⟨q, hm, rfl⟩))) g2 (Reps.mono hsub g3)) (ih fun x hx => hq x (List.mem_cons_of_mem _ hx))
      exact this ps fun _ h => h
    · rw [List.getElem?_set_ne hj] at ew
      have q := A.ev.sl j w ew
      have ne : ∀ b ∈ ownAt [w] [(σ[j]?).join] 0, b ∉ a :: ps.map (·.1) := fun b hb z => hj (A.sep i j b (hL b z) (by rw [own_one ew]; exact hb))
      cases w with
      | jnk => trivial
      | jar => exact q
      | tape => exact q
      | d x => obtain ⟨v, e, r⟩ := q; exact ⟨v, e, Rep.mono hsub r⟩
      | pin v x => obtain ⟨e, r⟩ := q; exact ⟨e, Rep.mono hsub r⟩
      | own ys => obtain ⟨b, ws, e, g1, g2, g3, g4, g5⟩ := q; exact ⟨b, ws, e, g1, g2, Reps.mono hsub g3, hin b g4 (ne b (by rw [e]; exact List.mem_cons_self)), g5⟩
      | dct kvs => obtain ⟨b, ws, e, g1, ⟨g2, g3⟩, g4, g5⟩ := q; exact ⟨b, ws, e, g1, ⟨g2, Reps.mono hsub g3⟩, hin b g4 (ne b (by rw [e]; exact List.mem_cons_self)), g5⟩
      | own2 ks qs => obtain ⟨b, e, q⟩ := q; exact ⟨b, e, q.h, q.z, q.k, q.nd, hin b q.m (ne b (by rw [e]; exact List.mem_cons_self)), q.c, fun p hp => let w := q.i p hp; ⟨hin p.1 w.m (ne p.1 (by rw [e]; exact List.mem_cons_of_mem _ (List.mem_map.mpr ⟨p, hp, rfl⟩))), w.c, let ⟨vs, h1, h2, h3⟩ := w.h; ⟨vs, h1, h2, Reps.mono hsub h3⟩⟩⟩
  · exact A.al0 b hb (A.new i b (hL b z))
theorem At.fzh (A : At C ex env σ H n) {i : Nat} {ps : List (Addr × List PyData)} (h : env[i]? = some (.own2 none ps)) : ∃ ex', At C ex' (env.set i (.own (ps.map fun p => .list p.2))) σ H n := by
  obtain ⟨a, e, o⟩ := A.ev.sl i _ h
  have hL : ∀ b ∈ ps.map (·.1), b ∈ ownAt env σ i := fun b hb => by unfold ownAt; rw [h, e]; exact List.mem_cons_of_mem _ hb
  have hsub : ∀ b ∈ ex.filter (fun b => decide (b ∉ ps.map (·.1))), b ∈ ex := fun b hb => (List.mem_filter.mp hb).1
  have hin : ∀ b ∈ ex, b ∉ ps.map (·.1) → b ∈ ex.filter (fun b => decide (b ∉ ps.map (·.1))) := fun b hb hn => List.mem_filter.mpr ⟨hb, decide_eq_true hn⟩
  have hn : ∀ b ∈ ps.map (·.1), b ∉ ex.filter (fun b => decide (b ∉ ps.map (·.1))) := fun b hb z => (of_decide_eq_true (List.mem_filter.mp z).2) hb
  have hc : ∀ b ∈ ps.map (·.1), b ∉ C.S.ch := fun b hb => by
    obtain ⟨p, hp, rfl⟩ := List.mem_map.mp hb; exact (o.i p hp).c
  have ha : a ∈ ownAt env σ i := by unfold ownAt; rw [h, e]; exact List.mem_cons_self
  have hna : a ∉ ps.map (·.1) := (List.nodup_cons.mp o.nd).1
  have oo : ∀ j b, b ∈ ownAt (env.set i (.own (ps.map fun p => .list p.2))) σ j → b ∈ ownAt env σ j ∧ b ∉ ps.map (·.1) := fun j b hb => by
    by_cases hj : i = j
    · subst hj
      unfold ownAt at hb
      rw [List.getElem?_set_self (List.getElem?_eq_some_iff.mp h).1, e] at hb
      have hb' : b = a := List.mem_singleton.mp hb
      rw [hb']
      exact ⟨ha, hna⟩
    · have : ownAt (env.set i (.own (ps.map fun p => .list p.2))) σ j = ownAt env σ j := by unfold ownAt; rw [List.getElem?_set_ne hj]
      rw [this] at hb
      exact ⟨hb, fun z => hj (A.sep i j b (hL b z) hb)⟩
  refine ⟨ex.filter fun b => decide (b ∉ ps.map (·.1)), ⟨by rw [List.length_set]; exact A.ev.len, fun j w ew => ?_, fun b hb => hin b (A.ev.ch b hb) fun z => hc b z hb, fun b hb => A.ev.al b (hsub b hb), A.ev.inv⟩, fun b hb => hin b (A.ex0 b hb) fun z => ?_, A.al0, fun j k b q1 q2 => A.sep j k b (oo j b q1).1 (oo k b q2).1, fun j b q => A.new j b (oo j b q).1, A.kp, fun x hx => Rep.mono hsub (A.held x hx)⟩
  · by_cases hj : i = j
    · subst hj
      rw [List.getElem?_set_self (List.getElem?_eq_some_iff.mp h).1] at ew
      cases ew
      refine ⟨a, refs ps, e, o.h, by unfold refs; rw [List.length_map, sizeLine_eq]; have := o.z; omega, ?_, hin a o.m hna, o.c⟩
      have : ∀ qs : List (Addr × List PyData), (∀ q ∈ qs, q ∈ ps) → Reps (ex.filter fun b => decide (b ∉ ps.map (·.1))) H (qs.map fun p => PyData.list p.2) (refs qs) := by
        intro qs
        induction qs with
        | nil => exact fun _ => .nil
        | cons q qs ih =>
          intro hq
          have hm := hq q List.mem_cons_self
          obtain ⟨vs, g1, g2, g3⟩ := (o.i q hm).h
          exact .cons (.list g1 (hn q.1 (List.mem_map.mpr ⟨q, hm, rfl⟩)) g2 (Reps.mono hsub g3)) (ih fun x hx => hq x (List.mem_cons_of_mem _ hx))
      exact this ps fun _ h => h
    · rw [List.getElem?_set_ne hj] at ew
      have q := A.ev.sl j w ew
      have ne : ∀ b ∈ ownAt [w] [(σ[j]?).join] 0, b ∉ ps.map (·.1) := fun b hb z => hj (A.sep i j b (hL b z) (by rw [own_one ew]; exact hb))
      cases w with
      | jnk => trivial
      | jar => exact q
      | tape => exact q
      | d x => obtain ⟨v, e, r⟩ := q; exact ⟨v, e, Rep.mono hsub r⟩
      | pin v x => obtain ⟨e, r⟩ := q; exact ⟨e, Rep.mono hsub r⟩
      | own ys => obtain ⟨b, ws, e, g1, g2, g3, g4, g5⟩ := q; exact ⟨b, ws, e, g1, g2, Reps.mono hsub g3, hin b g4 (ne b (by rw [e]; exact List.mem_cons_self)), g5⟩
      | dct kvs => obtain ⟨b, ws, e, g1, ⟨g2, g3⟩, g4, g5⟩ := q; exact ⟨b, ws, e, g1, ⟨g2, Reps.mono hsub g3⟩, hin b g4 (ne b (by rw [e]; exact List.mem_cons_self)), g5⟩
      | own2 ks qs => obtain ⟨b, e, q⟩ := q; exact ⟨b, e, q.h, q.z, q.k, q.nd, hin b q.m (ne b (by rw [e]; exact List.mem_cons_self)), q.c, fun p hp => let w := q.i p hp; ⟨hin p.1 w.m (ne p.1 (by rw [e]; exact List.mem_cons_of_mem _ (List.mem_map.mpr ⟨p, hp, rfl⟩))), w.c, let ⟨vs, h1, h2, h3⟩ := w.h; ⟨vs, h1, h2, Reps.mono hsub h3⟩⟩⟩
  · exact A.al0 b hb (A.new i b (hL b z))
theorem At.jnk (A : At C ex env σ H n) (i : Nat) : At C ex (env.set i .jnk) σ H n := by
  have oo : ∀ j b, b ∈ ownAt (env.set i .jnk) σ j → b ∈ ownAt env σ j := fun j b hb => by
    by_cases hj : i = j
    · subst hj
      unfold ownAt at hb
      by_cases hl : i < env.length
      · rw [List.getElem?_set_self hl] at hb; cases hb
      · rw [List.getElem?_eq_none (by rw [List.length_set]; omega)] at hb; cases hb
    · have : ownAt (env.set i .jnk) σ j = ownAt env σ j := by unfold ownAt; rw [List.getElem?_set_ne hj]
      rw [this] at hb
      exact hb
  refine A.bind ⟨by rw [List.length_set]; exact A.ev.len, fun j w e => ?_, A.ev.ch, A.ev.al, A.ev.inv⟩ oo
  by_cases hj : i = j
  · subst hj
    have hl : i < env.length := by
      have := (List.getElem?_eq_some_iff.mp e).1
      rw [List.length_set] at this; exact this
    rw [List.getElem?_set_self hl] at e
    cases e
    trivial
  · rw [List.getElem?_set_ne hj] at e
    exact A.ev.sl j w e
theorem At.fz {env' : List Vl} (f : Fz env env') : ∀ {ex : List Addr}, At C ex env σ H n → ∃ ex', At C ex' env' σ H n := by
  induction f with
  | refl => exact fun A => ⟨_, A⟩
  | fz i xs h t ih => exact fun A => let ⟨_, B⟩ := A.fz1 h; ih B
  | jnk i t ih => exact fun A => ih (A.jnk i)
  | fz2 i ps h t ih => exact fun A => let ⟨_, B⟩ := A.fz2 h; ih B
  | fzh i ps h t ih => exact fun A => let ⟨_, B⟩ := A.fzh h; ih B
end

section
variable {te ta : TE} {ge ga : GE} {gn : GN} {t u tb : TS} {gt gu gb : GS} {i j : Nat} {K : PySem.W.Frag}
noncomputable instance sv_next : SV tNext (fun G env n => G.nx env n) := ⟨fun {C G D} O {ex env σ H n} A h => O.nx A h⟩
noncomputable abbrev gSeq (t u : GS) : GS := fun G env n => t { G with nx := fun env1 n1 => ∃ env2, Fz env1 env2 ∧ u G env2 n1 } env n
noncomputable instance sv_seq [T : SV t gt] [U : SV u gu] : SV (tSeq t u) (gSeq gt gu) := ⟨fun {C G D} O {ex env σ H n} A h => by
  refine T.sv (C := C) (G := { G with nx := fun env1 n1 => ∃ env2, Fz env1 env2 ∧ gu G env2 n1 }) (D := { D with nx := u D }) ⟨fun {ex1 env1 σ1 H1 n1} A1 h1 => ?_, O.bk, O.ct, O.rt, O.rtn, O.xc, O.r2⟩ A h
  obtain ⟨env2, f, h2⟩ := h1
  obtain ⟨ex2, A2⟩ := A1.fz f
  exact U.sv O A2 h2⟩
noncomputable abbrev gSet (i : Nat) (g : GE) : GS := fun G env n => g env n fun d n1 => G.nx (env.set i (.d d)) n1
noncomputable abbrev gSetN (i : Nat) (g : GN) : GS := fun G env n => g env n fun ds n1 => G.nx (env.set i (.own ds)) n1
noncomputable instance sv_setN [E : NV te gn] : SV (tAsg te (gName i)) (gSetN i gn) := ⟨fun {C G D} O {ex env σ H n} A h => E.nv A.ev h fun ds n1 a vs H1 h1 s1 ha hl hz r => O.nx (A.own s1 ha hl hz r) h1⟩
noncomputable instance (priority := low) sv_set [E : EV true te ge] : SV (tAsg te (gName i)) (gSet i ge) := ⟨fun {C G D} O {ex env σ H n} A h => E.ev A.ev h fun d n1 v H1 h1 s1 r => O.nx ((A.step s1).put r) h1⟩
noncomputable instance sv_setC {wi : TI} {k : Nat} {idx : List Nat} {g : TG} {tt : TT} [E : NV (tComp wi k idx g tt te) gn] : SV (tSetComp i wi k idx g tt te) (gSetN i gn) := ⟨fun {C G D} O {ex env σ H n} A h =>
  show tComp wi k idx g tt te σ H (fun v H2 => D.nx (σ.set i (some v)) H2) from E.nv A.ev h fun ds n1 a vs H1 h1 s1 ha hl hz r => O.nx (A.own s1 ha hl hz r) h1⟩
noncomputable abbrev gAsg (bd : GG) (g : GE) : GS := fun G env n => g env n fun d n1 => bd d env fun env1 => G.nx env1 n1
noncomputable instance (priority := low) sv_asg {g : TG} {bd : GG} {ks : List Nat} [E : EV true te ge] [B : GV g bd ks] : SV (tAsg te g) (gAsg bd ge) := ⟨fun {C G D} O {ex env σ H n} A h => E.ev A.ev h fun d n1 v H1 h1 s1 r =>
  B.gv (A.step s1).ev r h1 fun env' σ' p E' o _ _ => O.nx ((A.step s1).bind E' o) p⟩
noncomputable abbrev gRet (g : GE) : GS := fun G env n => g env n fun d n1 => G.rt d n1
noncomputable abbrev gRetN (g : GN) : GS := fun G env n => g env n fun ds n1 => G.rtn ds n1
noncomputable abbrev gRetV (i : Nat) : GS := fun G env n => match env[i]? with
  | some (.d x) => G.rt x n
  | some (.own xs) => G.rtn xs n
  | _ => False
noncomputable instance (priority := low) sv_ret [E : EV true te ge] : SV (tRet te) (gRet ge) := ⟨fun {C G D} O {ex env σ H n} A h => E.ev A.ev h fun d n1 v H1 h1 s1 r => O.rt ⟨(A.step s1).kp, s1.2, Rep.mono A.ex0 r⟩ h1⟩
noncomputable instance sv_retN [E : NV te gn] : SV (tRet te) (gRetN gn) := ⟨fun {C G D} O {ex env σ H n} A h => E.nv A.ev h fun ds n1 a vs H1 h1 s1 ha hl hz r =>
  O.rtn ⟨(A.step s1).kp, s1.2, A.free ha, vs, hl, hz, Reps.mono (fun b hb => (List.mem_cons.mp hb).elim (fun e => by rw [e]; exact List.mem_cons_self) fun h => List.mem_cons_of_mem _ (A.ex0 b h)) r⟩ h1⟩
noncomputable instance (priority := high) sv_retV : SV (tRet (tVar i)) (gRetV i) := ⟨fun {C G D} O {ex env σ H n} A h => by
  unfold gRetV at h
  split at h
  · rename_i x e
    obtain ⟨v, ev, r⟩ := A.ev.sl i _ e
    exact ⟨v, join_some ev, O.rt ⟨A.kp, A.ev.inv, Rep.mono A.ex0 r⟩ h⟩
  · rename_i xs e
    obtain ⟨a, vs, ev, h1, h2, h3, h4, h5⟩ := A.ev.sl i _ e
    have ha : a ∈ ownAt env σ i := by unfold ownAt; rw [e, ev]; exact List.mem_singleton.mpr rfl
    obtain ⟨ex', A'⟩ := A.fz1 e
    obtain ⟨v', ev', r'⟩ := A'.ev.sl i _ (List.getElem?_set_self (List.getElem?_eq_some_iff.mp e).1)
    rw [ev] at ev'
    cases ev'
    have := A.new i a ha
    refine ⟨_, join_some ev, O.rtn ⟨A.kp, A.ev.inv, this, vs, h1, h2, Reps.mono (fun b hb => ?_) h3⟩ h⟩
    rcases List.mem_cons.mp hb with rfl | hb
    · exact h4
    · exact A.ex0 b hb
  · exact h.elim⟩
noncomputable abbrev gIfS (c : GT) (t u : GS) : GS := fun G env n => c env n fun b n1 => if b = true then t G env n1 else u G env n1
noncomputable instance sv_if {c : TT} {gc : GT} [X : TV c gc] [T : SV t gt] [U : SV u gu] : SV (tIfS c t u) (gIfS gc gt gu) := ⟨fun {C G D} O {ex env σ H n} A h => X.tv A.ev h fun b n1 H1 h1 s1 => by
  cases b with
  | true => exact T.sv O (A.step s1) h1
  | false => exact U.sv O (A.step s1) h1⟩
noncomputable abbrev gFor (gi : GN) (bd : GG) (gb : GS) : GS := fun G env n => gi env n fun items n1 => ∃ W : Nat → List Vl → Nat → Prop, W 0 env n1 ∧
  (∀ i x env n, items[i]? = some x → W i env n → bd x env fun env1 => gb { G with nx := W (i + 1), ct := W (i + 1), bk := G.nx } env1 n) ∧ ∀ env n, W items.length env n → G.nx env n
noncomputable instance sv_for {wi : TI} {gi : GN} {g : TG} {bd : GG} {ks : List Nat} [I : IV wi gi] [B : GV g bd ks] [T : SV tb gb] : SV (tFor wi g tb) (gFor gi bd gb) := ⟨fun {C G D} O {ex env σ H n} A h => I.iv A.ev h fun items n1 J hd H1 h1 s1 hr hit => by
  obtain ⟨W, w0, wt, wd⟩ := h1
  have A1 := A.step s1
  have dropd : ∀ {ex2 env2 σ2 H2 n2}, At { C with held := hd ++ C.held } ex2 env2 σ2 H2 n2 → At C ex2 env2 σ2 H2 n2 := fun {_ _ _ _ _} B => ⟨B.ev, B.ex0, B.al0, B.sep, B.new, B.kp, fun h hh => B.held h (List.mem_append_right _ hh)⟩
  refine ⟨fun i m σ2 H2 => i ≤ items.length ∧ m = items.length - i ∧ ∃ ex2 env2 n2, At { C with held := hd ++ C.held } ex2 env2 σ2 H2 n2 ∧ W i env2 n2, ⟨_, Nat.zero_le _, rfl, ex, env, n1, ⟨A1.ev, A1.ex0, A1.al0, A1.sep, A1.new, A1.kp, fun h hh => (List.mem_append.mp hh).elim (hr h) (A1.held h)⟩, w0⟩, ?_⟩
  rintro i m σ2 H2 ⟨hi, rfl, ex2, env2, n2, A2, w2⟩
  have IT := hit ex2 H2 A2.ev.al fun h hh => A2.held h (List.mem_append_left _ hh)
  rcases Nat.lt_or_ge i items.length with hlt | hge
  · refine .inr ⟨(IT.2 i items[i] (List.getElem?_eq_getElem hlt)).1, fun σ' H' => ∃ ex3 env3 n3, At { C with held := hd ++ C.held } ex3 env3 σ' H' n3 ∧ W (i + 1) env3 n3, fun σ' H' h => ⟨items.length - (i + 1), by omega, hlt, rfl, h⟩, fun x H3 y => ?_⟩
    obtain ⟨kp3, rx⟩ := (IT.2 i items[i] (List.getElem?_eq_getElem hlt)).2 x H3 y
    have A3 := A2.step (Step.new A2.ev.inv kp3)
    refine B.gv A3.ev rx (wt i _ env2 n2 (List.getElem?_eq_getElem hlt) w2) fun env' σ' p E' o _ _ => ?_
    refine T.sv (C := { C with held := hd ++ C.held }) (G := { G with nx := W (i + 1), ct := W (i + 1), bk := G.nx }) (D := { D with nx := fun σ' H' => ∃ ex3 env3 n3, At { C with held := hd ++ C.held } ex3 env3 σ' H' n3 ∧ W (i + 1) env3 n3, ct := fun σ' H' => ∃ ex3 env3 n3, At { C with held := hd ++ C.held } ex3 env3 σ' H' n3 ∧ W (i + 1) env3 n3, bk := D.nx }) ⟨fun A4 w4 => ⟨_, _, _, A4, w4⟩, fun A4 q4 => O.nx (dropd A4) q4, fun A4 w4 => ⟨_, _, _, A4, w4⟩, fun R q => O.rt ⟨R.kp, R.inv, R.r⟩ q, fun R q => O.rtn ⟨R.kp, R.inv, R.fr, R.r⟩ q, O.xc, fun R q => O.r2 ⟨R.kp, R.inv, R.fr, R.frs, R.o⟩ q⟩ (A3.bind E' o) p
  · have e : i = items.length := by omega
    subst e
    exact .inl ⟨IT.1, O.nx (dropd A2) (wd _ _ w2)⟩⟩
theorem At.at_own {C : Cv} {ex : List Addr} {env : List Vl} {σ : L2.St} {H : Hp} {n : Nat} (A : At C ex env σ H n) {i : Nat} {xs : List PyData} (e : env[i]? = some (.own xs)) : ∃ a vs, (σ[i]?).join = some (.ref a) ∧ H a = some (.lst vs) ∧ vs.length ≤ sizeLine ∧ Reps ex H xs vs := by
  obtain ⟨a, vs, ev, h1, h2, h3, h4, h5⟩ := A.ev.sl i _ e
  exact ⟨a, vs, ev, h1, h2, h3⟩
noncomputable abbrev gApp (i : Nat) (g : GE) : GS := fun G env n => match env[i]? with
  | some (.own xs) => g env n fun d n1 => xs.length < sizeLine ∧ G.nx (env.set i (.own (xs ++ [d]))) n1
  | _ => False
theorem own_step {C : Cv} {ex : List Addr} {env : List Vl} {σ : L2.St} {H H1 : Hp} {n n1 : Nat} {i : Nat} {xs : List PyData} {a : Addr} {vs : List V} (A : At C ex env σ H n) (e : env[i]? = some (.own xs)) (ev : (σ[i]?).join = some (.ref a)) (h1 : H a = some (.lst vs)) (r : Reps ex H xs vs) (s : Step C.S n1 H H1) : H1 a = some (.lst vs) ∧ Reps ex H1 xs vs := by
  have ha : a ∈ ownAt env σ i := by unfold ownAt; rw [e, ev]; exact List.mem_singleton.mpr rfl
  exact ⟨s.1 _ _ h1 (own_sl A.ev ha).2.2, A.ev.reps s r⟩
noncomputable instance sv_app [E : EV true te ge] : SV (tDrop (tBM K "list" rAppend (tVar i) (tCons te tNil))) (gApp i ge) := ⟨fun {C G D} O {ex env σ H n} A h => by
  unfold gApp at h
  split at h
  · rename_i xs e
    obtain ⟨a, vs, ev, h1, h2, h3⟩ := A.at_own e
    refine ⟨_, join_some ev, .inl ⟨rfl, _, SqL.of h1⟩, E.ev A.ev h fun d n1 v H1 hd s1 r => ?_⟩
    obtain ⟨g1, g2⟩ := own_step A e ev h1 h3 s1
    have l := g2.length
    exact ⟨a, vs, v, rfl, rfl, g1, by rw [← l]; exact hd.1, O.nx ((A.step s1).re e ev (Reps.append g2 (.cons r .nil)) (by rw [List.length_append, List.length_singleton, ← l]; exact hd.1)) hd.2⟩
  · exact h.elim⟩
theorem len_erase (vs : List V) (k : Nat) : (vs.eraseIdx k).length ≤ vs.length := by
  rw [List.length_eraseIdx]; split <;> omega
theorem reps_set {ex : List Addr} {H : Hp} {d : PyData} {v : V} (r : Rep ex H d v) : ∀ {ds : List PyData} {vs : List V} (k : Nat), Reps ex H ds vs → Reps ex H (ds.set k d) (vs.set k v)
  | _, _, _, .nil => .nil
  | _, _, 0, .cons _ t => .cons r t
  | _, _, k + 1, .cons q t => .cons q (reps_set r k t)
noncomputable abbrev gSetI (i : Nat) (gx ge : GE) : GS := fun G env n => ge env n fun d n1 => match env[i]? with
  | some (.own xs) => gx env n1 fun k n2 => (match k with
    | .int z => ∃ m, ixN xs.length z = some m ∧ G.nx (env.set i (.own (xs.set m d))) n2
    | _ => False)
  | _ => False
noncomputable instance sv_setI {tx : TE} {gx : GE} [E : EV true te ge] [X : EV true tx gx] : SV (tAsg te (gSub (tVar i) tx rSetL)) (gSetI i gx ge) := ⟨fun {C G D} O {ex env σ H n} A h => by
  refine E.ev A.ev h fun d n1 v H1 hd s1 r => ?_
  have A1 := A.step s1
  split at hd
  · rename_i xs e
    obtain ⟨a, vs, ev, h1, h2, h3⟩ := A1.at_own e
    refine ⟨_, join_some ev, X.ev A1.ev hd fun k n2 kv H2 hk s2 rk => ?_⟩
    obtain ⟨g1, g2⟩ := own_step A1 e ev h1 h3 s2
    have l := g2.length
    cases rk with
    | int z =>
      obtain ⟨m, hm, q⟩ := hk
      exact ⟨a, vs, z, m, rfl, rfl, g1, by rw [← l]; exact hm, O.nx ((A1.step s2).re e ev (reps_set (A1.ev.rep s2 r) m g2) (by rw [List.length_set]; exact h2)) q⟩
    | none => exact hk.elim
    | obj => exact hk.elim
    | dctf => exact hk.elim
    | bool => exact hk.elim
    | str => exact hk.elim
    | tuple => exact hk.elim
    | list => exact hk.elim
  · exact hd.elim⟩
end

theorem ArgsR.len {S : Src} {ex : List Addr} {H : Hp} : ∀ {as : List Vl} {vs : List V}, ArgsR S ex H as vs → as.length = vs.length
  | [], [], _ => rfl
  | _ :: _, _ :: _, h => by rw [List.length_cons, List.length_cons, ArgsR.len h.2]
  | [], _ :: _, h => h.elim
  | _ :: _, [], h => h.elim
theorem ArgsR.get {S : Src} {ex : List Addr} {H : Hp} : ∀ {as : List Vl} {vs : List V} {i : Nat} {w : Vl}, ArgsR S ex H as vs → as[i]? = some w → ∃ v, vs[i]? = some v ∧ SlR S ex H w (some v)
  | [], [], _, _, _, e => by simp at e
  | _ :: _, v :: _, 0, _, h, e => by simp at e; subst e; exact ⟨v, rfl, h.1⟩
  | _ :: _, _ :: _, i + 1, _, h, e => by simpa using ArgsR.get (i := i) h.2 (by simpa using e)
  | [], _ :: _, _, _, h, _ => h.elim
  | _ :: _, [], _, _, h, _ => h.elim
noncomputable def plainA : Vl → Bool
  | .own _ | .dct _ | .own2 _ _ => false
  | _ => true
noncomputable def envOf (N : List Str) (as : List Vl) : List Vl := as ++ List.replicate (N.length - as.length) .jnk
theorem at_start {S : Src} {ex : List Addr} {H : Hp} {as : List Vl} {vs : List V} {n : Nat} {N : List Str} (r : ArgsR S ex H as vs) (hp : as.all plainA = true) (hc : ∀ a ∈ S.ch, a ∈ ex) (al : Alc ex H) (iv : S.inv n H) : At ⟨S, ex, H, []⟩ ex (envOf N as) (start N vs) H n := by
  have l := r.len
  have no : ∀ i, ownAt (envOf N as) (start N vs) i = [] := fun i => by
    unfold ownAt envOf
    cases e : (as ++ List.replicate (N.length - as.length) Vl.jnk)[i]? with
    | none => rfl
    | some w =>
      have : w ∈ as ++ List.replicate (N.length - as.length) Vl.jnk := List.mem_of_getElem? e
      have hw : plainA w = true := by
        rcases List.mem_append.mp this with h | h
        · exact List.all_eq_true.mp hp w h
        · rw [(List.mem_replicate.mp h).2]; rfl
      cases w with
      | own _ => cases hw
      | dct _ => cases hw
      | own2 _ _ => cases hw
      | _ => rfl
  refine ⟨⟨?_, fun i w e => ?_, hc, al, iv⟩, fun a h => h, al, fun i j a h => ?_, fun i a h => ?_, .refl, fun h hh => by cases hh⟩
  · unfold envOf L2.start
    rw [List.length_append, List.length_append, List.length_replicate, List.length_replicate, List.length_map, l]; exact Nat.le_refl _
  · unfold envOf at e
    by_cases hi : i < as.length
    · rw [List.getElem?_append_left hi] at e
      obtain ⟨v, hv, sr⟩ := r.get e
      have : (start N vs)[i]? = some (some v) := by
        unfold L2.start
        rw [List.getElem?_append_left (by rw [List.length_map, ← l]; exact hi), List.getElem?_map, hv]; rfl
      rw [this]
      exact sr
    · rw [List.getElem?_append_right (Nat.le_of_not_lt hi)] at e
      have : w = .jnk := (List.mem_replicate.mp (List.mem_of_getElem? e)).2
      subst this
      trivial
  · rw [no] at h; cases h
  · rw [no] at h; cases h
noncomputable def endsV (P : PyData → Nat → Prop) : VEnds := { nx := fun _ n => P .none n, rt := P, rtn := fun ds n => P (.list ds) n, rt2 := fun xss n => P (.list (xss.map .list)) n }
theorem ret2_rep {C : Cv} {ps : List (Addr × List PyData)} {n : Nat} {a : Addr} {H : Hp} (al : Alc C.ex0 C.H0) (R : Ret2 C ps n a H) : Rep C.ex0 H (.list ((ps.map (·.2)).map .list)) (.ref a) := by
  refine .list R.o.h (al.nm R.fr) (by unfold refs; rw [List.length_map, sizeLine_eq]; have := R.o.z; omega) ?_
  have : ∀ qs : List (Addr × List PyData), (∀ q ∈ qs, q ∈ ps) → Reps C.ex0 H ((qs.map (·.2)).map .list) (refs qs) := by
    intro qs
    induction qs with
    | nil => exact fun _ => .nil
    | cons q qs ih =>
      intro hq
      have hm := hq q List.mem_cons_self
      obtain ⟨vs, g1, g2, g3⟩ := (R.o.i q hm).h
      exact .cons (.list g1 (al.nm (R.frs q hm)) g2 (Reps.mono (fun b hb => List.mem_append_right _ hb) g3)) (ih fun x hx => hq x (List.mem_cons_of_mem _ hx))
  exact this ps fun _ h => h
theorem lift_body {sp : GSp} {gs : GS} {ts : TS} {N : List Str} {vs : List V} {H : Hp} {Q : VK} {E : XK} [T : SV ts gs] (h : liftV sp vs H Q E) (hs : ∀ as n P, sp as n P → as.all plainA = true ∧ gs (endsV P) (envOf N as) n) : ts { nx := fun _ H' => Q .non H', rt := Q } (start N vs) H := by
  obtain ⟨S, ex, as, n, P, r, hc, al, iv, p, q⟩ := h
  obtain ⟨hp, g⟩ := hs as n P p
  refine T.sv (C := ⟨S, ex, H, []⟩) (G := endsV P) ⟨fun {ex' env σ H' n'} A h => ?_, fun _ h => h.elim, fun _ h => h.elim, fun R h => ?_, fun {ds n' a H'} R h => ?_, fun _ _ h => h.elim, fun {ps n' a H'} R h => ?_⟩ (at_start r hp hc al iv) g
  · exact q _ _ _ _ h ⟨A.kp, A.ev.inv⟩ .none
  · exact q _ _ _ _ h ⟨R.kp, R.inv⟩ R.r
  · obtain ⟨ws, h1, h2, h3⟩ := R.r
    exact q _ _ _ _ h ⟨R.kp, R.inv⟩ (.list h1 (al.nm R.fr) h2 (Reps.sub h3))
  · exact q _ _ _ _ h ⟨R.kp, R.inv⟩ (ret2_rep al R)
theorem lift_len {sp : GSp} {k : Nat} (h : ∀ as n P, sp as n P → as.length = k) : ∀ vs H Q E, liftV sp vs H Q E → vs.length = k := fun vs H Q E ⟨S, ex, as, n, P, r, _, _, _, p, _⟩ => by rw [← r.len]; exact h _ _ _ p
end My

namespace My
open PySem PySem.Spec PyProof.Rows L2

section
variable {turn : PyData → Nat → (Option PyData → Nat → Prop) → Prop} {items : List PyData} {n : Nat} {Q : List PyData → Nat → Prop}
theorem cmpW_inv (R : PyData → Prop) (I : Nat → Prop) (h : ∀ x ∈ items, ∀ n K, I n → (∀ y n', R y → I n' → K (some y) n') → turn x n K) (h0 : I n) (q : ∀ ys n', ys.length = items.length → (∀ y ∈ ys, R y) → I n' → Q ys n') : cmpW turn items n Q := by
  induction items generalizing n Q with
  | nil => exact q [] n rfl (fun y hy => by cases hy) h0
  | cons x xs ih =>
    refine h x List.mem_cons_self _ _ h0 fun y n' hy hn => ih (fun z hz => h z (List.mem_cons_of_mem _ hz)) hn fun ys n2 hl hr hn2 => q _ _ (by simp [hl]) (fun z hz => ?_) hn2
    rcases List.mem_cons.mp hz with rfl | hz
    · exact hy
    · exact hr z hz
end
theorem Fz.eq {a b : List Vl} (h : a = b) : Fz a b := h ▸ .refl
noncomputable abbrev lstI (ns : List Int) : PyData := .list (ns.map .int)

theorem args2 {S : Src} {ex : List Addr} {H : Hp} {a b : Vl} {vs : List V} (h : ArgsR S ex H [a, b] vs) : ∃ u v, vs = [u, v] ∧ SlR S ex H a (some u) ∧ SlR S ex H b (some v) := by
  match vs, h with
  | [u, v], h => exact ⟨u, v, rfl, h.1, h.2.1⟩
  | [], h => exact h.elim
  | [_], h => exact h.2.elim
  | _ :: _ :: _ :: _, h => exact h.2.2.elim
theorem args1 {S : Src} {ex : List Addr} {H : Hp} {a : Vl} {vs : List V} (h : ArgsR S ex H [a] vs) : ∃ u, vs = [u] ∧ SlR S ex H a (some u) := by
  match vs, h with
  | [u], h => exact ⟨u, rfl, h.1⟩
  | [], h => exact h.elim
  | _ :: _ :: _, h => exact h.2.elim
noncomputable def gsPick : GSp := fun as n Q => ∃ many : Int, as = [.jar, .d (.int many)] ∧ 0 < many ∧ many < 2 ^ 9000 ∧ ∀ r : Int, 0 ≤ r → r < many → Q (.int r) n
noncomputable instance scal_pick : Scal gsPick := ⟨fun {as n P} h => by
  obtain ⟨many, e, h0, h1, q⟩ := h
  exact ⟨many, e, h0, h1, fun r r0 r1 => ⟨rfl, q r r0 r1⟩⟩⟩
theorem imp_pick : ∀ (vs : List V) (H : Hp) (Q : VK) (E : XK), liftV gsPick vs H Q E → spPickE vs H Q E := fun vs H Q E h => by
  obtain ⟨S, ex, as, n, P, r, hc, al, iv, ⟨many, rfl, h0, h1, q⟩, k⟩ := h
  obtain ⟨u, v, rfl, ⟨p, c, rfl, eu⟩, ⟨w, ew, rw'⟩⟩ := args2 r
  cases eu
  cases ew
  cases rw'
  obtain ⟨e, J, hn⟩ := iv
  exact ⟨p, c, many, e, rfl, J, h0, h1, fun r H' r0 r1 J' kp => k _ _ _ _ (q r r0 r1) ⟨kp, ⟨e, J', hn⟩⟩ (.int r)⟩
noncomputable def gsGain : GSp := fun as n Q => as = [.jar] ∧ ∀ r : Int, -99 ≤ r → r ≤ 99 → Q (.int r) n
noncomputable instance scal_gain : Scal gsGain := ⟨fun {as n P} h => ⟨h.1, fun r r0 r1 => ⟨rfl, h.2 r r0 r1⟩⟩⟩
noncomputable def gsBook : GSp := fun as n Q => ∃ mr mw : Int, as = [.jar, .d (.int mr), .d (.int mw)] ∧ (1 ≤ mr ∧ mr ≤ 12) ∧ (0 ≤ mw ∧ mw ≤ 60) ∧ ∀ (R U : Int) (ws : List Way), BookOk R U ws → (ws.length : Int) ≤ mw → Q (bookPD R U ws) n
theorem ints_map {ys : List PyData} {A : Int → Prop} (h : ∀ y ∈ ys, ∃ i : Int, y = .int i ∧ A i) : ∃ ns : List Int, ys = ns.map .int ∧ ∀ i ∈ ns, A i := by
  induction ys with
  | nil => exact ⟨[], rfl, fun i hi => by cases hi⟩
  | cons y ys ih =>
    obtain ⟨i, rfl, hi⟩ := h y List.mem_cons_self
    obtain ⟨ns, e, hn⟩ := ih fun z hz => h z (List.mem_cons_of_mem _ hz)
    refine ⟨i :: ns, by rw [e]; rfl, fun j hj => ?_⟩
    rcases List.mem_cons.mp hj with rfl | hj
    · exact hi
    · exact hn j hj
theorem at_ok {α : Type} {xs : List α} {i : Int} (h0 : 0 ≤ i) (h1 : i < xs.length) : ∃ d, atI xs i = some d ∧ d ∈ xs := by
  have hk : i.toNat < xs.length := by omega
  refine ⟨xs[i.toNat], ?_, List.getElem_mem hk⟩
  unfold atI
  rw [ixN_of h0 (by omega)]
  exact List.getElem?_eq_getElem hk
theorem at_getD {α : Type} {xs : List α} {i : Int} {d : α} (h0 : 0 ≤ i) (h : xs[i.toNat]? = some d) : atI xs i = some d := by
  have := (List.getElem?_eq_some_iff.mp h).1
  unfold atI
  rw [ixN_of h0 (by omega)]
  exact h
noncomputable def gsAlike (m : Nat) : GSp := fun as n Q => ∃ d e, as = [.d d, .d e] ∧ lvD e ≤ m ∧ (noDict d = true ∧ noDict e = true) ∧ Q (.bool (alikeD d e)) n
noncomputable instance scal_alike {m : Nat} : Scal (gsAlike m) := ⟨fun {as n P} h => by
  obtain ⟨d, e, h1, h2, h3, q⟩ := h
  exact ⟨d, e, h1, h2, h3, rfl, q⟩⟩
theorem imp_alike {m : Nat} : ∀ (vs : List V) (H : Hp) (Q : VK) (E : XK), liftV (gsAlike m) vs H Q E → spAlike (m + 1) vs H Q E := fun vs H Q E h => by
  obtain ⟨S, ex, as, n, P, r, hc, al, iv, ⟨d, e, rfl, hl, hn, q⟩, k⟩ := h
  obtain ⟨u, v, rfl, ⟨u', eu, ru⟩, ⟨v', ev, rv⟩⟩ := args2 r
  cases eu
  cases ev
  exact ⟨ex, d, e, _, _, rfl, ru, rv, hl, hn, fun H' kp => k _ _ _ _ q (Step.new iv kp) (.bool _)⟩
end My

namespace My
open PySem PySem.Spec PyProof.Rows L2

class SQ (te : TE) (g : outParam GN) : Prop where
  sq : ∀ {S : Src} {ex : List Addr} {env : List Vl} {σ : L2.St} {H : Hp} {n : Nat} {Q : VK} {P : List PyData → Nat → Prop}, Ev S ex env σ H n → g env n P → (∀ ds n' a vs H', P ds n' → Step S n' H H' → a ∉ S.ch → H' a = some (.lst vs) → vs.length ≤ sizeLine → Reps ex H' ds vs → Q (.ref a) H') → te σ H Q
noncomputable abbrev gSq (i : Nat) : GN := fun env n Q => match env[i]? with
  | some (.own xs) => Q xs n
  | some (.d (.list xs)) => Q xs n
  | _ => False
noncomputable instance (priority := high) sq_var {i : Nat} : SQ (tVar i) (gSq i) := ⟨fun {S ex env σ H n Q P} E h k => by
  unfold gSq at h
  split at h
  · rename_i xs e
    obtain ⟨a, vs, ev, h1, h2, h3, h4, h5⟩ := E.sl i _ e
    exact ⟨_, join_some ev, k _ _ _ _ _ h (.refl E.inv) h5 h1 h2 h3⟩
  · rename_i xs e
    obtain ⟨v, ev, r⟩ := E.sl i _ e
    cases r with
    | list e1 m z rs => exact ⟨_, join_some ev, k _ _ _ _ _ h (.refl E.inv) (fun z => m (E.ch _ z)) e1 z rs⟩
  · exact h.elim⟩
noncomputable instance sq_nv {te : TE} {g : GN} [A : NV te g] : SQ te g := ⟨fun {S ex env σ H n Q P} E h k => A.nv E h fun ds n1 a vs H1 h1 s1 ha hl hz r => k _ _ _ _ _ h1 s1 (fun z => S.dom E.inv a z ha) hl hz (Reps.sub r)⟩
noncomputable abbrev gCatS (ga gb : GN) : GN := fun env n Q => ga env n fun xs n1 => gb env n1 fun ys n2 => xs.length + ys.length ≤ sizeLine ∧ Q (xs ++ ys) n2
noncomputable instance (priority := high) nv_catS {ta tb : TE} {ga gb : GN} [A : SQ ta ga] [B : SQ tb gb] : NV (tOp rCat ta tb) (gCatS ga gb) := ⟨fun {S ex env σ H n Q P} E h k =>
  A.sq E h fun xs n1 a vs H1 h1 s1 na ha hz r1 => B.sq (E.step s1) h1 fun ys n2 b us H2 h2 s2 nb hb hz2 r2 => by
    have r1' := (E.step s1).reps s2 r1
    have l1 := r1'.length
    have l2 := r2.length
    refine ⟨a, b, vs, us, rfl, rfl, s2.1 _ _ ha na, hb, by rw [← l1, ← l2]; exact h2.1, fun p hp => ?_⟩
    obtain ⟨c1, c2, c3⟩ := nv_close E (s1.trans s2) hp (Reps.append r1' r2)
    exact k _ _ _ _ _ h2.2 c1 c2 upd_same (by rw [List.length_append, ← l1, ← l2]; exact h2.1) c3⟩
noncomputable abbrev gSlS (g : GN) (gl gh : List Vl → Nat → (Option Int → Nat → Prop) → Prop) : GN := fun env n Q => g env n fun xs n1 => gl env n1 fun lo n2 => gh env n2 fun hi n3 => Q (cutD xs lo hi) n3
noncomputable instance (priority := high) nv_slS {K : PySem.W.Frag} {te : TE} {g : GN} {tl th : TO} {gl gh : List Vl → Nat → (Option Int → Nat → Prop) → Prop} [A : SQ te g] [B : OPV tl gl] [C : OPV th gh] : NV (tSl (rSlL K) te tl th) (gSlS g gl gh) := ⟨fun {S ex env σ H n Q P} E h k =>
  A.sq E h fun xs n1 a vs H1 h1 s1 na ha hz r1 => B.op (E.step s1) h1 fun lo n2 H2 h2 s2 => C.op (E.step (s1.trans s2)) h2 fun hi n3 H3 h3 s3 => by
    have r3 := (E.step s1).reps (s2.trans s3) r1
    refine ⟨a, vs, rfl, SqL.of ((s2.trans s3).1 _ _ ha na), fun p hp => ?_⟩
    obtain ⟨c1, c2, c3⟩ := nv_close E ((s1.trans s2).trans s3) hp (reps_cut r3 lo hi)
    exact k _ _ _ _ _ h3 c1 c2 upd_same (Nat.le_trans (cutV_length _ _ _) hz) c3⟩
section
variable {X : Cx}
end
section
variable {K : PySem.W.Frag} {H : Hp} {ex : List Addr}
end
end My

namespace My
open PySem PySem.Spec PyProof.Rows L2

noncomputable def fl (u : Nat) (f : Nat → Int) : List PyData := (List.range u).map fun i => .int (f i)
end My

namespace My
open PySem PySem.Spec PyProof.Rows L2

end My

namespace My
open PySem PySem.Spec PyProof.Rows L2

theorem at_zero {α : Type} {x : α} {xs : List α} : atI (x :: xs) 0 = some x := by
  refine at_getD (Int.le_refl 0) rfl
end My

namespace My
open PySem PySem.Spec PyProof.Rows L2

theorem ite_t {c : Bool} {A B : Prop} (h : c = true) (a : A) : if c = true then A else B := by rw [if_pos h]; exact a
theorem ite_f {c : Bool} {A B : Prop} (h : c = false) (b : B) : if c = true then A else B := by rw [if_neg (by rw [h]; exact Bool.false_ne_true)]; exact b
theorem fEq_i {i j : Int} {Q : PyData → Prop} (h : Q (.bool (decide (i = j)))) : fEq false (.int i) (.int j) Q := h
theorem fNe_i {i j : Int} {Q : PyData → Prop} (h : Q (.bool (!decide (i = j)))) : fEq true (.int i) (.int j) Q := h
end My

namespace My
open PySem PySem.Spec PyProof.Rows L2

noncomputable def endsL : VEnds := { nx := fun _ _ => False, rt := fun d _ => d = .bool true, rtn := fun _ _ => False }
theorem law_start {K : PySem.W.Frag} {N : List Str} {vs : List V} {H : Hp} {Q : VK} {E E' : XK} {rest : TS} {gs : GS} [T : SV rest gs] (hN : 2 ≤ N.length) (h : spLaw K vs H Q E) (hs : gs endsL (.jnk :: .jar :: List.replicate (N.length - 2) .jnk) 0) :
    tSeq (tAsg (tCall (spJar K) [] E' (tCons (tVar 0) tNil)) (gName 1)) rest { nx := fun _ H' => Q .non H', rt := Q } (L2.start N vs) H := by
  obtain ⟨a, ns, rfl, hS, hlen, q⟩ := h
  have est : L2.start N [V.ref a] = some (V.ref a) :: none :: List.replicate (N.length - 2) none := by
    unfold L2.start
    rw [show N.length - [V.ref a].length = (N.length - 2) + 1 by simp; omega]
    rfl
  rw [est]
  refine ⟨_, rfl, a, ns, rfl, hS, hlen, fun p c H1 k1 _ _ J => ?_⟩
  have al : Alc [p, c] H1 := fun b hb z => J.fresh z hb
  have no : ∀ i, ownAt (.jnk :: .jar :: List.replicate (N.length - 2) .jnk) (some (V.ref a) :: some (V.ref p) :: List.replicate (N.length - 2) none) i = [] := fun i => by
    unfold ownAt
    cases e : ((.jnk :: .jar :: List.replicate (N.length - 2) .jnk : List Vl))[i]? with
    | none => rfl
    | some w =>
      have hm := List.mem_of_getElem? e
      have : w = .jnk ∨ w = .jar := by
        rcases List.mem_cons.mp hm with h | h
        · exact .inl h
        · rcases List.mem_cons.mp h with h | h
          · exact .inr h
          · exact .inl (List.mem_replicate.mp h).2
      rcases this with rfl | rfl <;> rfl
  refine T.sv (C := ⟨Src.jar p c, [p, c], H1, []⟩) (G := endsL) ⟨fun _ h => h.elim, fun _ h => h.elim, fun _ h => h.elim, fun {d n v H'} R h => ?_, fun _ h => h.elim, fun _ _ h => h.elim, fun _ h => h.elim⟩ (ex := [p, c]) (env := .jnk :: .jar :: List.replicate (N.length - 2) .jnk) (σ := some (V.ref a) :: some (V.ref p) :: List.replicate (N.length - 2) none) ⟨⟨?_, fun i w e => ?_, fun b h => h, al, J.n⟩, fun b h => h, al, fun i j b h => ?_, fun i b h => ?_, .refl, fun x hx => by cases hx⟩ hs
  · cases h
    have r := R.r
    cases r
    exact q _
  · simp
  · match i with
    | 0 => cases e; trivial
    | 1 => cases e; exact ⟨p, c, rfl, rfl⟩
    | i + 2 =>
      have : w = .jnk := (List.mem_replicate.mp (List.mem_of_getElem? (by simpa using e))).2
      subst this
      trivial
  · rw [no] at h; cases h
  · rw [no] at h; cases h
theorem alike_self {m n : Nat} {d : PyData} {Q : PyData → Nat → Prop} (h : noDict d = true) (hl : lvD d ≤ m) (q : Q (.bool true) n) : gsAlike m [.d d, .d d] n Q := ⟨d, d, rfl, hl, ⟨h, h⟩, by rw [alikeD_refl h]; exact q⟩
end My

namespace L2
open PySem PySem.Spec PyProof.Rows

section
variable {X : Cx} {x : Str} {e : Expr} {es : List Expr} {p pos : Pos} {t : TA} {k : Nat} {ps : List Str} {sp : Sp} {i : Int}
end
end L2
namespace My
open PySem PySem.Spec PyProof.Rows L2
end My

namespace My
open PySem PySem.Spec PyProof.Rows L2

end My

namespace My
open PySem PySem.Spec PyProof.Rows L2

theorem vseq {t u : GS} {G : VEnds} {env : List Vl} {n : Nat} (Mid : List Vl → Nat → Prop) (h1 : ∀ N : List Vl → Nat → Prop, (∀ e k, Mid e k → N e k) → t { G with nx := N } env n) (h2 : ∀ e k, Mid e k → ∃ e2, Fz e e2 ∧ u G e2 k) : gSeq t u G env n := h1 _ h2
noncomputable def ws2 (a b : Int) : List Way := [⟨0, 0, [a - 3, 1]⟩, ⟨0, 0, [b - 4, -1]⟩]
theorem fNe_s {s : Str} {Q : PyData → Prop} (h : Q (.bool false)) : fEq true (.str s) (.str s) Q := by
  unfold fEq
  simp only [eqS, decide_true]
  exact h
end My

namespace My
open PySem PySem.Spec PyProof.Rows L2

noncomputable abbrev GSx := List Vl → Nat → (PyData → Nat → Prop) → (Addr → Nat → Prop) → Prop
theorem At.jnkS {C : Cv} {ex : List Addr} {env : List Vl} {σ : L2.St} {H : Hp} {n : Nat} (A : At C ex env σ H n) (i : Nat) (o : Option V) : At C ex (env.set i .jnk) (σ.set i o) H n := by
  have oo : ∀ j b, b ∈ ownAt (env.set i .jnk) (σ.set i o) j → b ∈ ownAt env σ j := fun j b hb => by
    by_cases hj : i = j
    · subst hj
      unfold ownAt at hb
      by_cases hl : i < env.length
      · rw [List.getElem?_set_self hl] at hb; cases hb
      · rw [show (env.set i .jnk)[i]? = none from List.getElem?_eq_none (by rw [List.length_set]; omega)] at hb; cases hb
    · rw [own_other hj] at hb
      exact hb
  refine A.bind ⟨by rw [List.length_set, List.length_set]; exact A.ev.len, fun j w e => ?_, A.ev.ch, A.ev.al, A.ev.inv⟩ oo
  by_cases hj : i = j
  · subst hj
    have hl : i < env.length := by
      have := (List.getElem?_eq_some_iff.mp e).1
      rw [List.length_set] at this; exact this
    rw [List.getElem?_set_self hl] at e
    cases e
    trivial
  · rw [List.getElem?_set_ne hj] at e ⊢
    exact A.ev.sl j w e
theorem reps_bools {ex : List Addr} {H : Hp} : ∀ bs : List Bool, Reps ex H (bs.map .bool) (bs.map V.bl)
  | [] => .nil
  | b :: r => .cons (.bool b) (reps_bools r)
end My

namespace My
open PySem PySem.Spec PyProof.Rows L2

end My

namespace My
open PySem PySem.Spec PyProof.Rows L2

theorem neSelf {x : PyData} {Q : PyData → Prop} (h : x.canLay0 = true) (hd : x.depth ≤ 50) (q : Q (.bool false)) : fEqD true x x Q := ⟨⟨h, h, Nat.le_trans (Nat.min_le_left _ _) hd⟩, by rw [PySem.SeqAt.eqv_refl _ h]; exact q⟩
end My

namespace My
open PySem PySem.Spec PyProof.Rows L2

end My

namespace My
open PySem PySem.Spec PyProof.Rows L2

end My

namespace My
open PySem PySem.Spec PyProof.Rows L2

theorem lay_str {s : Str} (h : PyData.strOk s = true) : (PyData.str s).canLay0 = true := by rw [PyData.canLay0]; exact h
end My

namespace My
open PySem PySem.Spec PyProof.Rows L2

end My

namespace My
open PySem PySem.Spec PyProof.Rows L2

noncomputable abbrev MT : Int := 10 ^ 100 - 1
end My

namespace My
open PySem PySem.Spec PyProof.Rows L2

end My

namespace My
open PySem PySem.Spec PyProof.Rows L2

theorem pes_ix {X : Cx} {a b : Expr} {ta tb : TE} {pos : Pos} {r : R2} (hr : IxR X r) (ha : PEs X a ta) (hb : PE X b tb) (hs : PlainIx b) : PEs X (.Subscript a b pos) (tOp r ta tb) := ⟨pe_ix hr ha.out hb hs⟩
theorem fNe_b {b c : Bool} {Q : PyData → Prop} (h : b = c) (q : Q (.bool false)) : fEq true (.bool b) (.bool c) Q := by
  subst h
  unfold fEq
  simp only [eqS, decide_true]
  exact q
end My

namespace My
open PySem PySem.Spec PyProof.Rows L2

mutual
noncomputable def nd : PyData → Nat
  | .tuple ds => 1 + nds ds
  | _ => 0
noncomputable def nds : List PyData → Nat
  | [] => 0
  | d :: r => nd d + nds r
end
mutual
noncomputable def smI : PyData → Bool
  | .int i => decide (i ≤ MT)
  | .tuple ds => smIs ds
  | .list ds => smIs ds
  | _ => true
noncomputable def smIs : List PyData → Bool
  | [] => true
  | d :: r => smI d && smIs r
end
end My

namespace HT
open PySem PySem.Spec PyProof.Rows
section
variable {prog : Program} {w : World} {A : Around} {E : Value → Shared → Prop} {s : Shared}
end
end HT
namespace L2
open PySem PySem.Spec PyProof.Rows
section
variable {X : Cx} {e st : Expr} {te : TE} {ts : TO} {pos p2 : Pos}
end
end L2
namespace My
open PySem PySem.Spec PyProof.Rows L2
section
variable {b : Bool} {te : TE} {g : GE}
end
end My

namespace My
open PySem PySem.Spec PyProof.Rows L2

noncomputable def gdB (d : PyData) : Bool := d.canLay0 && (d.intsShort 101 && (d.showable && smI d))
theorem at_one {α : Type} {a b : α} {xs : List α} : atI (a :: b :: xs) 1 = some b := at_getD (by decide) rfl
theorem fEq_ss {s t : Str} {Q : PyData → Prop} (h : Q (.bool (decide (s = t)))) : fEq false (.str s) (.str t) Q := h
end My

namespace My
open PySem PySem.Spec PyProof.Rows L2

theorem dp_str (s : Str) : (PyData.str s).depth = 0 := by rw [PyData.depth]
section
variable {d : PyData} {k n g : Int} (hg : gdB d = true) (gk : gdB (.int k) = true) (wk : (PyData.int k).weight ≤ 10) (gn : gdB (.int n) = true) (wn : (PyData.int n).weight ≤ 10) (gg : gdB (.int g) = true) (wg : (PyData.int g).weight ≤ 333)
include hg gk wk gn wn gg wg
end
end My

namespace L2
open PySem PySem.Spec PyProof.Rows
section
variable {X : Cx}
end
end L2
namespace My
open PySem PySem.Spec PyProof.Rows L2
end My

namespace My
open PySem PySem.Spec PyProof.Rows L2

end My

namespace My
open PySem PySem.Spec PyProof.Rows L2

end My

namespace My
open PySem PySem.Spec PyProof.Rows L2

section
variable {S : Src} {ex L : List Addr} {H H1 H2 : Hp} {w : Vl} {o : Option V}
end
end My

namespace My
open PySem PySem.Spec PyProof.Rows L2

section
variable {C : Cv} {ex : List Addr} {env : List Vl} {σ : L2.St} {H H' : Hp} {n m : Nat}
end
end My

namespace My
open PySem PySem.Spec PyProof.Rows L2

section
variable {C : Cv} {ex : List Addr} {env : List Vl} {σ : L2.St} {H H' : Hp} {n m : Nat}
end
end My

namespace My
open PySem PySem.Spec PyProof.Rows L2

end My

namespace My
open PySem PySem.Spec PyProof.Rows L2

section
variable {R a x y : Nat} {f g : Nat → Nat → Bool}
end
noncomputable def esOf (ws : List Way) (ks : List Int) : List (Nat × Nat) := ks.map fun k => ((wayAt ws k).a.toNat, (wayAt ws k).b.toNat)
end My

namespace My
open PySem PySem.Spec PyProof.Rows L2

section
variable {X : Cx} {pins : List (Addr × Obj)} {σ : L2.St} {H : Hp} {s : Shared} {a : Addr} {kvs : List (Key × V)} {k : Key} {u : Value} {A : Around} {E : Value → Shared → Prop}
end
section
variable {X : Cx} {o e f : Expr} {apos cpos p pos : Pos} {td ty tx : TE}
end
end My

namespace My
open PySem PySem.Spec PyProof.Rows L2

section
variable {C : Cv} {ex : List Addr} {env : List Vl} {σ : L2.St} {H H' : Hp} {n m : Nat}
end
end My

namespace My
open PySem PySem.Spec PyProof.Rows L2

end My

namespace My
open PySem PySem.Spec PyProof.Rows L2

end My

namespace My
open PySem PySem.Spec PyProof.Rows L2

end My

namespace My
open PySem PySem.Spec PyProof.Rows L2

end My

namespace My
open PySem PySem.Spec PyProof.Rows L2

end My

namespace My
open PySem PySem.Spec PyProof.Rows L2

theorem lay_is : ∀ ns : List Int, PyData.canLayAll0 (ns.map PyData.int) = true
  | [] => rfl
  | n :: ns => by rw [List.map_cons, PyData.canLayAll0, lay_is ns]; rfl
theorem dep_is : ∀ ns : List Int, PyData.depthAll (ns.map PyData.int) = 0
  | [] => rfl
  | n :: ns => by rw [List.map_cons, PyData.depthAll, dep_is ns]; rfl
theorem neL {ns : List Int} {Q : PyData → Prop} (q : Q (.bool false)) : fEqD true (lstI ns) (lstI ns) Q := neSelf (by unfold lstI; rw [PyData.canLay0]; exact lay_is ns) (by unfold lstI; rw [PyData.depth, dep_is]; decide) q
end My

namespace My
open PySem PySem.Spec PyProof.Rows L2

end My

namespace My
open PySem PySem.Spec PyProof.Rows L2

noncomputable abbrev GSn2 := List Vl → Nat → (List (List PyData) → Nat → Prop) → Prop
section
variable {b : Bool} {i : Nat} {sp : GSn2} {E' : XK} {t : TA} {gt : GA}
end
end My

namespace My
open PySem PySem.Spec PyProof.Rows L2

end My

namespace My
open PySem PySem.Spec PyProof.Rows L2

theorem cut_sub {xs : List PyData} {lo hi : Option Int} : (∀ y ∈ cutD xs lo hi, y ∈ xs) ∧ (cutD xs lo hi).length ≤ xs.length := by
  unfold cutD
  refine ⟨fun y hy => List.mem_of_mem_drop (List.mem_of_mem_take hy), ?_⟩
  rw [List.length_take, List.length_drop]
  omega
end My

namespace My
open PySem PySem.Spec PyProof.Rows L2

end My

namespace L2
open PySem PySem.Spec PyProof.Rows My
section
variable {X : Cx}
end
end L2
namespace My
open PySem PySem.Spec PyProof.Rows L2
end My

namespace My
open PySem PySem.Spec PyProof.Rows L2

end My

namespace My
open PySem PySem.Spec PyProof.Rows L2
end My

namespace L2
open PySem PySem.Spec PyProof.Rows My
section
variable {X : Cx} {x y : Str} {e : Expr} {es : List Expr} {p p' pos apos : Pos} {t : TA} {k : Nat} {ps : List Str} {sp : Sp} {i : Int}
end
end L2

namespace My
open PySem PySem.Spec PyProof.Rows L2

noncomputable abbrev GSxn := List Vl → Nat → (List PyData → Nat → Prop) → (Addr → Nat → Prop) → Prop
section
variable {i : Nat} {sp : GSxn} {t : TA} {gt : GA} {tv : TE} {gv : GE} {d : Int}
end
end My

namespace My
open PySem PySem.Spec PyProof.Rows L2
end My

namespace L2
open PySem PySem.Spec PyProof.Rows My
section
variable {X : Cx} {tg iter kx vx : Expr} {ifs : List Expr} {scope sc : Scope} {N N' : List Str} {k : Nat} {idx : List Nat} {wi : TI} {g : TG} {tt : TT} {tk tv : TE} {pos : Pos}
end
end L2

namespace L2
open PySem PySem.Spec PyProof.Rows My
section
variable {X : Cx}
end
end L2

namespace My
open PySem PySem.Spec PyProof.Rows L2
section
variable {C : Cv} {ex : List Addr} {env : List Vl} {σ : L2.St} {H H' : Hp} {n m : Nat}
end
end My

namespace My
open PySem PySem.Spec PyProof.Rows L2
end My

namespace My
open PySem PySem.Spec PyProof.Rows L2
end My

namespace My
open PySem PySem.Spec PyProof.Rows L2
end My

namespace My
open PySem PySem.Spec PyProof.Rows L2
end My

namespace My
open PySem PySem.Spec PyProof.Rows L2
end My

namespace L2
open PySem PySem.Spec PyProof.Rows
section
variable {X : Cx} {pos p2 : Pos}
end
end L2

namespace My
open PySem PySem.Spec PyProof.Rows L2
end My

namespace My
open PySem PySem.Spec PyProof.Rows L2
end My

namespace L2
open PySem PySem.Spec PyProof.Rows PySem.SeqAt
section
variable {X : Cx}
end
end L2
namespace My
open PySem PySem.Spec PyProof.Rows L2
noncomputable abbrev gTupO (i : Nat) : GE := fun env n Q => match env[i]? with
  | some (.own xs) => Q (.tuple xs) n
  | some (.d (.list xs)) => Q (.tuple xs) n
  | some (.d (.tuple xs)) => Q (.tuple xs) n
  | _ => False
noncomputable instance (priority := high) ev_tupO {K : PySem.W.Frag} {i : Nat} : EV true (tCB (fun xs H Q => ∃ p ys, xs = [.ref p] ∧ ((SqL K H p ys ∧ ∀ l, H l = none → Q (.ref l) (upd H l (.tup ys))) ∨ (SqT K H p ys ∧ Q (.ref p) H))) (tCons (tVar i) tNil)) (gTupO i) := ⟨fun {S ex env σ H n Q P} E h k => by
  unfold gTupO at h
  split at h
  · rename_i xs e
    obtain ⟨a, vs, ev, h1, h2, h3, h4, h5⟩ := E.sl i _ e
    exact ⟨_, join_some ev, _, _, rfl, .inl ⟨SqL.of h1, fun l hl => k _ _ _ _ h (Step.new E.inv (Kp.new hl _)) (.tuple upd_same (E.al.nm hl) h2 (h3.keep (Kp.new hl _)))⟩⟩
  · rename_i xs e
    obtain ⟨v, ev, r⟩ := E.sl i _ e
    cases r with
    | list h1 _ h2 h3 => exact ⟨_, join_some ev, _, _, rfl, .inl ⟨SqL.of h1, fun l hl => k _ _ _ _ h (Step.new E.inv (Kp.new hl _)) (.tuple upd_same (E.al.nm hl) h2 (h3.keep (Kp.new hl _)))⟩⟩
  · rename_i xs e
    obtain ⟨v, ev, r⟩ := E.sl i _ e
    cases r with
    | tuple h1 hn h2 h3 => exact ⟨_, join_some ev, _, _, rfl, .inr ⟨SqT.of h1, k _ _ _ _ h (.refl E.inv) (.tuple h1 hn h2 h3)⟩⟩
  · exact h.elim⟩
end My

namespace My
open PySem PySem.Spec PyProof.Rows L2
end My
namespace My
open PySem PySem.Spec PyProof.Rows L2
end My

namespace My
open PySem PySem.Spec PyProof.Rows L2
end My

namespace My
open PySem PySem.Spec PyProof.Rows L2
end My

namespace My
open PySem PySem.Spec PyProof.Rows L2
end My

namespace My
open PySem PySem.Spec PyProof.Rows L2
noncomputable def fIntB : G1 := fun ds Q => match ds with
  | [.int i] => Q (.int i)
  | [.bool b] => Q (.int (if b = true then 1 else 0))
  | _ => False
noncomputable instance cs_intB : CS (fun xs H Q => (∃ i, xs = [V.int i] ∧ Q (V.int i) H) ∨ ∃ k, xs = [V.bl k] ∧ Q (V.int (if k = true then 1 else 0)) H) fIntB := ⟨fun {H xs ds Q P} r h k => by
  unfold fIntB at h
  split at h
  · cases r with
    | cons r1 t =>
      cases t
      cases r1
      exact .inl ⟨_, rfl, k _ _ h fun ex => .int _⟩
  · cases r with
    | cons r1 t =>
      cases t
      cases r1
      exact .inr ⟨_, rfl, k _ _ h fun ex => .int _⟩
  · exact h.elim⟩
end My
namespace My
open PySem PySem.Spec PyProof.Rows L2
end My

namespace My
open PySem PySem.Spec PyProof.Rows L2
end My

namespace My
open PySem PySem.Spec PyProof.Rows L2
end My

namespace My
open PySem PySem.Spec PyProof.Rows L2
end My

namespace My
open PySem PySem.Spec PyProof.Rows L2
end My

namespace My
open PySem PySem.Spec PyProof.Rows L2
end My

namespace L2
open PySem PySem.Spec PyProof.Rows
section
variable {X : Cx}
end
end L2
namespace My
open PySem PySem.Spec PyProof.Rows L2
end My

namespace My
open PySem PySem.Spec PyProof.Rows L2
section
variable {n : Nat} {key : Nat → Int}
structure PA (n : Nat) (p : Array Nat) : Prop where
  size : p.size = n
  perm : p.toList.Perm (List.range n)
noncomputable def kv (key : Nat → Int) (p : Array Nat) (i : Nat) : Int := key (p.getD i 0)
end
end My

namespace L2
open PySem PySem.Spec PyProof.Rows PySem.SeqAt
open AutoSeq1 (wpAny_loadPart')
section
variable {prog : Program} {w : World} {A : Around} {E : Value → Shared → Prop} {s : Shared}
end
end L2

namespace L2
open PySem PySem.Spec PyProof.Rows PySem.SeqAt
section
variable {prog : Program} {w : World} {A : Around} {E : Value → Shared → Prop} {s : Shared}
end
section
variable {X : Cx}
end
end L2
namespace L2
open PySem PySem.Spec PyProof.Rows PySem.SeqAt
section
variable {X : Cx}
end
end L2
namespace My
open PySem PySem.Spec PyProof.Rows L2
end My

namespace My
open PySem PySem.Spec PyProof.Rows L2
noncomputable abbrev rt (ws : List Way) (ks : List Int) (i j : Int) : Prop := Rt (esOf ws ks) (wayAt ws i).b.toNat (wayAt ws j).a.toNat
end My

namespace L2
open PySem PySem.Spec PyProof.Rows PySem.SeqAt
noncomputable def GStr (mg : Str → Option Value) (x y : Str) : Prop := ∃ t, mg x = some (.str y t)
theorem pe_gstr {X : Cx} {x y : Str} {pos : Pos} (h : GStr X.mg x y) (hg : Gl X x) (hd : (x == ("__debug__" : Str)) = false := by decide) : PE X (.Name x pos) (tC (.str y)) := by
  obtain ⟨t, e⟩ := h
  exact pe_glob hg e ⟨t, rfl⟩ hd
theorem gstr_mk {K : PySem.W.Frag} {h : Heap} {mg : Str → Option Value} {x y : Str} {t : Tok} (X : K.In h) (G : h.Ns mainGlobals mg) (a : PySem.W.nsIn K mainGlobals x = some (some (.str y t))) : GStr mg x y := ⟨t, PySem.W.mg_of X G a⟩
section
variable {X : Cx}
theorem vals_strs : ∀ {xs : List Str} {us : List Value}, Vals (xs.map V.str) us → ∃ l : List (Str × Tok), us = strValues l ∧ l.map (·.1) = xs := by
  intro xs
  induction xs with
  | nil => intro us r; cases r; exact ⟨[], rfl, rfl⟩
  | cons x xs ih =>
    intro us r
    cases r with
    | cons r t =>
      obtain ⟨tk, rfl⟩ := r
      obtain ⟨l, rfl, rfl⟩ := ih t
      exact ⟨(x, tk) :: l, rfl, rfl⟩
theorem vals_of_strs : ∀ l : List (Str × Tok), Vals ((l.map (·.1)).map V.str) (strValues l)
  | [] => .nil
  | (x, t) :: l => .cons ⟨t, rfl⟩ (vals_of_strs l)
noncomputable def rJoin (K : PySem.W.Frag) : V → List V → Hp → VK → Prop := fun x vs H Q => ∃ (p : Addr) (sep : Str) (ts : List Str), x = .str sep ∧ vs = [.ref p] ∧ H p = some (.lst (ts.map V.str)) ∧ JoinOk sep ts = true ∧ Q (.str (Txt.join sep ts)) H
theorem mt_join : MtM X "str.join" (rJoin X.K) := by
  intro pins s σ H x vs v us Q I rx rv h
  obtain ⟨p, sep, ts, rfl, rfl, hp, hok, q⟩ := h
  obtain ⟨t, rfl⟩ := rx
  obtain ⟨u, rfl, ru⟩ := rv.one
  cases ru
  obtain ⟨z, its, n, r, hl, e⟩ := I.lstM hp
  obtain ⟨l, rfl, hlt⟩ := vals_strs r
  refine SC.join (l := l) ⟨_, e, rfl, n, rfl⟩ hlt hok fun t' k => ?_
  exact ⟨.str _, H, I.tok k, ⟨t', rfl⟩, q⟩
noncomputable def rSplit : V → List V → Hp → VK → Prop := fun x vs H Q => ∃ (t y : Str), x = .str t ∧ vs = [.str y] ∧ (y.length == 0) = false ∧ t.length ≤ sizeLine ∧ (Txt.split t y).length ≤ sizeLine ∧ ∀ l, H l = none → Q (.ref l) (upd H l (.lst ((Txt.split t y).map V.str)))
theorem mt_split : MtM X "str.split" rSplit := by
  intro pins s σ H x vs v us Q I rx rv h
  obtain ⟨t, y, rfl, rfl, hy, hz, hz2, q⟩ := h
  obtain ⟨tk, rfl⟩ := rx
  obtain ⟨u, rfl, ru⟩ := rv.one
  obtain ⟨tu, rfl⟩ := ru
  have fin : ∀ (l : List (Str × Tok)) (k : Nat), l.map (·.1) = Txt.split t y → EP X pins σ Q (.ref s.heap.objs.size) { s with toks := k, heap := s.heap.push { cls := .type "list", data := .seq (strValues l).toArray } } := fun l k hl => by
    refine ⟨.ref s.heap.objs.size, _, I.laid (t' := k) (o := .lst ((Txt.split t y).map V.str)) (fun b o e => Heap.get?_push_of_some _ e) (Nat.le_refl _) ⟨by rw [List.length_map]; exact hz2, strValues l, 0, by rw [← hl]; exact vals_of_strs l, Heap.get?_push_size _ rfl⟩, rfl, q _ (I.hok.fresh (Nat.le_refl _))⟩
  cases h1 : (decide (t.length < y.length) || decide (Builtin.Str.strKind t < Builtin.Str.strKind y))
  · cases hf : (Builtin.Str.occurrences t y 0 t.length (t.length + 1)).isEmpty
    · have es : Txt.split t y = Builtin.Str.partsBetween t (Builtin.Str.occurrences t y 0 t.length (t.length + 1)) y.length := (if_neg (ne_true_of_eq_false h1)).trans (if_neg (ne_true_of_eq_false hf))
      refine call_meets F.slot_str_split (typeIs_str _ _ _) F.entry_str_split (F.args_str_split_2 _ _) (meets_str_split_sep t y tk tu h1 hy hf hz (by rw [← es]; exact hz2)) ?_
      have := fin (numbered s.toks (Builtin.Str.partsBetween t (Builtin.Str.occurrences t y 0 t.length (t.length + 1)) y.length)) (s.toks + (Builtin.Str.partsBetween t (Builtin.Str.occurrences t y 0 t.length (t.length + 1)) y.length).length) (by rw [numbered_texts, es])
      rw [← strsFrom_eq] at this
      exact this
    · exact call_meets F.slot_str_split (typeIs_str _ _ _) F.entry_str_split (F.args_str_split_2 _ _) (meets_str_split_not_found t y tk tu h1 hy hf) (fin [(t, tk)] s.toks ((if_neg (ne_true_of_eq_false h1)).trans (if_pos hf)).symm)
  · exact call_meets F.slot_str_split (typeIs_str _ _ _) F.entry_str_split (F.args_str_split_2 _ _) (meets_str_split_cannot_occur t y tk tu h1) (fin [(t, tk)] s.toks (if_pos h1).symm)
noncomputable def rStarts : V → List V → Hp → VK → Prop := fun x vs H Q => ∃ (t y : Str), x = .str t ∧ vs = [.str y] ∧ Q (.bl (Txt.startswith t y)) H
theorem mt_starts : MtM X "str.startswith" rStarts := by
  intro pins s σ H x vs v us Q I rx rv h
  obtain ⟨t, y, rfl, rfl, q⟩ := h
  obtain ⟨tk, rfl⟩ := rx
  obtain ⟨u, rfl, ru⟩ := rv.one
  obtain ⟨tu, rfl⟩ := ru
  exact SC.startswith ⟨.bl _, H, I, rfl, q⟩
noncomputable def Its (z : Str) : It := ⟨fun i _ => i < z.cps.size, fun i H x H' => H' = H ∧ ∃ c, z.cps[i]? = some c ∧ x = .str ⟨#[c]⟩, fun i _ => z.cps.size ≤ i⟩
theorem turn_str {P : Program} {w : World} {K : PySem.W.Frag} {tg : Expr} (z : Str) (t : Tok) (it : Addr) : Turn P w K tg (Its z) [it] it (fun i h => h.IsStrIter it "str_ascii_iterator" z t i) where
  mem := by simp
  obj := fun i h st b hb => by
    have e : b = it := by simpa using hb
    subst e
    obtain ⟨o, e, c, d⟩ := st
    exact ⟨o, e, fun v z => by rw [d] at z; cases z⟩
  keep := fun i h h' st k => let ⟨o, ho, r⟩ := st; ⟨o, k it (by simp) o ho, r⟩
  item := by
    intro X hP hw hK hc i pins s σ H E I hf st hg
    subst hP hw hK
    have hg : i < z.cps.size := hg
    obtain ⟨f0, f1, f2, f3, f4, f5⟩ := hf it (by simp)
    refine wpAny_pyNext_ascii_item st (c := z.cps[i]) (by simp [hg]) fun h' st' sb => ?_
    have I1 : Inv X pins σ H { s with heap := h', toks := s.toks + 1 } := I.turned (t' := s.toks + 1) (fun b o hb e => (sb.2 b hb).trans e) f0 f1 f3 f4 f5
    obtain ⟨o, e, c, d⟩ := id st'
    exact ⟨_, rfl, go_of (s := { s with heap := h', toks := s.toks + 1 }) e c d (by decide) ⟨.str ⟨#[z.cps[i]]⟩, H, I1, ⟨_, rfl⟩, ⟨rfl, _, by simp [hg], rfl⟩, st', fun b hb => (hf b hb).1⟩⟩
  done := by
    intro X hP hw hK hc i pins s σ H E I hf st hg
    subst hP hw hK
    have hg : z.cps.size ≤ i := hg
    obtain ⟨f0, f1, f2, f3, f4, f5⟩ := hf it (by simp)
    exact wpAny_pyNext_ascii_end (I.ok.hd hc) st (by simp [hg]) fun h' eb => ⟨rfl, I.turned (t' := s.toks) (fun b o hb e => eb b o hb e) f0 f1 f3 f4 f5⟩
  self := fun _ _ _ _ _ st h => wpAny_pyIter_striter_ascii st h
noncomputable def iStr (ts : TE) : TI := fun σ H R => ts σ H fun x H1 => ∃ z : Str, x = .str z ∧ z.cps.all (· < 128) = true ∧ R (Its z) H1
theorem pi_str {tg l : Expr} {ts : TE} (hl : PE X l ts) : PI X tg l (iStr ts) := by
  intro pins s σ H R I h
  refine thn (hl pins s σ H _ I h) fun v s1 ⟨x, H1, I1, r1, q1⟩ => ?_
  obtain ⟨z, rfl, ha, q⟩ := q1
  obtain ⟨t, rfl⟩ := r1
  refine wpAny_pyIter_ascii ha ?_
  refine ⟨s1.heap.objs.size, [s1.heap.objs.size], _, _, H1, rfl, I1.kept (t' := s1.toks) fun b o e => Heap.get?_push_of_some _ e, turn_str z t _, ⟨_, Heap.get?_push_size _ rfl, rfl, rfl⟩, fun b hb => ?_, q⟩
  have e : b = s1.heap.objs.size := by simpa using hb
  subst e
  exact I1.fpOk (Nat.le_refl _) (I1.hok.fresh (Nat.le_refl _))
theorem call_intS : CallR X (.type "int") (fun xs H Q => ∃ (z : Str) (n : Int), xs = [.str z] ∧ intText? z = some n ∧ z.length ≤ 640 ∧ Q (.int n) H) := by
  intro pins s σ H xs us Q I r h
  obtain ⟨z, n, rfl, hn, hl, q⟩ := h
  obtain ⟨u, rfl, ru⟩ := vals1 r
  obtain ⟨t, rfl⟩ := ru
  exact PySem.W.KIN.call_text hn hl ⟨.int n, H, I.tok _, ⟨_, rfl⟩, q⟩
noncomputable def rSlS : V → Option Int → Option Int → Hp → VK → Prop := fun x lo hi H Q => ∃ (z : Str) (i : Int), x = .str z ∧ lo = some i ∧ hi = none ∧ z.length ≤ sizeLine ∧ Q (.str (Txt.slice z (some i) none)) H
theorem sl_str : SlR X rSlS := by
  intro pins s σ H x v vl vu lo hi sl Q I rx hs pl pu h
  obtain ⟨z, i, rfl, rfl, rfl, hz, q⟩ := h
  obtain ⟨t, rfl⟩ := rx
  obtain ⟨ti, rfl⟩ : ∃ ti, vl = .int i ti := by
    cases pl
    exact ⟨_, rfl⟩
  have eu : vu = .none := by
    cases pu
    rfl
  subst eu
  refine ⟨"str", _, F.slot_str_getitem.lookup, typeIs_str _ _ _, wpAny_getItem_str_slice (l := some (i, ti)) (u := none) (st := none) hs rfl ?_⟩
  exact post_val_or_str ⟨Nat.le_trans (Txt.slice_le z _ _) hz, fun t' k => ⟨.str _, H, I.tok k, ⟨t', rfl⟩, q⟩⟩
end
section
variable {X : Cx} {v : Expr} {te : TE} {a : Str} {ja : Nat} {pa pf pos : Pos}
end
end L2
namespace My
open PySem PySem.Spec PyProof.Rows L2
theorem reps_strs {ex : List Addr} {H : Hp} : ∀ ts : List Str, Reps ex H (ts.map .str) (ts.map V.str)
  | [] => .nil
  | t :: ts => .cons (.str t) (reps_strs ts)
theorem Reps.strs_inv {ex : List Addr} {H : Hp} : ∀ {ts : List Str} {vs : List V}, Reps ex H (ts.map PyData.str) vs → vs = ts.map V.str
  | [], _, .nil => rfl
  | t :: r, _, .cons (.str _) q => by rw [Reps.strs_inv q]; rfl
noncomputable abbrev gJoin (gx gl : GE) : GE := fun env n Q => gx env n fun d n1 => match d with
  | .str sep => gl env n1 fun l n2 => ∃ ts : List Str, l = .list (ts.map .str) ∧ JoinOk sep ts = true ∧ Q (.str (Txt.join sep ts)) n2
  | _ => False
noncomputable instance ev_join {b : Bool} {K : PySem.W.Frag} {tx tl : TE} {gx gl : GE} [A : EV false tx gx] [B : EV false tl gl] : EV b (tBM K "str" (rJoin K) tx (tCons tl tNil)) (gJoin gx gl) := ⟨fun {S ex env σ H n Q P} E h k =>
  A.ev E h fun d n1 v H1 h1 s1 r1 => by
    cases r1 with
    | str sep =>
      refine ⟨rfl, B.ev (E.step s1) h1 fun l n2 w H2 h2 s2 r2 => ?_⟩
      obtain ⟨ts, rfl, hok, q⟩ := h2
      cases r2 with
      | list e nm z rs =>
        rw [Reps.strs_inv rs] at e
        exact ⟨_, sep, ts, rfl, rfl, e, hok, k _ _ _ _ q (s1.trans s2) (.str _)⟩
    | int => exact h1.elim
    | none => exact h1.elim
    | obj => exact h1.elim
    | dctf => exact h1.elim
    | bool => exact h1.elim
    | list => exact h1.elim
    | tuple => exact h1.elim⟩
noncomputable abbrev gSplit (gx gy : GE) : GN := fun env n Q => gx env n fun d n1 => match d with
  | .str t => gy env n1 fun l n2 => ∃ y : Str, l = .str y ∧ (y.length == 0) = false ∧ t.length ≤ sizeLine ∧ (Txt.split t y).length ≤ sizeLine ∧ Q ((Txt.split t y).map .str) n2
  | _ => False
noncomputable instance nv_split {K : PySem.W.Frag} {tx ty : TE} {gx gy : GE} [A : EV false tx gx] [B : EV false ty gy] : NV (tBM K "str" rSplit tx (tCons ty tNil)) (gSplit gx gy) := ⟨fun {S ex env σ H n Q P} E h k =>
  A.ev E h fun d n1 v H1 h1 s1 r1 => by
    cases r1 with
    | str t =>
      refine ⟨rfl, B.ev (E.step s1) h1 fun l n2 w H2 h2 s2 r2 => ?_⟩
      obtain ⟨y, rfl, h3, h4, h5, q⟩ := h2
      cases r2
      refine ⟨t, y, rfl, rfl, h3, h4, h5, fun p hp => ?_⟩
      obtain ⟨c1, c2, c3⟩ := nv_close E (s1.trans s2) hp (reps_strs (ex := ex) (H := H2) (Txt.split t y))
      exact k _ _ _ _ _ q c1 c2 upd_same (by rw [List.length_map]; exact h5) c3
    | int => exact h1.elim
    | none => exact h1.elim
    | obj => exact h1.elim
    | dctf => exact h1.elim
    | bool => exact h1.elim
    | list => exact h1.elim
    | tuple => exact h1.elim⟩
noncomputable abbrev gStarts (gx gy : GE) : GE := fun env n Q => gx env n fun d n1 => match d with
  | .str t => gy env n1 fun l n2 => ∃ y : Str, l = .str y ∧ Q (.bool (Txt.startswith t y)) n2
  | _ => False
noncomputable instance ev_starts {b : Bool} {K : PySem.W.Frag} {tx ty : TE} {gx gy : GE} [A : EV false tx gx] [B : EV false ty gy] : EV b (tBM K "str" rStarts tx (tCons ty tNil)) (gStarts gx gy) := ⟨fun {S ex env σ H n Q P} E h k =>
  A.ev E h fun d n1 v H1 h1 s1 r1 => by
    cases r1 with
    | str t =>
      refine ⟨rfl, B.ev (E.step s1) h1 fun l n2 w H2 h2 s2 r2 => ?_⟩
      obtain ⟨y, rfl, q⟩ := h2
      cases r2
      exact ⟨t, y, rfl, rfl, k _ _ _ _ q (s1.trans s2) (.bool _)⟩
    | int => exact h1.elim
    | none => exact h1.elim
    | obj => exact h1.elim
    | dctf => exact h1.elim
    | bool => exact h1.elim
    | list => exact h1.elim
    | tuple => exact h1.elim⟩
noncomputable def fIxS : G2 := fun x y Q => match x, y with
  | .str z, .int i => z.length ≤ sizeLine ∧ ∃ c, atI z.cps.toList i = some c ∧ Q (.str ⟨#[c]⟩)
  | _, _ => False
noncomputable instance os_ixS : OS rIxS fIxS := ⟨fun {H x y dx dy Q P} r1 r2 h k => by
  unfold fIxS at h
  split at h
  · cases r1
    cases r2
    obtain ⟨hz, c, hc, q⟩ := h
    exact ⟨_, _, c, rfl, rfl, hz, hc, k _ _ q fun _ => .str _⟩
  · exact h.elim⟩
noncomputable def fInS : G2 := fun x y Q => match x, y with
  | .str i, .str j => Q (.bool (!(Builtin.Str.occurrences j i 0 j.length 1).isEmpty))
  | _, _ => False
noncomputable instance os_inS : OS (fun x y H Q => ∃ i j, x = .str i ∧ y = .str j ∧ Q (.bl (!(Builtin.Str.occurrences j i 0 j.length 1).isEmpty)) H) fInS := ⟨fun {H x y dx dy Q P} r1 r2 h k => by
  unfold fInS at h
  split at h
  · cases r1
    cases r2
    exact ⟨_, _, rfl, rfl, k _ _ h fun _ => .bool _⟩
  · exact h.elim⟩
noncomputable def fLenS : G1 := fun ds Q => match ds with
  | [.str z] => z.length ≤ sizeLine ∧ Q (.int z.length)
  | _ => False
noncomputable instance cs_lenS : CS (fun xs H Q => ∃ z, xs = [.str z] ∧ z.length ≤ sizeLine ∧ Q (.int z.length) H) fLenS := ⟨fun {H xs ds Q P} r h k => by
  unfold fLenS at h
  split at h
  · cases r with
    | cons r1 t =>
      cases t
      cases r1
      exact ⟨_, rfl, h.1, k _ _ h.2 fun _ => .int _⟩
  · exact h.elim⟩
noncomputable def fStrI : G1 := fun ds Q => match ds with
  | [.int i] => i.natAbs.log2 < 1920 ∧ Q (.str (Str.ofString (toString i)))
  | _ => False
noncomputable instance cs_strI : CS (fun xs H Q => ∃ i : Int, xs = [.int i] ∧ i.natAbs.log2 < 1920 ∧ Q (.str (toString i)) H) fStrI := ⟨fun {H xs ds Q P} r h k => by
  unfold fStrI at h
  split at h
  · cases r with
    | cons r1 t =>
      cases t
      cases r1
      exact ⟨_, rfl, h.1, k _ _ h.2 fun _ => .str _⟩
  · exact h.elim⟩
noncomputable def fIntS : G1 := fun ds Q => match ds with
  | [.str z] => z.length ≤ 640 ∧ ∃ n, intText? z = some n ∧ Q (.int n)
  | _ => False
noncomputable instance cs_intS : CS (fun xs H Q => ∃ (z : Str) (n : Int), xs = [.str z] ∧ intText? z = some n ∧ z.length ≤ 640 ∧ Q (.int n) H) fIntS := ⟨fun {H xs ds Q P} r h k => by
  unfold fIntS at h
  split at h
  · cases r with
    | cons r1 t =>
      cases t
      cases r1
      obtain ⟨hz, m, hm, q⟩ := h
      exact ⟨_, m, rfl, hm, hz, k _ _ q fun _ => .int _⟩
  · exact h.elim⟩
noncomputable abbrev gSlTx (g : GE) (gl gh : List Vl → Nat → (Option Int → Nat → Prop) → Prop) : GE := fun env n Q => g env n fun d n1 => gl env n1 fun lo n2 => gh env n2 fun hi n3 => match d with
  | .str z => ∃ i, lo = some i ∧ hi = none ∧ z.length ≤ sizeLine ∧ Q (.str (Txt.slice z (some i) none)) n3
  | _ => False
noncomputable instance ev_slTx {b : Bool} {te : TE} {g : GE} {tl th : TO} {gl gh : List Vl → Nat → (Option Int → Nat → Prop) → Prop} [A : EV false te g] [B : OPV tl gl] [C : OPV th gh] : EV b (tSl rSlS te tl th) (gSlTx g gl gh) := ⟨fun {S ex env σ H n Q P} E h k =>
  A.ev E h fun d n1 v H1 h1 s1 r1 => B.op (E.step s1) h1 fun lo n2 H2 h2 s2 => C.op (E.step (s1.trans s2)) h2 fun hi n3 H3 h3 s3 => by
    cases r1 with
    | str z =>
      obtain ⟨i, rfl, rfl, hz, q⟩ := h3
      exact ⟨z, i, rfl, rfl, rfl, hz, k _ _ _ _ q ((s1.trans s2).trans s3) (.str _)⟩
    | int => exact h3.elim
    | none => exact h3.elim
    | obj => exact h3.elim
    | dctf => exact h3.elim
    | bool => exact h3.elim
    | list => exact h3.elim
    | tuple => exact h3.elim⟩
noncomputable def signsD (z : Str) : List PyData := z.cps.toList.map fun c => .str ⟨#[c]⟩
noncomputable abbrev gIterS (g : GE) : GN := fun env n Q => g env n fun d n1 => match d with
  | .str z => z.cps.all (· < 128) = true ∧ Q (signsD z) n1
  | _ => False
noncomputable instance iv_str {te : TE} {g : GE} [A : EV false te g] : IV (iStr te) (gIterS g) := ⟨fun {S ex env σ H n R P} E h k => A.ev E h fun d n1 v H1 h1 s1 r1 => by
  cases r1 with
  | str z =>
    refine ⟨z, rfl, h1.1, k _ _ _ [] _ h1.2 s1 (fun h hh => by cases hh) fun ex' H2 al _ => ⟨?_, fun i d e => ?_⟩⟩
    · show z.cps.size ≤ _
      unfold signsD
      rw [List.length_map, Array.length_toList]
      exact Nat.le_refl _
    · unfold signsD at e
      rw [List.getElem?_map] at e
      obtain ⟨c, hc, rfl⟩ := Option.map_eq_some_iff.mp e
      have hi := (List.getElem?_eq_some_iff.mp hc).1
      rw [Array.length_toList] at hi
      refine ⟨hi, fun x H' y => ?_⟩
      obtain ⟨rfl, c', hc', rfl⟩ := y
      rw [Array.getElem?_toList] at hc
      rw [hc] at hc'
      cases hc'
      exact ⟨Kp.refl, .str _⟩
  | int => exact h1.elim
  | none => exact h1.elim
  | obj => exact h1.elim
  | dctf => exact h1.elim
  | bool => exact h1.elim
  | list => exact h1.elim
  | tuple => exact h1.elim⟩
end My

namespace My
open PySem PySem.Spec PyProof.Rows L2
noncomputable def numS (i : Int) : Str := Str.ofString (toString i)
noncomputable def figS (z : Str) : Str := if Txt.startswith z "-" then Txt.slice z (some 1) none else z
noncomputable def numOk (i : Int) : Bool := (numS i).cps.all (fun c => decide (c = 45) || (decide (48 ≤ c) && decide (c < 58))) && (figS (numS i)).cps.all (fun c => decide (c < 128) && !(Builtin.Str.occurrences "0123456789" ⟨#[c]⟩ 0 10 1).isEmpty) && decide (1 ≤ (figS (numS i)).length) && decide ((numS i).length ≤ 3) && decide ((figS (numS i)).length ≤ 3) && decide (intText? (numS i) = some i) && (decide (numS i = "0") || !decide ((figS (numS i)).cps.toList.headD 48 = 48)) && decide (i.natAbs.log2 < 1920)
theorem num_all : (List.range 199).all (fun (k : Nat) => numOk ((k : Int) - 99)) = true := by decide +kernel
theorem num_ok {i : Int} (h0 : -99 ≤ i) (h1 : i ≤ 99) : numOk i = true := by
  have := List.all_eq_true.mp num_all (i + 99).toNat (List.mem_range.mpr (by omega))
  rw [show (((i + 99).toNat : Nat) : Int) - 99 = i by omega] at this
  exact this
structure NumOk (i : Int) : Prop where
  signs : ∀ c ∈ (numS i).cps.toList, c = 45 ∨ (48 ≤ c ∧ c < 58)
  figs : ∀ c ∈ (figS (numS i)).cps.toList, c < 128 ∧ (!(Builtin.Str.occurrences "0123456789" ⟨#[c]⟩ 0 10 1).isEmpty) = true
  f1 : 1 ≤ (figS (numS i)).length
  l3 : (numS i).length ≤ 3
  f3 : (figS (numS i)).length ≤ 3
  int : intText? (numS i) = some i
  head : numS i = "0" ∨ (figS (numS i)).cps.toList.headD 48 ≠ 48
  log : i.natAbs.log2 < 1920
theorem num_of {i : Int} (h0 : -99 ≤ i) (h1 : i ≤ 99) : NumOk i := by
  have h := num_ok h0 h1
  unfold numOk at h
  simp only [Bool.and_eq_true, Bool.or_eq_true, decide_eq_true_eq, Bool.not_eq_true', decide_eq_false_iff_not, Array.all_eq_true_iff_forall_mem] at h
  obtain ⟨⟨⟨⟨⟨⟨⟨a1, a2⟩, a3⟩, a4⟩, a5⟩, a6⟩, a7⟩, a8⟩ := h
  exact ⟨fun c hc => a1 c (Array.mem_toList_iff.mp hc), fun c hc => ⟨(a2 c (Array.mem_toList_iff.mp hc)).1, by rw [(a2 c (Array.mem_toList_iff.mp hc)).2]; rfl⟩, a3, a4, a5, a6, a7, a8⟩
noncomputable def wayW (w : Way) : List Str := [numS w.a, "->", numS w.b, ":"] ++ w.g.map numS
noncomputable def rowS (w : Way) : Str := Txt.join " " (wayW w)
noncomputable def bookRows (R U : Int) (ws : List Way) : List Str := ["rooms " ++ numS R, "purses " ++ numS U] ++ ws.map rowS
end My

namespace L2
open PySem PySem.Spec PyProof.Rows PySem.SeqAt
section
open AutoSeq1 (wpAny_loadPart')
theorem enumS_new (l : Addr) (items : Array Value) (n : Nat) (t : Tok) (dc : Option Addr) (sl : Array (Option Value)) :
    Meets (Builtin.«enumerate.__new__» ⟨[.type "enumerate", .ref l], [("start", .int 2 t)]⟩) (fun _ R s => s.heap.get? l = some { cls := .type "list", dict := dc, data := .seq items n, slots := sl } ∧
      R (.ok (.ret (.ref (s.heap.push { cls := .type "list_iterator", data := .fields #[.ref l, .int 0 0] }).objs.size)))
        { s with heap := (s.heap.push { cls := .type "list_iterator", data := .fields #[.ref l, .int 0 0] }).push { cls := .type "enumerate", data := .fields #[.none, .bool false, .ref s.heap.objs.size, rawInt 2, .none, .none] } }) :=
  .of_wp fun prog w A R s h => by
    obtain ⟨hp, g, d, tk, os⟩ := s; obtain ⟨hl, h⟩ := h
    have hsub := sub_enumerate
    have hL : Heap.IsList (Shared.heap ⟨hp, g, d, tk, os⟩) l items := ⟨_, hl, rfl, n, rfl⟩
    wp_walk using wpAny_loadPart' hl
    refine wpAny_stack_any fun st => wpAny_pure ?_
    split
    · rename_i c _ _ _ _ _
      cases (c == Value.type "enumerate")
      · wp_walk using wpAny_loadPart' hl, wpAny_pyIter_list hL
        exact ⟨_, rfl, h⟩
      · wp_walk using wpAny_loadPart' hl, wpAny_pyIter_list hL
        exact ⟨_, rfl, h⟩
    · wp_walk using wpAny_loadPart' hl, wpAny_pyIter_list hL
      exact ⟨_, rfl, h⟩
end
section
variable {prog : Program} {w : World} {A : Around} {E : Value → Shared → Prop} {s : Shared}
theorem callTypeK_meets {T newId initId : String} {Bn Bi : Builtin} {args : List Value} {kw : List (Str × Value)} {S : PySem.Spec} {Q Q₁ : Value → Shared → Prop} (ft : TypeCalled T newId initId)
    (hct : checkTypeCall T ⟨args, kw⟩ = pure ()) (hcn : checkBuiltinCall newId ⟨.type T :: args, kw⟩ = pure ())
    (entryN : entryFor table newId = some Bn) (entryI : entryFor table initId = some Bi) (g : Meets (Bn ⟨.type T :: args, kw⟩) S)
    (h : S A.in1 (wants Q₁ E) s)
    (hnext : ∀ obj s₁, Q₁ obj s₁ → s₁.TypeIs obj T ∧ argsOk initId ⟨obj :: args, kw⟩ ∧ ∃ Si, Meets (Bi ⟨obj :: args, kw⟩) Si ∧ Si A.in1 (wants (fun r s₂ => r = .none ∧ Q obj s₂) E) s₁) :
    wpAny (model prog w) A (call (.type T) args kw) Q E s := by
  obtain ⟨c, tl, hmro⟩ := ft.mro
  have hmade := ft.made
  have hsub := ft.sub
  refine wpAny_call (codeAny_of_tree ?_)
  show wpAny _ _ (callAny (.type T) _) _ _ _
  refine wpAny_pure ⟨Code.quiet_builtin _ (by decide +kernel), codeAny_builtin F.entry_type_call ?_⟩
  rw [Around.under_plain (weight_type_call_type T args kw) (units_type_call_type T args kw)]
  have h1 := ft.notType
  have h2 := ft.canCreate
  repeat (any_goals (first | assumption | wp_step))
  refine codeAny_mono (codeAny_call_builtin ft.plain entryN (wpAny_of_eq hcn (g prog w A.in1 _ s h))) fun r s₁ hr => ?_
  cases r with
  | error e => exact hr
  | ok fl =>
    cases fl with
    | ret obj =>
      obtain ⟨hT, hok, Si, gi, hsi⟩ := hnext _ _ hr
      have hli := ft.init.lookup
      have hbi := ft.init.bind obj
      repeat (any_goals (first | assumption | wp_step))
      refine codeAny_mono (codeAny_call_builtin ft.init.plain entryI (ft.init.check _ _ _ _ _ _ _ _ hT hok (gi prog w A.in1 _ s₁ hsi))) fun r₂ s₂ hr₂ => ?_
      cases r₂ with
      | error e => exact hr₂
      | ok fl₂ =>
        cases fl₂ with
        | ret r =>
          obtain ⟨rfl, hq⟩ := hr₂
          repeat (any_goals (first | assumption | wp_step))
        | _ => exact hr₂.elim
    | _ => exact hr.elim
theorem objectK_init {T newId : String} {self : Value} {rest : List Value} {kw : List (Str × Value)} (hl : typeLookup (.type T) "__init__" = pure (some (.builtin "object.__init__")))
    (hm : Bind.madeBy (.type T) = pure (some newId)) (hne : (some newId != some "object.__new__") = true) :
    Meets (Builtin.«object.__init__» ⟨self :: rest, kw⟩) (fun _ R s => s.TypeIs self T ∧ R (.ok (.ret .none)) s) := by
  refine Meets.of_wp fun prog w A R s hs => ?_
  obtain ⟨hT, hq⟩ := hs
  cases rest with
  | nil =>
    cases kw with
    | nil => exact wpAny_pure ⟨_, rfl, hq⟩
    | cons a kw =>
      repeat (any_goals (first | assumption | wp_step))
      exact ⟨_, rfl, hq⟩
  | cons a rest =>
    repeat (any_goals (first | assumption | wp_step))
    exact ⟨_, rfl, hq⟩
theorem typeCall_enumS (a v : Value) : checkTypeCall "enumerate" ⟨[a], [("start", v)]⟩ = pure () := by kernel_rfl
theorem newCall_enumS (a v : Value) : checkBuiltinCall "enumerate.__new__" ⟨[.type "enumerate", a], [("start", v)]⟩ = pure () := by kernel_rfl
theorem args_init_enumS (a b v : Value) : argsOk "object.__init__" ⟨[a, b], [("start", v)]⟩ := by
  unfold argsOk; rw [signature?_of (id := "object.__init__") (n := ['_', '_', 't', 'i', 'n', 'i', '_', '_']) (o := ['t', 'c', 'e', 'j', 'b', 'o']) (by kernel_rfl) F.owner_object]; kernel_rfl
theorem call_enumS {l : Addr} {vs : Array Value} {t : Tok} {Q : Value → Shared → Prop} (x : SqAt false s.heap l vs)
    (q : ∀ h', IsEnum h' (s.heap.objs.size + 1) s.heap.objs.size 2 .none → ItAt false h' s.heap.objs.size l 0 → h'.objs.size = s.heap.objs.size + 2 →
      (∀ c o, s.heap.get? c = some o → h'.get? c = some o) → Q (.ref (s.heap.objs.size + 1)) { s with heap := h' }) :
    wpAny (model prog w) A (call (.type "enumerate") [.ref l] [("start", .int 2 t)]) Q E s := by
  obtain ⟨⟨c, dc, dt, sl⟩, hl, hc, n, hd⟩ := x
  replace hc : c = .type "list" := hc
  replace hd : dt = .seq vs n := hd
  subst hc hd
  refine callTypeK_meets F.called_enumerate (typeCall_enumS _ _) (newCall_enumS _ _) F.entry_enumerate_new F.entry_object_init (enumS_new l vs n t dc sl) (Q₁ := fun obj s₁ => s₁.TypeIs obj "enumerate" ∧ Q obj s₁) ⟨hl, ?_⟩ fun obj _ hq =>
    ⟨hq.1, args_init_enumS obj _ _, _, objectK_init F.called_enumerate.init.lookup F.called_enumerate.made (by decide), hq.1, rfl, hq.2⟩
  have hz : (s.heap.push { cls := .type "list_iterator", data := .fields #[.ref l, .int 0 0] }).objs.size = s.heap.objs.size + 1 := Heap.size_push ..
  show _ ∧ _
  rw [hz]
  have he : IsEnum ((s.heap.push { cls := .type "list_iterator", data := .fields #[.ref l, .int 0 0] }).push { cls := .type "enumerate", data := .fields #[.none, .bool false, .ref s.heap.objs.size, rawInt 2, .none, .none] }) (s.heap.objs.size + 1) s.heap.objs.size 2 .none := by
    have z := Heap.get?_push_size (s.heap.push { cls := .type "list_iterator", data := .fields #[.ref l, .int 0 0] }) (o := { cls := .type "enumerate", data := .fields #[.none, .bool false, .ref s.heap.objs.size, rawInt 2, .none, .none] }) rfl
    rw [hz] at z; exact z
  exact ⟨⟨_, he, rfl⟩, q _ he ⟨_, Heap.get?_push_of_some _ (Heap.get?_push_size _ rfl), rfl, rfl⟩ (by rw [Heap.size_push, hz]) fun c o y => Heap.get?_push_of_some _ (Heap.get?_push_of_some _ y)⟩
theorem callWith_typeK {M : Model} {A : Around} {E : Value → Shared → Prop} {s : Shared} {pos : Pos} {T : String} {first : List Value} {args : List (Bool × Sem Value)} {kws : List (Option Str × Sem Value)} {Q : Value → Shared → Prop}
    (hplain : args.any (·.1) = false) (hk : kws.any (·.1.isNone) = false)
    (h : wpAny M A (evalArgs (.type T) true args kws) (fun a s₁ => wpAny M A (call (.type T) (first ++ a.pos) a.kw) Q E s₁) E s) :
    wpAny M A (callWith pos (.type T) first args kws) Q E s := by
  unfold callWith
  refine wpAny_bind (wpAny_holding (wpAny_mono h (fun a s₁ h₁ => wpAny_bind (wpAny_standAt ?_)) fun _ _ x => x))
  simp only [hplain, hk, Bool.or_false]
  refine wpAny_bind (wpAny_pure ?_)
  exact wpAny_bind (wpAny_mono h₁ (fun r s₂ hr => wpAny_bind (wpAny_holding (wpAny_point (wpAny_pure hr)))) fun _ _ x => x)
end
theorem draws_shift {prog : Program} {w : World} {A : Around} {it : Addr} {fp : List Addr} {n : Nat} {P : Nat → Value → Prop} {St : Nat → Heap → Prop} (D : Draws prog w A it fp n P St) (k : Nat) :
    Draws prog w A it fp (n + k) (fun i v => P (i - k) v) (fun i h => k ≤ i ∧ St (i - k) h) where
  live := fun i h st => D.live _ h st.2
  frame := fun i h h' st hk => ⟨st.1, D.frame _ h h' st.2 hk⟩
  item := fun i s Q E hi st hQ => D.item (i - k) s Q E (by have := st.1; omega) st.2 fun x h' tk hp hs hb => hQ x h' tk hp ⟨by have := st.1; omega, by rw [show i + 1 - k = i - k + 1 by have := st.1; omega]; exact hs⟩ hb
  done := fun s Q E st hE => D.done s Q E (by have := st.2; rwa [Nat.add_sub_cancel] at this) hE
noncomputable def IteS (K : PySem.W.Frag) (a : Addr) : It :=
  ⟨fun i H => ∃ xs x, SqK false K H a xs ∧ xs[i]? = some x, fun i H v H' => ∃ p y, H p = none ∧ H' = upd H p (.tup [.int ((i + 2 : Nat) : Int), y]) ∧ v = .ref p ∧ ∀ xs, SqK false K H a xs → xs[i]? = some y, fun i H => ∃ xs, SqK false K H a xs ∧ xs.length = i⟩
theorem turn_enumS {P : Program} {w : World} {K : PySem.W.Frag} {es : List Expr} {kk : Nat} {tp : Pos} (a e j : Addr) (hej : e ≠ j) : Turn P w K (.Tuple es kk tp) (IteS K a) [e, j] e (fun i h => (∃ old, IsEnum h e j ((i + 2 : Nat) : Int) old) ∧ ItAt false h j a i) where
  mem := by simp
  obj := fun i h st c hc => by
    obtain ⟨⟨old, he⟩, hj⟩ := st
    rcases List.mem_cons.mp hc with rfl | hc
    · exact ⟨_, he, fun v z => by have z' : Data.fields _ = Data.cell v := z; cases z'⟩
    · rw [List.mem_singleton.mp hc]; exact hj.obj
  keep := fun i h h' st k => by
    obtain ⟨⟨old, he⟩, hj⟩ := st
    exact ⟨⟨old, k e (by first | exact mm0 | exact mm1 | simp) _ he⟩, hj.at fun o q => k j (by first | exact mm0 | exact mm1 | simp) o q⟩
  item := by
    intro X hP hw hK hc i pins s σ H E I hf st hg
    subst hP hw hK
    obtain ⟨xs, x, hq, hx⟩ := hg
    obtain ⟨its, rv, p, hz⟩ := I.seqK hq
    obtain ⟨u, hu, ru⟩ := rv.get hx
    obtain ⟨⟨old, he⟩, hj⟩ := st
    have nae := I.seqK_ne hq (hf e (by first | exact mm0 | exact mm1 | simp))
    have naj := I.seqK_ne hq (hf j (by first | exact mm0 | exact mm1 | simp))
    have hlt : i + 2 < its.toArray.size + 2 := by
      have := (List.getElem?_eq_some_iff.mp hu).1
      simpa using this
    refine wpAny_pyNext_enum_itemD (draws_shift (draws_of false (A := X.A.in1) (I.ok.hd hc) j a naj its.toArray) 2) he ⟨Nat.le_add_left _ _, hj, p⟩ hlt hej (by simp; exact ⟨hej, Ne.symm nae⟩) fun y h1 tk hP ho st1 hT hsz hk => ?_
    have ey : y = u := by
      have hP : its.toArray[i]? = some y := hP
      have : its[i]? = some y := by simpa using hP
      rw [hu] at this; exact (Option.some.inj this).symm
    subst ey
    refine ⟨_, rfl, wpAny_letOwnedTupleGo_enum ho fun h2 he2 hs2 => ?_⟩
    replace hs2 : Heap.SameBut e h1 h2 := hs2
    have hes : e < s.heap.objs.size := Heap.lt_size he
    have hjs : j < s.heap.objs.size := by obtain ⟨o, q, _⟩ := hj.obj; exact Heap.lt_size q
    have kk : ∀ c o, c ∉ [e, j] → s.heap.get? c = some o → h2.get? c = some o := fun c o hc q => by
      have h1' : c ≠ e := fun z => hc (by simp [z])
      exact hs2.extBut _ _ h1' (hk c o h1' (fun z => hc (by simp [z])) q)
    refine ⟨.ref s.heap.objs.size, upd H s.heap.objs.size (.tup [.int ((i + 2 : Nat) : Int), x]), I.turnLay (t' := tk + 1) kk hf (Nat.le_refl _) ?_, rfl, ⟨_, x, I.hok.fresh (Nat.le_refl _), rfl, rfl, fun ys hy => by rw [I.seqK_inj hy hq]; exact hx⟩, ⟨⟨y, ?_⟩, st1.2.1.at fun o q => hs2.extBut _ _ (Ne.symm hej) q⟩, fun c hc => ?_⟩
    · exact ⟨by simp [sizeLine_eq], [.int ((i + 2 : Nat) : Int) tk, y], .cons ⟨tk, rfl⟩ (.cons ru .nil), _, hs2.extBut _ _ (Nat.ne_of_gt hes) hT, rfl, 0, rfl⟩
    · rw [show ((i + 1 + 2 : Nat) : Int) = ((i + 2 : Nat) : Int) + 1 by omega]
      exact he2
    · rw [upd_ne]
      · exact (hf c hc).1
      · rcases List.mem_cons.mp hc with rfl | hc
        · exact Nat.ne_of_lt hes
        · rw [List.mem_singleton.mp hc]; exact Nat.ne_of_lt hjs
  done := by
    intro X hP hw hK hc i pins s σ H E I hf st hg
    subst hP hw hK
    obtain ⟨xs, hq, hx⟩ := hg
    obtain ⟨its, rv, p, hz⟩ := I.seqK hq
    obtain ⟨⟨old, he⟩, hj⟩ := st
    have naj := I.seqK_ne hq (hf j (by first | exact mm0 | exact mm1 | simp))
    have hl := rv.length
    have hn : its.toArray.size = i := by simp; omega
    refine wpAny_pyNext_enum_endD (draws_of false (A := X.A.in1) (I.ok.hd hc) j a naj its.toArray) he (by rw [hn]; exact ⟨hj, p⟩) fun h1 hk => ⟨rfl, ?_⟩
    exact I.turnedL (t' := s.toks) (fun c o hc q => hk c o (fun z => hc (by simp [z])) q) hf
  self := fun _ _ _ _ _ st q => by
    obtain ⟨⟨old, he⟩, _⟩ := st
    exact wpAny_pyIter_enum he q
section
variable {X : Cx} {es : List Expr} {kk : Nat} {tp : Pos}
noncomputable def iEnumS (K : PySem.W.Frag) (ta : TA) : TI := fun σ H R => ta σ H fun vs H1 => ∃ l xs, vs = [.ref l] ∧ SqK false K H1 l xs ∧ R (IteS K l) H1
theorem pi_enumS {a : Expr} {ta : TA} {p pos kp cp : Pos} {j : Nat} (hg : Gl X "enumerate") (hm : X.mg "enumerate" = none) (ha : PA X [a] ta) (hs : starEach [a] X.env = [(false, eval a X.env)] := by rfl) : PI X (.Tuple es kk tp) (.Call (.Name "enumerate" p) [a] [⟨some "start", .Constant (.int 2) j cp, kp⟩] pos) (iEnumS X.K ta) := by
  intro pins s σ H R I h
  refine wpAny_Call_Name_kw (ld_blt I hg hm boot_enumerate (callWith_typeK (by rw [hs]; rfl) rfl ?_))
  rw [hs]
  have ha' := ha pos pins s σ H _ I h
  rw [hs] at ha'
  refine evalArgs_kw rfl (thn ha' fun us s1 ⟨vs, H1, I1, r1, q1⟩ => ?_)
  obtain ⟨l, xs, e, hq, q⟩ := q1
  subst e
  obtain ⟨u, rfl, ru⟩ := vals1 r1
  cases ru
  obtain ⟨its, rv, p, _⟩ := I1.seqK hq
  refine wpAny_evalAll_cons (wpAny_bind (wpAny_Constant_int (wpAny_bind (wpAny_standAt (wpAny_pure (wpAny_evalAll_nil ?_))))))
  refine call_enumS (s := { s1 with toks := s1.toks + 1 }) p fun h1 he hj hsz hk => wpAny_pyIter_enum he ?_
  refine ⟨_, [s1.heap.objs.size + 1, s1.heap.objs.size], _, _, H1, rfl, I1.kept (t' := s1.toks + 1) hk, turn_enumS l _ _ (Nat.succ_ne_self _), ⟨⟨_, he⟩, hj⟩, fun c hc => ?_, q⟩
  rcases List.mem_cons.mp hc with rfl | hc
  · exact I1.fpOk (Nat.le_succ _) (I1.hok.fresh (Nat.le_succ _))
  · rw [List.mem_singleton.mp hc]; exact I1.fpOk (Nat.le_refl _) (I1.hok.fresh (Nat.le_refl _))
end
end L2
namespace My
open PySem PySem.Spec PyProof.Rows L2
noncomputable def enumS (ds : List PyData) : List PyData := ds.mapIdx fun (i : Nat) d => .tuple [.int ((i + 2 : Nat) : Int), d]
section
variable {K : PySem.W.Frag} {ex : List Addr} {H : Hp}
theorem it_enumS {a : Addr} {vs : List V} {ds : List PyData} (al : Alc ex H) (ha : SqK false K H a vs) (r : Reps ex H ds vs) : ItAt ex (IteS K a) (enumS ds) H := by
  unfold enumS
  refine ⟨⟨vs, ha, by rw [List.length_mapIdx, r.length]⟩, fun i d e => ?_⟩
  rw [List.getElem?_mapIdx] at e
  cases hd : ds[i]? with
  | none => rw [hd] at e; cases e
  | some d0 =>
    rw [hd] at e
    cases e
    obtain ⟨v, ev, rv⟩ := r.get hd
    refine ⟨⟨vs, v, ha, ev⟩, fun x H' y => ?_⟩
    obtain ⟨p, y, hp, rfl, rfl, hy⟩ := y
    have := hy vs ha
    rw [ev] at this
    cases this
    exact ⟨Kp.new hp _, .tuple upd_same (al.nm hp) two_line (.cons (.int _) (.cons (rv.keep (Kp.new hp _)) .nil))⟩
noncomputable abbrev gEnumS (t : GN) : GN := fun env n Q => t env n fun ds n1 => ∃ xs, ds = [.list xs] ∧ Q (enumS xs) n1
noncomputable instance iv_enumS {t : TA} {gt : GN} [A : DV true t gt] : IV (iEnumS K t) (gEnumS gt) := ⟨fun {S ex env σ H n R P} E h k => A.dv E h fun ds n1 vs H1 h1 s1 r1 => by
  obtain ⟨xs, rfl, q⟩ := h1
  cases r1 with
  | cons r1 t =>
    cases t
    have r2 := r1
    cases r2 with
    | list e nm z rs =>
      refine ⟨_, _, rfl, SqL.of e, k _ _ _ [(.list xs, _)] _ q s1 (fun h hh => by rw [List.mem_singleton.mp hh]; exact r1) fun ex' H2 al hr => ?_⟩
      have r3 := hr _ (List.mem_singleton.mpr rfl)
      cases r3 with
      | list e' nm' z' rs' => exact it_enumS al (SqL.of e') rs'⟩
end
end My

namespace My
open PySem PySem.Spec PyProof.Rows L2
open PySem.StrLaws PySem.Builtin.Str
theorem len_list (x : Str) : x.cps.toList.length = x.length := by simp [Str.length]
theorem join_mem {sep : Str} {c : Nat} : ∀ {ps : List Str}, c ∈ (Str.join sep ps).cps.toList → c ∈ sep.cps.toList ∨ ∃ p ∈ ps, c ∈ p.cps.toList
  | [], h => by cases h
  | [p], h => .inr ⟨p, List.mem_singleton.mpr rfl, h⟩
  | p :: q :: ps, h => by
    have h : c ∈ (p ++ sep ++ Str.join sep (q :: ps)).cps.toList := h
    simp only [Str.cps_append, Array.toList_append, List.mem_append] at h
    rcases h with (h | h) | h
    · exact .inr ⟨p, List.mem_cons_self, h⟩
    · exact .inl h
    · rcases join_mem h with h | ⟨r, hr, h⟩
      · exact .inl h
      · exact .inr ⟨r, List.mem_cons_of_mem _ hr, h⟩
theorem txt_join (sep : Str) (ps : List Str) : Txt.join sep ps = Str.join sep ps := glued_eq_join ..
theorem joinOk_of {sep : Str} {ps : List Str} {B : Nat} (hB : ∀ y ∈ ps, y.length ≤ B) (h : ps.length * B + ps.length * sep.length ≤ 16777216) : JoinOk sep ps = true := by
  unfold JoinOk
  rw [joinFits hB h]
  rfl
theorem num_small {R U : Int} {w : Way} (k : WayOk R U w) (hR : R ≤ 12) : (-99 ≤ w.a ∧ w.a ≤ 99) ∧ (-99 ≤ w.b ∧ w.b ≤ 99) ∧ ∀ g ∈ w.g, -99 ≤ g ∧ g ≤ 99 := by
  have := k.a0
  have := k.a1
  have := k.b0
  have := k.b1
  exact ⟨⟨by omega, by omega⟩, ⟨by omega, by omega⟩, fun g hg => k.small g hg⟩
theorem num_no {i : Int} (h : -99 ≤ i ∧ i ≤ 99) {c : Nat} (hc : c ∈ (numS i).cps.toList) : c ≠ 32 ∧ c ≠ 47 := by
  rcases (num_of h.1 h.2).signs c hc with h | h
  · exact ⟨by omega, by omega⟩
  · exact ⟨by omega, by omega⟩
theorem words_ok {R U : Int} {w : Way} (k : WayOk R U w) (hR : R ≤ 12) {q : Str} (hq : q ∈ wayW w) : q.length ≤ 3 ∧ ∀ c ∈ q.cps.toList, c ≠ 32 ∧ c ≠ 47 := by
  obtain ⟨ha, hb, hg⟩ := num_small k hR
  unfold wayW at hq
  rcases List.mem_append.mp hq with hq | hq
  · simp only [List.mem_cons, List.not_mem_nil, or_false] at hq
    rcases hq with rfl | rfl | rfl | rfl
    · exact ⟨(num_of ha.1 ha.2).l3, fun c hc => num_no ha hc⟩
    · exact ⟨by decide, by decide⟩
    · exact ⟨(num_of hb.1 hb.2).l3, fun c hc => num_no hb hc⟩
    · exact ⟨by decide, by decide⟩
  · obtain ⟨g, hgm, rfl⟩ := List.mem_map.mp hq
    have := hg g hgm
    exact ⟨(num_of this.1 this.2).l3, fun c hc => num_no this hc⟩
theorem wayW_len {R U : Int} {w : Way} (k : WayOk R U w) (hU : U ≤ 6) : (wayW w).length ≤ 10 := by
  have := k.len
  unfold wayW
  rw [List.length_append, List.length_map]
  show 4 + _ ≤ _
  omega
theorem row_join {R U : Int} {w : Way} (k : WayOk R U w) (hR : R ≤ 12) (hU : U ≤ 6) : JoinOk " " (wayW w) = true := by
  refine joinOk_of (B := 3) (fun y hy => (words_ok k hR hy).1) ?_
  have := wayW_len k hU
  show _ + _ * 1 ≤ _
  omega
theorem rowS_len {R U : Int} {w : Way} (k : WayOk R U w) (hR : R ≤ 12) (hU : U ≤ 6) : (rowS w).length ≤ 40 := by
  have h1 := StrLaws.join_length_le " " (wayW w)
  have h2 := sumLen_le (wayW w) (B := 3) fun y hy => (words_ok k hR hy).1
  have h3 := wayW_len k hU
  unfold rowS
  rw [txt_join]
  have : (" " : Str).length = 1 := rfl
  rw [this] at h1
  omega
theorem row_no {R U : Int} {w : Way} (k : WayOk R U w) (hR : R ≤ 12) : 47 ∉ (rowS w).cps.toList := fun hc => by
  unfold rowS at hc
  rw [txt_join] at hc
  rcases join_mem hc with h | ⟨p, hp, h⟩
  · revert h; decide
  · exact ((words_ok k hR hp).2 47 h).2 rfl
theorem app_mem {a b : Str} {c : Nat} (h : c ∈ (a ++ b).cps.toList) : c ∈ a.cps.toList ∨ c ∈ b.cps.toList := by
  simpa only [Str.cps_append, Array.toList_append, List.mem_append] using h
theorem rows_ok {R U : Int} {ws : List Way} (k : BookOk R U ws) {q : Str} (hq : q ∈ bookRows R U ws) : q.length ≤ 40 ∧ 47 ∉ q.cps.toList := by
  have := k.r0
  have := k.r1
  have := k.p0
  have := k.p1
  unfold bookRows at hq
  rcases List.mem_append.mp hq with hq | hq
  · simp only [List.mem_cons, List.not_mem_nil, or_false] at hq
    rcases hq with rfl | rfl
    · have N : -99 ≤ R ∧ R ≤ 99 := ⟨by omega, by omega⟩
      refine ⟨?_, fun hc => ?_⟩
      · rw [strLen_append]
        have : ("rooms " : Str).length = 6 := rfl
        have := (num_of N.1 N.2).l3
        omega
      · rcases app_mem hc with h | h
        · revert h; decide
        · exact (num_no N h).2 rfl
    · have N : -99 ≤ U ∧ U ≤ 99 := ⟨by omega, by omega⟩
      refine ⟨?_, fun hc => ?_⟩
      · rw [strLen_append]
        have : ("purses " : Str).length = 7 := rfl
        have := (num_of N.1 N.2).l3
        omega
      · rcases app_mem hc with h | h
        · revert h; decide
        · exact (num_no N h).2 rfl
  · obtain ⟨w, hw, rfl⟩ := List.mem_map.mp hq
    have kw := k.ways w hw
    exact ⟨rowS_len kw k.r1 k.p1, row_no kw k.r1⟩
theorem bookRows_len {R U : Int} {ws : List Way} (k : BookOk R U ws) : (bookRows R U ws).length ≤ 62 := by
  have := k.len
  unfold bookRows
  rw [List.length_append, List.length_map]
  show 2 + _ ≤ _
  omega
theorem book_join {R U : Int} {ws : List Way} (k : BookOk R U ws) : JoinOk " / " (bookRows R U ws) = true := by
  refine joinOk_of (B := 40) (fun y hy => (rows_ok k hy).1) ?_
  have := bookRows_len k
  show _ + _ * 3 ≤ _
  omega
theorem book_len {R U : Int} {ws : List Way} (k : BookOk R U ws) : (Txt.join " / " (bookRows R U ws)).length ≤ 4000 := by
  have h1 := StrLaws.join_length_le " / " (bookRows R U ws)
  have h2 := sumLen_le (bookRows R U ws) (B := 40) fun y hy => (rows_ok k hy).1
  have h3 := bookRows_len k
  rw [txt_join]
  have : (" / " : Str).length = 3 := rfl
  rw [this] at h1
  omega
end My

namespace L2
open PySem PySem.Spec PyProof.Rows PySem.SeqAt
end L2
namespace My
open PySem PySem.Spec PyProof.Rows L2
theorem cmpW_mapG {α : Type} {turn : PyData → Nat → (Option PyData → Nat → Prop) → Prop} {n : Nat} {Q : List PyData → Nat → Prop} {f : α → PyData} (g : α → PyData) {xs : List α} (h : ∀ x ∈ xs, ∀ n K, K (some (g x)) n → turn (f x) n K) (q : Q (xs.map g) n) : cmpW turn (xs.map f) n Q := by
  induction xs generalizing n Q with
  | nil => exact q
  | cons x xs ih => exact h x List.mem_cons_self _ _ (ih (fun y hy => h y (List.mem_cons_of_mem _ hy)) q)
theorem cut_mid {a b c : PyData} {r : List PyData} : cutD (a :: b :: c :: r) (some 2) (some 3) = [c] := by
  unfold cutD
  rw [show (some (2 : Int)) = some ((2 : Nat) : Int) from rfl, show (some (3 : Int)) = some ((3 : Nat) : Int) from rfl, HT.sIx_nat, HT.sIx_nat, Nat.min_eq_left (by simp only [List.length_cons]; omega), Nat.min_eq_left (by simp only [List.length_cons]; omega)]
  rfl
theorem fNe_ss {s t : Str} {Q : PyData → Prop} (h : Q (.bool (!decide (s = t)))) : fEq true (.str s) (.str t) Q := h
noncomputable def gsLawText : GSp := fun as n Q => ∃ (R U : Int) (ws : List Way), as = [.d (bookPD R U ws)] ∧ BookOk R U ws ∧ Q (.list ((bookRows R U ws).map .str)) n
theorem book_lv (R U : Int) (ws : List Way) : noDict (bookPD R U ws) = true ∧ lvD (bookPD R U ws) ≤ 7 := by
  have h : noDictAll (ws.map wayPD) = true ∧ lvL (ws.map wayPD) ≤ 2 := by
    induction ws with
    | nil => exact ⟨rfl, by rw [List.map_nil, lvL]; decide⟩
    | cons w ws ih =>
      have hw : noDict (wayPD w) = true ∧ lvD (wayPD w) ≤ 2 := by
        unfold wayPD
        refine ⟨by rw [noDict, noDictAll, noDictAll, noDictAll, noDict, noDict, noDict, noDict_ints]; rfl, ?_⟩
        simp [lvD, lvL, lvL_ints]
      rw [List.map_cons, noDictAll, lvL, hw.1, ih.1]
      exact ⟨rfl, Nat.max_le.mpr ⟨hw.2, ih.2⟩⟩
  unfold bookPD
  refine ⟨by rw [noDict, noDictAll, noDictAll, noDictAll, noDict, noDict, noDict, h.1]; rfl, ?_⟩
  have := h.2
  simp only [lvD, lvL]
  omega
end My

namespace PySem
open Sem (wp)
section
variable {prog : Program} {w : World} {A : Around} {E : Value → Shared → Prop} {h : Heap} {g : Array GenState} {d : Drawn} {t : Nat} {os : OsState}
variable {nm q : Str} {C N : Addr} {bs bm bmB : List Value} {hdct : Bool} {sn : List Str} {sub : List Value} {ab : Bool} {col : Option Bool} {dd : Option Addr} {k0 k1 k2 k3 k5 : Option Value} {B newId initId : String}
theorem exc_initT_type (F : ExcBaseFacts B newId initId bmB) (T : OwnTail h bmB bm) {mN : Str → Option Value} {rest : List Value} {fI : Addr} {oI : Obj} {Q : Fin → Shared → Prop}
    (hC : h.get? C = some (excClassObj nm q C N bs bm hdct sn sub ab col dd k0 k1 k2 k3 k5 newId)) (hn : h.Ns N mN) (hi : mN "__init__" = some (.ref fI))
    (hfI : h.get? fI = some oI) (hfc : oI.cls = .type "function")
    (hq : ∀ h' e, Heap.MadeExcOf h h' e (.ref C) rest →
      wpAny (model prog w) A (call (.ref fI) (.ref e :: rest)) (fun r s' => r = .none ∧ Q (.done (.ret (.ref e))) s') E ⟨h', g, d, t, os⟩) (hrest : rest.length ≤ sizeLine := by size_fits) :
    wpAny (model prog w) A (Builtin.«type.__call__» ⟨.ref C :: rest, []⟩) Q E ⟨h, g, d, t, os⟩ := by
  repeat (first | with_reducible refine wpAny_loadPart_at hC ?_ | with_reducible refine wpAny_madeBy_exc hC ?_ | wp_step)
  refine codeAny_call_builtin_code (Code.quiet_builtin _ F.quiet) (wpAny_check_new_subT F T hC ?_)
  refine codeAny_exc_new_subT F T hC ?_ hrest
  show wpAny _ _ _ _ _ _
  have hC₁ := Heap.get?_push_of_some { cls := .ref C, data := .fields #[.ref h.objs.size, .none, .none, .none, .bool false, .none] }
    (Heap.get?_push_of_some { cls := .type "tuple", data := .seq rest.toArray } hC)
  have hfI₁ := Heap.get?_push_of_some { cls := .ref C, data := .fields #[.ref h.objs.size, .none, .none, .none, .bool false, .none] }
    (Heap.get?_push_of_some { cls := .type "tuple", data := .seq rest.toArray } hfI)
  have hn₁ : ((h.push { cls := .type "tuple", data := .seq rest.toArray }).push { cls := .ref C, data := .fields #[.ref h.objs.size, .none, .none, .none, .bool false, .none] }).Ns N mN :=
    let ⟨o, es, ep, e, r⟩ := hn; ⟨o, es, ep, Heap.get?_push_of_some _ (Heap.get?_push_of_some _ e), r⟩
  have hget : ((h.push { cls := .type "tuple", data := .seq rest.toArray }).push
      { cls := .ref C, data := .fields #[.ref h.objs.size, .none, .none, .none, .bool false, .none] }).get? (h.objs.size + 1) = some
      { cls := .ref C, data := .fields #[.ref h.objs.size, .none, .none, .none, .bool false, .none] } := by heap_get
  have hcC : (Value.ref C :: bm).contains (.ref C) = true := by simp
  have T₁ := T.keeps (h' := (h.push { cls := .type "tuple", data := .seq rest.toArray }).push { cls := .ref C, data := .fields #[.ref h.objs.size, .none, .none, .none, .bool false, .none] })
    fun b o e => Heap.get?_push_of_some _ (Heap.get?_push_of_some _ e)
  unfold isInstance
  repeat (first | with_reducible refine wpAny_loadPart_at hget ?_ | (with_reducible refine wpAny_isSubtype_exc hC₁ ?_; rw [hcC]) | wp_step)
  show wpAny _ _ (typeLookup (.ref C) _) _ _ _
  refine wpAny_typeLookup_tail hC₁ hn₁ T₁ F.mroIs F.init.lookup ?_
  rw [hi]
  refine wpAny_holding (wpAny_bind ?_)
  unfold bindSpecial
  refine wpAny_bind (wpAny_typeOf (T := "function") ⟨_, hfI₁, hfc⟩ ?_)
  rw [if_pos (by decide)]
  refine wpAny_pure (wpAny_bind (wpAny_mono (hq _ (h.objs.size + 1) ⟨fun b o hb => Heap.get?_push_of_some _ (Heap.get?_push_of_some _ hb), Heap.get?_none_of_le (Nat.le_succ _), h.objs.size, hget, Heap.get?_none_of_le (Nat.le_refl _), ?_⟩) (fun r s' hr => ?_) fun _ _ x => x))
  · exact Heap.get?_push_of_some _ (Heap.get?_push_at rfl rfl)
  · obtain ⟨rfl, hQ⟩ := hr
    wp_walk
    exact hQ
theorem exc_initT_call (F : ExcBaseFacts B newId initId bmB) (T : OwnTail h bmB bm) {mN : Str → Option Value} {rest : List Value} {fI : Addr} {oI : Obj} {Q : Value → Shared → Prop}
    (hC : h.get? C = some (excClassObj nm q C N bs bm hdct sn sub ab col dd k0 k1 k2 k3 k5 newId)) (hn : h.Ns N mN) (hi : mN "__init__" = some (.ref fI))
    (hfI : h.get? fI = some oI) (hfc : oI.cls = .type "function")
    (hq : ∀ h' e, Heap.MadeExcOf h h' e (.ref C) rest →
      wpAny (model prog w) (A.under (.builtin "type.__call__" ⟨.ref C :: rest, []⟩)) (call (.ref fI) (.ref e :: rest)) (fun r s' => r = .none ∧ Q (.ref e) s') E ⟨h', g, d, t, os⟩) (hrest : rest.length ≤ sizeLine := by size_fits) :
    wpAny (model prog w) A (call (.ref C) rest) Q E ⟨h, g, d, t, os⟩ := by
  have f1 := tc_lookup
  have f2 := tc_bind (.ref C)
  have hT : (⟨h, g, d, t, os⟩ : Shared).TypeIs (.ref C) "type" := ⟨_, hC, rfl⟩
  refine wpAny_call (codeAny_of_tree ?_)
  show wpAny _ _ (callAny (.ref C) _) _ _ _
  repeat (any_goals (first | assumption | with_reducible refine wpAny_loadPart_at hC ?_ | wp_step))
  refine ⟨rfl, ?_⟩
  refine codeAny_call_builtin_at (Code.quiet_builtin _ (by decide +kernel)) entry_typeCall (wpAny_check_type_call_sub hC (exc_initT_type (hrest := hrest) F T hC hn hi hfI hfc fun h' e hm => ?_))
  exact hq h' e hm
end
end PySem

namespace L2
open PySem PySem.Spec PyProof.Rows
section
variable {prog : Program} {w : World} {A : Around} {E : Value → Shared → Prop} {s : Shared} {l : Addr} {xs : Array (Int × Tok)}
end
section
variable {X : Cx}
end
end L2
namespace My
open PySem PySem.Spec PyProof.Rows L2
end My

namespace My
open PySem PySem.Spec PyProof.Rows L2
section
variable {R : Int} {ws : List Way} {ks : List Int} {x : Int} {l : List Int} {i j : Nat}
end
end My

namespace L2
open PySem PySem.Spec PyProof.Rows PySem.SeqAt
section
variable {X : Cx} {pins : List (Addr × Obj)} {σ : St} {A : Around} {R : Result → Shared → Prop} {it l d : Addr} {ps : List (Key × V × Addr)}
end
end L2

namespace L2
open PySem PySem.Spec PyProof.Rows PySem.SeqAt
section
variable {prog : Program} {w : World} {A : Around} {E : Value → Shared → Prop} {s : Shared}
end
section
variable {X : Cx}
end
end L2

namespace My
open PySem PySem.Spec PyProof.Rows L2 PySem.SeqAt PySem.MeetsSeq
section
variable {X : Cx}
end
end My

namespace My
open PySem PySem.Spec PyProof.Rows L2
section
variable {R U : Int} {ws : List Way} {ks : List Int}
end
end My

namespace My
open PySem PySem.Spec PyProof.Rows L2
end My

namespace L2
open PySem PySem.Spec PyProof.Rows
section
variable {P : Program} {w : World} {K : PySem.W.Frag} {mg : Str → Option Value} {base : Heap} {C : Addr} {x m qual : Str} {st : Stmt} {ps : List Str} {k : Nat} {sp : Sp}
end
section
variable {X : Cx} {x m : Str} {C : Addr} {o e : Expr} {es : List Expr} {p pos apos : Pos} {ta : TE} {t : TA} {k : Nat} {ps : List Str} {sp : Sp}
end
end L2
namespace My
open PySem PySem.Spec PyProof.Rows L2
section
variable {b : Bool} {te ta : TE} {g : GE}
end
end My

namespace My
open PySem PySem.Spec PyProof.Rows L2
noncomputable def clsBody : Stmt → List Stmt
  | .ClassDef (body := b) .. => b
  | _ => []
noncomputable abbrev St' := Int × List Int
noncomputable abbrev Kn := List (Int × St')
end My

namespace L2
open PySem PySem.Spec PyProof.Rows My
section
variable {X : Cx} {x : Str} {e : Expr} {es : List Expr} {p pos : Pos} {t : TA} {k : Nat} {ps : List Str} {sp : Sp} {i : Int} {E : XK}
end
end L2
namespace My
open PySem PySem.Spec PyProof.Rows L2
section
variable {i : Nat} {sp : GSx} {t : TA} {gt : GA} {tv : TE} {gv : GE} {d : Int} {b : Bool} {E' : XK}
end
section
variable {K : PySem.W.Frag} {C : Addr} {s0 : St'} {p : Kn} {Q : PyData → Prop}
end
end My

namespace My
open PySem PySem.Spec PyProof.Rows L2
end My
namespace My
open PySem PySem.Spec PyProof.Rows L2
end My

namespace My
open PySem PySem.Spec PyProof.Rows L2
section
variable {x t : Int} {xr gr : List Int} {N : Nat}
end
end My
namespace My
open PySem PySem.Spec PyProof.Rows L2
end My
namespace My
open PySem PySem.Spec PyProof.Rows L2
end My

namespace My
open PySem PySem.Spec PyProof.Rows L2
end My

namespace L2
open PySem PySem.Spec PyProof.Rows
variable {X : Cx}
end L2
namespace My
open PySem PySem.Spec PyProof.Rows L2
end My

namespace My
open PySem PySem.Spec PyProof.Rows L2
end My

namespace My
open PySem PySem.Spec PyProof.Rows L2
end My

namespace L2
open PySem PySem.Spec PyProof.Rows PySem.SeqAt
open AutoSeq1 (wpAny_loadPart')
section
variable {prog : Program} {w : World} {A : Around} {E : Value → Shared → Prop} {s : Shared} {R : Result → Shared → Prop}
end
section
variable {X : Cx}
end
end L2

namespace L2
open PySem PySem.Spec PyProof.Rows My
section
variable {X : Cx} {tg : Expr}
end

section
variable {X : Cx} {es : List Expr} {kk : Nat} {tp : Pos}
end
end L2
namespace L2
open PySem PySem.Spec PyProof.Rows My
end L2

namespace My
open PySem PySem.Spec PyProof.Rows L2
end My

namespace My
open PySem PySem.Spec PyProof.Rows L2
end My

namespace L2
open PySem PySem.Spec PyProof.Rows My
end L2
namespace My
open PySem PySem.Spec PyProof.Rows L2
end My

namespace L2
open PySem PySem.Spec PyProof.Rows My
end L2
namespace My
open PySem PySem.Spec PyProof.Rows L2
end My

namespace My
open PySem PySem.Spec PyProof.Rows L2
end My

namespace My
open PySem PySem.Spec PyProof.Rows L2
end My

namespace My
open PySem PySem.Spec PyProof.Rows L2
noncomputable abbrev Fn := Nat → Int
section
variable {rows rows' : List (List Int)} {f g : Fn} {p : Nat}
variable {by_ r : List Int}
end
end My

namespace My
open PySem PySem.Spec PyProof.Rows L2
end My

namespace My
open PySem PySem.Spec PyProof.Rows L2
end My

namespace My
open PySem PySem.Spec PyProof.Rows L2
end My

namespace My
open PySem PySem.Spec PyProof.Rows L2
section
variable {ws : List Way} {s0 : St'}
end
end My

namespace L2
open PySem PySem.Spec PyProof.Rows My
section
variable {X : Cx} {pins : List (Addr × Obj)} {σ : St} {H H1 : Hp} {s s1 : Shared}
end
end L2

namespace My
open PySem PySem.Spec PyProof.Rows L2
end My

namespace My
open PySem PySem.Spec PyProof.Rows L2
end My

namespace L2
open PySem PySem.Spec PyProof.Rows PySem.SeqAt
open AutoSeq1 (wpAny_loadPart')
section
variable {prog : Program} {w : World} {A : Around} {E : Value → Shared → Prop} {s : Shared}
end
end L2

namespace L2
open PySem PySem.Spec PyProof.Rows PySem.SeqAt
open AutoSeq1 (wpAny_loadPart')
section
variable {prog : Program} {w : World} {A : Around} {E : Value → Shared → Prop} {s : Shared} {R : Result → Shared → Prop}
end
section
variable {X : Cx}
end
end L2

namespace My
open PySem PySem.Spec PyProof.Rows L2
section
variable {ws : List Way} {s0 : St'}
end
end My

namespace L2
open PySem PySem.Spec PyProof.Rows
section
variable {X : Cx} {y : Str} {p' pos apos : Pos}
end
end L2
namespace My
open PySem PySem.Spec PyProof.Rows L2
end My

namespace My
open PySem PySem.Spec PyProof.Rows L2
section
variable {ws : List Way} {s0 : St'}
end
end My

namespace L2
open PySem PySem.Spec PyProof.Rows
end L2

namespace L2
open PySem PySem.Spec PyProof.Rows
end L2

namespace L2
open PySem PySem.Spec PyProof.Rows
section
variable {prog : Program} {w : World}
variable {A : Around} {E : Value → Shared → Prop} {s : Shared}
end
end L2

namespace L2
open PySem PySem.Spec PyProof.Rows
section
variable {prog : Program} {w : World} {A : Around} {R : Result → Shared → Prop}
end
end L2

set_option maxHeartbeats 3200000
namespace L2
open PySem PySem.Spec PyProof.Rows
section
variable {prog : Program} {w : World} {A : Around} {E : Value → Shared → Prop} {s : Shared}
end
end L2

namespace L2
open PySem PySem.Spec PyProof.Rows
end L2

namespace L2
open PySem PySem.Spec PyProof.Rows
section
variable {prog : Program} {w : World} {A : Around} {E : Value → Shared → Prop} {s : Shared}
noncomputable abbrev dr (es : Array (Int × Value)) (t : SetTable) : Bool := !t.plain && es.size > 1
variable {a : Addr} {es : Array (Int × Value)} {ep : Nat} {t : SetTable}
end
end L2

namespace L2
open PySem PySem.Spec PyProof.Rows
section
variable {prog : Program} {w : World} {A : Around} {E : Value → Shared → Prop} {s : Shared}
variable {a it : Addr} {es : Array (Int × Value)} {ep i : Nat} {t : SetTable}
end
end L2

set_option maxHeartbeats 2000000
namespace L2
open PySem PySem.Spec PyProof.Rows
section
variable {prog : Program} {w : World} {A : Around} {E : Value → Shared → Prop} {s : Shared}
variable {a I q : Addr} {es : Array (Int × Value)} {ep : Nat} {t : SetTable}
end
end L2

set_option maxHeartbeats 2000000
namespace L2
open PySem PySem.Spec PyProof.Rows PySem.SeqAt
section
variable {prog : Program} {w : World} {A : Around} {E : Value → Shared → Prop} {s : Shared}
variable {a : Addr} {es : Array (Int × Value)} {ep : Nat} {t : SetTable}
end
end L2

set_option maxHeartbeats 2000000
namespace L2
open PySem PySem.Spec PyProof.Rows PySem.SeqAt
section
variable {prog : Program} {w : World} {s : Shared}
end
section
variable {X : Cx} {pins : List (Addr × Obj)} {σ : St} {H : Hp} {s : Shared}
end
end L2
namespace My
open PySem PySem.Spec PyProof.Rows L2
end My

namespace My
open PySem PySem.Spec PyProof.Rows L2
end My

namespace L2
open PySem PySem.Spec PyProof.Rows
end L2
namespace My
open PySem PySem.Spec PyProof.Rows L2
end My

namespace L2
open PySem PySem.Spec PyProof.Rows
end L2

namespace L2
open PySem PySem.Spec PyProof.Rows
section
variable {t : SetTable} {hs : List Int} {h : Int} {ha : Nat → Int}
end
end L2

namespace L2
open PySem PySem.Spec PyProof.Rows
end L2

namespace L2
open PySem PySem.Spec PyProof.Rows
section
variable {prog : Program} {w : World} {OK : Addr → Int × Int → Prop}
variable {A : Around} {E : Value → Shared → Prop} {s : Shared}
end
end L2

namespace L2
open PySem PySem.Spec PyProof.Rows
section
variable {prog : Program} {w : World} {OK : Addr → Int × Int → Prop} {A : Around} {E : Value → Shared → Prop} {s : Shared}
theorem items_int {ks : List Int} {vs : List Value} (hx : ItemsAre (intKind prog w) ks vs) : ∀ v ∈ vs, ∃ n t, v = Value.int n t := by
  induction hx with
  | nil => intro v hv; cases hv
  | cons h1 _ ih =>
    intro v hv
    rcases List.mem_cons.mp hv with rfl | hv
    · obtain ⟨t, rfl⟩ := Value.isInt_shape h1
      exact ⟨_, t, rfl⟩
    · exact ih v hv
variable {a p : Addr} {k : Int × Int} {ks : List (Int × Int)} {o : Obj} {es : Array (Int × Value)} {ep : Nat} {t : SetTable}
end
end L2

namespace L2
open PySem PySem.Spec PyProof.Rows
section
variable {prog : Program} {w : World} {OK : Addr → Int × Int → Prop} {A : Around} {E : Value → Shared → Prop} {s : Shared}
variable {a p : Addr} {k : Int × Int} {ks : List (Int × Int)}
end
end L2

set_option maxHeartbeats 3200000
namespace L2
open PySem PySem.Spec PyProof.Rows
section
variable {prog : Program} {w : World} {OK : Addr → Int × Int → Prop} {A : Around} {R : Result → Shared → Prop}
end
end L2

set_option maxHeartbeats 3200000
namespace L2
open PySem PySem.Spec PyProof.Rows PySem.SeqAt
section
variable {prog : Program} {w : World} {OK : Addr → Int × Int → Prop} {A : Around} {E : Value → Shared → Prop} {s : Shared}
end
end L2

set_option maxHeartbeats 3200000
namespace L2
open PySem PySem.Spec PyProof.Rows
section
variable {prog : Program} {w : World} {OK : Addr → Int × Int → Prop} {A : Around} {E : Value → Shared → Prop} {s : Shared}
end
end L2

set_option maxHeartbeats 2000000
namespace L2
open PySem PySem.Spec PyProof.Rows PySem.SeqAt
section
variable {X : Cx} {pins : List (Addr × Obj)} {σ : St} {H : Hp} {s : Shared}
end
end L2
namespace My
open PySem PySem.Spec PyProof.Rows L2
end My

namespace L2
open PySem PySem.Spec PyProof.Rows
section
variable {prog : Program} {w : World} {A : Around} {R : Result → Shared → Prop} {s : Shared} {elt tg1 iter1 tg2 iter2 : Expr} {scope : Scope} {pos : Pos} {it acc : Value} {env : Env}
end
end L2

namespace L2
open PySem PySem.Spec PyProof.Rows
section
variable {X : Cx} {tg1 iter1 tg2 iter2 elt : Expr} {scope sc : Scope} {N N' : List Str} {k : Nat} {idx : List Nat} {wi wi2 : TI} {g1 g2 : TG} {te : TE} {pos : Pos}
end
end L2

namespace My
open PySem PySem.Spec PyProof.Rows L2
end My

namespace L2
open PySem PySem.Spec PyProof.Rows
end L2
namespace My
open PySem PySem.Spec PyProof.Rows L2
structure Rg where
  gs : List (List Int)
  no : Bool
  fs : List Int
  ls : List Int
  ps : List (Int × Int)
end My

namespace My
open PySem PySem.Spec PyProof.Rows L2
end My

namespace My
open PySem PySem.Spec PyProof.Rows L2
end My

namespace My
open PySem PySem.Spec PyProof.Rows L2
section
variable {U : Int} {f g m m' : Nat} {a : Int} {r q : Rg}
end
end My

namespace My
open PySem PySem.Spec PyProof.Rows L2
end My

namespace My
open PySem PySem.Spec PyProof.Rows L2
end My

set_option maxHeartbeats 2000000
namespace L2
open PySem PySem.Spec PyProof.Rows PySem.SeqAt
section
variable {X : Cx} {pins : List (Addr × Obj)} {σ : St} {H : Hp} {s : Shared}
end
end L2
namespace My
open PySem PySem.Spec PyProof.Rows L2
end My

namespace My
open PySem PySem.Spec PyProof.Rows L2
end My
namespace L2
open PySem PySem.Spec PyProof.Rows
end L2
namespace My
open PySem PySem.Spec PyProof.Rows L2
end My

namespace My
open PySem PySem.Spec PyProof.Rows L2
end My

namespace My
open PySem PySem.Spec PyProof.Rows L2
end My

namespace My
open PySem PySem.Spec PyProof.Rows L2
end My

namespace My
open PySem PySem.Spec PyProof.Rows L2
end My

namespace My
open PySem PySem.Spec PyProof.Rows L2
section
variable {U : Int} {f m : Nat} {r : Rg}
end
end My

namespace PySem
theorem runs_one {M : Model} {Γ : Ctx} {p : Pos} {t : Sem Fin} {fs : List Frame} {s : Shared} {e : End} {s' : Shared} (h : Runs M Γ p t fs s e s') : ∀ {e2 : End} {s2 : Shared}, Runs M Γ p t fs s e2 s2 → e = e2 ∧ s' = s2 := by
  induction h with
  | done => intro e2 s2 h2; cases h2; exact ⟨rfl, rfl⟩
  | raise => intro e2 s2 h2; cases h2; exact ⟨rfl, rfl⟩
  | again q _ ih => intro e2 s2 h2; cases h2 with | again q2 r => exact ih r
  | rule _ ih => intro e2 s2 h2; cases h2 with | rule r => exact ih r
  | «at» _ ih => intro e2 s2 h2; cases h2 with | «at» r => exact ih r
  | load q _ ih => intro e2 s2 h2; cases h2 with | load q2 r => rw [q] at q2; cases q2; exact ih r
  | update q _ ih => intro e2 s2 h2; cases h2 with | update q2 r => exact ih r
  | loadIfAlive _ ih => intro e2 s2 h2; cases h2 with | loadIfAlive r => exact ih r
  | point _ ih => intro e2 s2 h2; cases h2 with | point r => exact ih r
  | alloc _ ih => intro e2 s2 h2; cases h2 with | alloc r => exact ih r
  | fresh _ ih => intro e2 s2 h2; cases h2 with | fresh r => exact ih r
  | ask _ ih => intro e2 s2 h2; cases h2 with | ask r => exact ih r
  | choose q _ ih => intro e2 s2 h2; cases h2 with | choose q2 r => exact ih r
  | os _ ih => intro e2 s2 h2; cases h2 with | os r => exact ih r
  | handled _ ih => intro e2 s2 h2; cases h2 with | handled r => exact ih r
  | genState q _ ih => intro e2 s2 h2; cases h2 with | genState q2 r => rw [q] at q2; cases q2; exact ih r
  | stack _ ih => intro e2 s2 h2; cases h2 with | stack r => exact ih r
  | thread _ ih => intro e2 s2 h2; cases h2 with | thread r => exact ih r
  | newGen _ ih => intro e2 s2 h2; cases h2 with | newGen r => exact ih r
  | call _ _ i1 i2 =>
    intro e2 s2 h2
    cases h2 with
    | call r1 r2 => obtain ⟨a, rfl⟩ := i1 r1; cases a; exact i2 r2
    | callSusp r1 => have a := (i1 r1).1; cases a
  | callSusp _ i1 =>
    intro e2 s2 h2
    cases h2 with
    | call r1 r2 => have a := (i1 r1).1; cases a
    | callSusp r1 => obtain ⟨a, rfl⟩ := i1 r1; cases a; exact ⟨rfl, rfl⟩
  | yield => intro e2 s2 h2; cases h2; exact ⟨rfl, rfl⟩
  | resumeFresh q _ _ _ i1 i2 =>
    intro e2 s2 h2
    cases h2 with
    | resumeFresh q2 r1 b r2 => rw [q] at q2; cases q2; obtain ⟨rfl, rfl⟩ := i1 r1; exact i2 r2
    | resumeSuspended q2 r1 b r2 => rw [q] at q2; cases q2
    | resumeJustStarted q2 n r => exact absurd rfl n
    | resumeRunning q2 r => rw [q] at q2; cases q2
    | resumeFinished q2 r => rw [q] at q2; cases q2
  | resumeSuspended q _ _ _ i1 i2 =>
    intro e2 s2 h2
    cases h2 with
    | resumeFresh q2 r1 b r2 => rw [q] at q2; cases q2
    | resumeSuspended q2 r1 b r2 => rw [q] at q2; cases q2; obtain ⟨rfl, rfl⟩ := i1 r1; exact i2 r2
    | resumeJustStarted q2 n r => rw [q] at q2; cases q2
    | resumeThrowFresh q2 r => rw [q] at q2; cases q2
    | resumeRunning q2 r => rw [q] at q2; cases q2
    | resumeFinished q2 r => rw [q] at q2; cases q2
  | resumeJustStarted q n _ ih =>
    intro e2 s2 h2
    cases h2 with
    | resumeFresh q2 r1 b r2 => exact absurd rfl n
    | resumeSuspended q2 r1 b r2 => rw [q] at q2; cases q2
    | resumeJustStarted q2 n r => exact ih r
    | resumeRunning q2 r => rw [q] at q2; cases q2
    | resumeFinished q2 r => rw [q] at q2; cases q2
  | resumeThrowFresh q _ ih =>
    intro e2 s2 h2
    cases h2 with
    | resumeSuspended q2 r1 b r2 => rw [q] at q2; cases q2
    | resumeThrowFresh q2 r => exact ih r
    | resumeRunning q2 r => rw [q] at q2; cases q2
    | resumeFinished q2 r => rw [q] at q2; cases q2
  | resumeRunning q _ ih =>
    intro e2 s2 h2
    cases h2 with
    | resumeFresh q2 r1 b r2 => rw [q] at q2; cases q2
    | resumeSuspended q2 r1 b r2 => rw [q] at q2; cases q2
    | resumeJustStarted q2 n r => rw [q] at q2; cases q2
    | resumeThrowFresh q2 r => rw [q] at q2; cases q2
    | resumeRunning q2 r => exact ih r
    | resumeFinished q2 r => rw [q] at q2; cases q2
  | resumeFinished q _ ih =>
    intro e2 s2 h2
    cases h2 with
    | resumeFresh q2 r1 b r2 => rw [q] at q2; cases q2
    | resumeSuspended q2 r1 b r2 => rw [q] at q2; cases q2
    | resumeJustStarted q2 n r => rw [q] at q2; cases q2
    | resumeThrowFresh q2 r => rw [q] at q2; cases q2
    | resumeRunning q2 r => rw [q] at q2; cases q2
    | resumeFinished q2 r => exact ih r
  | segRet _ _ i1 i2 =>
    intro e2 s2 h2
    cases h2 with
    | segRet r1 r2 => obtain ⟨a, rfl⟩ := i1 r1; cases a; exact i2 r2
    | segSuspOut q r1 => have a := (i1 r1).1; cases a
    | segSuspGen q r1 b r2 => have a := (i1 r1).1; cases a
  | segGen _ _ i1 i2 =>
    intro e2 s2 h2
    cases h2 with
    | segGen r1 r2 => obtain ⟨a, rfl⟩ := i1 r1; cases a; exact i2 r2
    | segSuspOut q r1 => have a := (i1 r1).1; cases a
    | segSuspGen q r1 b r2 => have a := (i1 r1).1; cases a
  | segSuspOut q _ i1 =>
    intro e2 s2 h2
    cases h2 with
    | segRet r1 r2 => have a := (i1 r1).1; cases a
    | segGen r1 r2 => have a := (i1 r1).1; cases a
    | segSuspOut q2 r1 => obtain ⟨a, rfl⟩ := i1 r1; cases a; exact ⟨rfl, rfl⟩
    | segSuspGen q2 r1 b r2 => rw [q] at q2; cases q2
  | segSuspGen q _ b _ i1 i2 =>
    intro e2 s2 h2
    cases h2 with
    | segRet r1 r2 => have a := (i1 r1).1; cases a
    | segGen r1 r2 => have a := (i1 r1).1; cases a
    | segSuspOut q2 r1 => rw [q] at q2; cases q2
    | segSuspGen q2 r1 b r2 => rw [q] at q2; cases q2; obtain ⟨a, rfl⟩ := i1 r1; cases a; exact i2 r2
theorem wakes_one {M : Model} {Γ : Ctx} {p : Pos} {g : Nat} {r : Resume} {s : Shared} {a b : GenResult} {s1 s2 : Shared} (h : Wakes M Γ p g r s a s1) (k : Wakes M Γ p g r s b s2) : a = b ∧ s1 = s2 := by
  unfold Wakes at h k
  split at h
  · exact h.elim
  · rename_i c q
    rw [q] at k
    dsimp only at k
    split at h
    · obtain ⟨e1, t1, r1, _, rfl, rfl⟩ := h
      obtain ⟨e2, t2, r2, _, rfl, rfl⟩ := k
      obtain ⟨rfl, rfl⟩ := runs_one r1 r2
      exact ⟨rfl, rfl⟩
    · split at k
      · simp_all
      · exact ⟨h.1.trans k.1.symm, h.2.trans k.2.symm⟩
      · rename_i z; cases z
    · exact ⟨h.1.trans k.1.symm, h.2.trans k.2.symm⟩
  · rename_i q
    rw [q] at k
    obtain ⟨e1, t1, r1, _, rfl, rfl⟩ := h
    obtain ⟨e2, t2, r2, _, rfl, rfl⟩ := k
    obtain ⟨rfl, rfl⟩ := runs_one r1 r2
    exact ⟨rfl, rfl⟩
  · rename_i q
    rw [q] at k
    exact ⟨h.1.trans k.1.symm, h.2.trans k.2.symm⟩
  · rename_i q
    rw [q] at k
    exact ⟨h.1.trans k.1.symm, h.2.trans k.2.symm⟩
theorem wp_two {α : Type} (M : Model) (Γ : Ctx) : ∀ (t : Sem α) {Q Q' : α → Pos → Shared → Prop} {E E' : Value → Pos → Shared → Prop} {p : Pos} {s : Shared}, Sem.wp M Γ t Q E p s → Sem.wp M Γ t Q' E' p s → Sem.wp M Γ t (fun a p s => Q a p s ∧ Q' a p s) (fun e p s => E e p s ∧ E' e p s) p s := by
  intro t
  induction t with
  | pure a => exact fun h k => ⟨h, k⟩
  | raise e => exact fun h k => ⟨h, k⟩
  | load a part k ih => rintro Q Q' E E' p s ⟨o, e, h⟩ ⟨o2, e2, h2⟩; rw [e] at e2; cases e2; exact ⟨o, e, ih _ h h2⟩
  | update a part f k ih => exact fun h k => ⟨h.1, ih _ h.2 k.2⟩
  | choose src n k ih => exact fun h k => ⟨h.1, ih _ h.2 k.2⟩
  | call c h g l k ih =>
    rintro Q Q' E E' p s ⟨r, s1, r1, q1⟩ ⟨r2, s2, r3, q2⟩
    obtain ⟨a, rfl⟩ := runs_one r1 r3
    cases a
    exact ⟨r, s1, r1, ih _ q1 q2⟩
  | genState g k ih => rintro Q Q' E E' p s ⟨o, e, h⟩ ⟨o2, e2, h2⟩; rw [e] at e2; cases e2; exact ⟨o, e, ih _ h h2⟩
  | resume g r l k ih =>
    rintro Q Q' E E' p s ⟨r, s1, r1, q1⟩ ⟨r2, s2, r3, q2⟩
    obtain ⟨rfl, rfl⟩ := wakes_one r1 r3
    exact ⟨_, s1, r1, ih _ q1 q2⟩
  | rule _ k ih => exact fun h k => ih _ h k
  | «at» _ k ih => exact fun h k => ih _ h k
  | loadIfAlive _ k ih => exact fun h k => ih _ h k
  | point _ k ih => exact fun h k => ih _ h k
  | alloc _ k ih => exact fun h k => ih _ h k
  | fresh k ih => exact fun h k => ih _ h k
  | ask k ih => exact fun h k => ih _ h k
  | os _ _ k ih => exact fun h k => ih _ h k
  | handled _ k ih => exact fun h k => ih _ h k
  | newGen _ k ih => exact fun h k => ih _ h k
  | stack k ih => exact fun h k => ih _ h k
  | thread k ih => exact fun h k => ih _ h k
  | _ => exact fun h _ => h.elim
theorem wpAny_two {α : Type} {M : Model} {A : Around} {t : Sem α} {Q Q' : α → Shared → Prop} {E E' : Value → Shared → Prop} {s : Shared} (h : wpAny M A t Q E s) (k : wpAny M A t Q' E' s) : wpAny M A t (fun a s => Q a s ∧ Q' a s) (fun e s => E e s ∧ E' e s) s :=
  fun Γ p hΓ => wp_two M Γ t (h Γ p hΓ) (k Γ p hΓ)
end PySem

namespace L2
open PySem PySem.Spec PyProof.Rows PySem.W Builtin Builtin.ObjectAttr
structure ExF (K : PySem.W.Frag) (D : Addr) (n : Str) : Prop where
  sa : findIn K (.ref D) "__setattr__" = some (some (.builtin "object.__setattr__"))
  mr : ∃ cd l, clsIn K D = some cd ∧ cd.mro = List.map Value.ref l ++ vMro ∧ cd.hasDict = true
  no : findIn K (.ref D) n = some none
theorem refuse_v (self : Value) : ∀ l : List Addr, refuseLoop self "__setattr__" (l.map Value.ref ++ vMro) = pure ()
  | [] => PySem.F.store_ValueError.passes self
  | c :: r => by rw [List.map_cons, List.cons_append, refuseLoop_ref]; exact refuse_v self r
section
variable {prog : Program} {w : World} {A : Around} {E : Value → Shared → Prop} {s : Shared} {K : PySem.W.Frag} {x D : Addr} {n : Str} {v : Value} {ox : Obj} {vs : Array Value}
theorem exc_osa {R : Result → Shared → Prop} {tk : Tok} (X : K.In s.heap) (C : ExF K D n) (hx : s.heap.get? x = some ox) (hc : ox.cls = .ref D) (hd : ox.dict = none) (hv : ox.data = .fields vs)
    (h : ∀ h' t, h'.get? x = some { ox with dict := some s.heap.objs.size } → h'.Ns1 s.heap.objs.size (fun y => if y = n then some v else none) → (∀ b o, b ≠ x → s.heap.get? b = some o → h'.get? b = some o) → R (.ok (.ret .none)) { s with heap := h', toks := t }) :
    codeAny (model prog w) A (.call (.builtin "object.__setattr__") ⟨[.ref x, .str n tk, v], []⟩) R s := by
  have SF := PySem.F.store_object
  obtain ⟨cd, l, c1, c2, c3⟩ := C.mr
  have I : PySem.W.InstAt s.heap x ox D none := ⟨hx, hc, by unfold notCls; rw [hv], by rw [hd]; trivial⟩
  have hmo : cd.mro.contains (.type "object") = true := by
    rw [c2]
    exact List.contains_iff_mem.mpr (List.mem_append_right _ (by decide))
  have ne : cd.mro.isEmpty = false := by
    cases q : cd.mro with
    | nil => rw [q] at hmo; cases hmo
    | cons _ _ => rfl
  have sub : Looks (model prog w) s.heap (isInstance (.ref x) (.type "object")) true := I.type.andThen (looks_mroIn X (by unfold mroIn; rw [c1, Option.bind_some, if_neg (by rw [ne]; decide), hmo]))
  have hm : Looks (model prog w) s.heap (mroOf (.ref D)) cd.mro := (looks_clsIn X c1).andThen .now
  refine codeAny_call_builtin SF.slot.plain SF.entry (@check_slot (model prog w) _ _ s "object.__setattr__" "object" "__setattr__" (.ref x) [.str n tk, v] [] _ SF.kind SF.split sub (SF.args (.ref x) (.str n tk) v) ?_)
  rw [osa_eq, refuse_eq]
  refine wpAny_bind (wpAny_bind (I.type.here (wpAny_bind (hm.here ?_))))
  rw [c2, refuse_v]
  refine wpAny_pure (wpAny_bind (I.type.here (wpAny_bind ((looks_findIn X C.no).here (wpAny_bind (Looks.now.here ?_))))))
  show wpAny _ _ (storeInOwnDict (.ref x) (.ref D) (.str n tk) n v false) _ _ _
  obtain ⟨oc, od, oda, osl⟩ := ox
  dsimp only at hc hd hv
  subst hc hd hv
  refine wpAny_bind (wpAny_pure (wpAny_bind (wpAny_bind (wpAny_loadPart hx (wpAny_bind ((looks_clsIn X c1).here ?_))))))
  rw [c3]
  rw [if_neg (by decide)]
  dsimp only
  rw [if_neg (by simp [typeHasDict])]
  have hx1 := Heap.get?_push_of_some ({ cls := .type "dict", data := .dict #[] } : Obj) hx
  have hxs : x ≠ s.heap.objs.size := Nat.ne_of_lt (Heap.lt_size hx)
  refine wpAny_bind (wpAny_alloc' (wpAny_bind (wpAny_update' hx1 (wpAny_pure ?_))))
  generalize hh : (s.heap.push ({ cls := .type "dict", data := .dict #[] } : Obj)).update x (fun o => { cls := o.cls, dict := some s.heap.objs.size, data := o.data, slots := o.slots }) = h1
  have g1 : h1.get? s.heap.objs.size = some ({ cls := .type "dict", data := .dict #[] } : Obj) := by
    rw [← hh]
    exact (Heap.get?_update_ne _ _ _ _ hxs.symm).trans (Heap.get?_push_at rfl rfl)
  have g2 : h1.get? x = some { cls := .ref D, dict := some s.heap.objs.size, data := .fields vs, slots := osl } := by
    rw [← hh]
    exact Heap.get?_update_self _ hx1 rfl
  have g3 : ∀ b o, b ≠ x → s.heap.get? b = some o → h1.get? b = some o := fun b o nb e => by
    rw [← hh]
    exact (Heap.get?_update_ne _ _ _ _ nb).trans (Heap.get?_push_of_some _ e)
  have g4 : h1.Ns s.heap.objs.size (fun _ => none) := ⟨_, #[], _, g1, rfl, fun e he => absurd he (by simp), fun _ => rfl⟩
  show wpAny _ _ (storeInDict s.heap.objs.size (.str n tk) n v) _ _ _
  unfold storeInDict newKeyGuard
  refine wpAny_bind (wpAny_pure (wpAny_bind (wpAny_nsSet1 (Heap.Ns1.of_empty g4) fun h2 n2 sb => ?_)))
  obtain ⟨oD, esD, epD, e1, e2, e3⟩ := n2.count (Within.cons n v Within.nil)
  refine wpAny_bind (wpAny_lookBehind e1 (by rw [e2]; exact pastItsLine_dict (Nat.le_trans e3 (by rw [List.length_cons, List.length_nil, sizeLine_eq]; omega))) ?_)
  exact wpAny_pure (h h2 _ ((sb.2 x hxs).trans g2) n2 fun b o nb e => (sb.2 b (Nat.ne_of_lt (Heap.lt_size e))).trans (g3 b o nb e))
theorem exc_store {Q : Unit → Shared → Prop} (X : K.In s.heap) (C : ExF K D n) (hx : s.heap.get? x = some ox) (hc : ox.cls = .ref D) (hd : ox.dict = none) (hv : ox.data = .fields vs)
    (h : ∀ h' t, h'.get? x = some { ox with dict := some s.heap.objs.size } → h'.Ns1 s.heap.objs.size (fun y => if y = n then some v else none) → (∀ b o, b ≠ x → s.heap.get? b = some o → h'.get? b = some o) → Q () { s with heap := h', toks := t }) :
    wpAny (model prog w) A (setAttr (.ref x) n v) Q E s :=
  set_plain X (⟨hx, hc, by unfold notCls; rw [hv], by rw [hd]; trivial⟩ : PySem.W.InstAt s.heap x ox D none) C.sa (exc_osa (s := { s with toks := s.toks + 1 }) X C hx hc hd hv fun h' t a b c => h h' t a b c)
theorem exc_load {expr : Bool} {dx : Addr} {m : Str → Option Value} {Q : Value → Shared → Prop} (X : K.In s.heap) (G : ExC K D) (C : ExF K D n) (hx : s.heap.get? x = some ox) (hc : ox.cls = .ref D) (hd : ox.dict = some dx) (hv : ox.data = .fields vs) (hn : s.heap.Ns1 dx m) (hm : m n = some v) (hh : handedIn v = true)
    (h : Q v { s with toks := s.toks + 1 }) : wpAny (model prog w) A (getAttr (.ref x) n expr) Q E s := by
  obtain ⟨od, ho, hl⟩ := lookIn_ns hn
  have I : PySem.W.InstAt s.heap x ox D (some od) := ⟨hx, hc, by unfold notCls; rw [hv], by rw [hd]; exact ho⟩
  obtain ⟨cd, l, c1, c2, c3⟩ := C.mr
  have L3 := looks_find (M := model prog w) X I (show findObj K D (some od) n = some (.value v) by
    unfold findObj PySem.W.ownOf
    rw [c1, Option.bind_some, C.no, Option.bind_some]
    dsimp only
    rw [Option.bind_some, Option.bind_some, c3, if_pos rfl, hl, hm]
    rfl)
  clear hx
  obtain ⟨hp, g, d, t, os⟩ := s
  have L0 := I.type (M := model prog w)
  have L1 := looks_findIn (M := model prog w) X G.ga
  have L2 := looks_findIn (M := model prog w) X G.gn
  have L4 := looks_mroIn (M := model prog w) X G.mb
  unfold getAttr getAttrBy
  refine wpAny_bind (wpAny_mkText (wpAny_holding (wpAny_bind (L0.at (wpAny_bind (L1.at ?_))))))
  have hx2 : (Value.builtin "BaseException.__getattribute__" == Value.builtin "object.__getattribute__") = false := by decide +kernel
  simp only [hx2, Bool.and_false, Bool.false_eq_true, if_false]
  unfold getAttrByItsOwn hookBefore
  refine wpAny_bind ?_
  show wpAny _ _ (typeLookup (Value.ref D) (Str.ofString "__getattr__")) _ _ _
  refine L2.at ?_
  have fb : bindSpecial (Value.builtin "BaseException.__getattribute__") (Value.ref x) = pure (Value.builtin "BaseException.__getattribute__", [Value.ref x]) := F.excAttr_ValueError.ga.bind (.ref x)
  have ha := F.args_bexc_ga (.ref x) (Value.str n t)
  have hk' : builtinKind "BaseException.__getattribute__" = some .slot := by decide +kernel
  have hs' : splitId "BaseException.__getattribute__" = some ("BaseException", "__getattribute__") := by decide +kernel
  refine wpAny_bind (wpAny_attempt (wpAny_holding ?_))
  have key : wpAny (model prog w) A (call (Value.builtin "BaseException.__getattribute__") [Value.ref x, Value.str n t]) (fun u s' => u = v ∧ s' = ⟨hp, g, d, t + 1, os⟩) (fun _ _ => False) ⟨hp, g, d, t + 1, os⟩ := by
    refine wpAny_call (codeAny_call_builtin F.excAttr_ValueError.ga.plain F.entry_bexc_ga ?_)
    simp only [checkBuiltinCall, hk', hs']
    refine wpAny_bind ?_
    unfold isInstance
    refine wpAny_bind (L0.at (L4.at ?_))
    repeat (first | assumption | wp_step)
    refine wpAny_loadPart I.at_ (wpAny_pure ?_)
    rw [hc]
    refine wpAny_bind (L3.at ?_)
    exact wpAny_pure ⟨rfl, rfl⟩
  unfold callGetattribute
  rw [if_neg (by simp [onTheHeap])]
  unfold boundAndCalled
  rw [fb]
  refine wpAny_bind (wpAny_pure (wpAny_mono key (fun u s' q => ?_) fun _ _ q => q.elim))
  obtain ⟨rfl, rfl⟩ := q
  dsimp only
  rw [handedOut_of hh]
  exact wpAny_pure h
end
end L2

namespace L2
open PySem PySem.Spec PyProof.Rows PySem.W
noncomputable def nrB (K : Frag) (D B f : Addr) (n : Str) : Bool := match K.lookup D with
  | some o => o.cls == .type "type" && (match o.data, o.slots.toList with
    | .cls cd, [_, _, _, _, some (.builtin i), _] => i == "ValueError.__new__" && !cd.hasDel && cd.hasDict && cd.mro == .ref D :: .ref B :: vMro && tailIn K vMro (.ref B :: vMro) && nsOkIn K cd.ns && nsIn K cd.ns "__init__" == some (some (.ref f))
    | _, _ => false) && findIn K (.ref D) n == some none && findIn K (.ref D) "__setattr__" == some (some (.builtin "object.__setattr__")) && keepIn K (.ref D)
  | none => false
theorem ns_of {K : Frag} {h : Heap} {N : Addr} {n : Str} {v : Value} (X : K.In h) (ok : nsOkIn K N = true) (e : nsIn K N n = some (some v)) : h.Ns N (h.nsMap N) ∧ h.nsMap N n = some v := by
  have G := Heap.Ns.of_isNs (isNs_of_in X ok)
  refine ⟨G, ?_⟩
  obtain ⟨o, es, ep, ho, hd, _, hf⟩ := G
  unfold nsIn at e
  split at e
  · rename_i c d es' n' sl q
    have z := X _ _ q
    rw [ho] at z
    cases z
    cases hd
    rw [← hf n]
    unfold nsFind findBy
    rw [← Array.find?_toList]
    split at e
    · rename_i en he
      rw [he]
      exact Option.some.inj e
    · split at e <;> cases e
  · cases e
section
variable {P : Program} {w : World} {fs ex : List Addr} {H : Hp} {h h' : Heap} {a : Addr} {o : HO}
theorem HOk.no (x : HOk P w H h) (e : h.get? a = none) : H a = none := by
  cases q : H a with
  | none => rfl
  | some u =>
    obtain ⟨ob, z⟩ := x.there q
    rw [e] at z; cases z
theorem Un.new (k : ∀ b u, h.get? b = some u → h'.get? b = some u) (hg : h.get? a = none) (hn : H a = none) : Un fs ex H (upd H a o) h h' where
  keep := fun b u q _ _ _ => k b u q
  slot := fun b u q _ _ _ => ⟨u.slots, k b u q⟩
  free := fun b u q n _ => by rw [upd_ne (fun z => by rw [z, hg] at q; cases q)]; exact n
  there := fun b u q _ => ⟨u, k b u q⟩
  tups := fun b xs q => by rw [upd_ne (ne_of_none q hn)]; exact q
  frzs := fun b u xs q => by rw [upd_ne (ne_of_none q hn)]; exact q
  tbls := fun b ps q => ⟨#[], by rw [upd_ne (ne_of_none q hn), q]; simp⟩
theorem HOk.new (x : HOk P w H h) (k : ∀ b u, h.get? b = some u → h'.get? b = some u) (hg : h.get? a = none) (new : ObjOk P w (upd H a o) h' a o) : HOk P w (upd H a o) h' := fun b u e => by
  have hn := x.no hg
  by_cases hb : b = a
  · subst hb; rw [upd_same] at e; cases e; exact new
  · rw [upd_ne hb] at e
    exact (x b u e).stay (fun c v _ q => k c v q) (fun c q => by rw [upd_ne (ne_of_none q hn)]; exact q) fun c xs q => by rw [upd_ne (ne_of_none q hn)]; exact q
end
structure NRow (K : Frag) (mg : Str → Option Value) (x : Str) (D B f : Addr) (n : Str) : Prop where
  b : mg x = some (.ref D)
  e : nrB K D B f n = true
structure NRH (K : Frag) (h : Heap) (D f : Addr) (n : Str) : Prop where
  ef : ExF K D n
  kp : keepIn K (.ref D) = true
  ob : ∃ (nm q : Str) (N : Addr) (bs bm : List Value) (hdct : Bool) (sn : List Str) (sub : List Value) (ab : Bool) (col : Option Bool) (dd : Option Addr) (k0 k1 k2 k3 k5 : Option Value) (mN : Str → Option Value), h.get? D = some (excClassObj nm q D N bs bm hdct sn sub ab col dd k0 k1 k2 k3 k5 "ValueError.__new__") ∧ h.Ns N mN ∧ mN "__init__" = some (.ref f) ∧ OwnTail h vMro bm
theorem NRow.at {K : Frag} {mg : Str → Option Value} {x n : Str} {D B f : Addr} {h : Heap} (r : NRow K mg x D B f n) (X : K.In h) : NRH K h D f n := by
  have z := r.e
  unfold nrB at z
  split at z
  case h_2 => cases z
  case h_1 o ho =>
    simp only [Bool.and_eq_true, beq_iff_eq] at z
    obtain ⟨⟨⟨⟨z1, z2⟩, z3⟩, z4⟩, z5⟩ := z
    split at z2
    case h_2 => cases z2
    case h_1 cd k0 k1 k2 k3 i k5 hd hs =>
      simp only [Bool.and_eq_true, beq_iff_eq, Bool.not_eq_true'] at z2
      obtain ⟨⟨⟨⟨⟨⟨rfl, hdel⟩, hdic⟩, hm⟩, ht⟩, hok⟩, hi⟩ := z2
      obtain ⟨oc, od, oda, osl⟩ := o
      dsimp only at z1 hd hs
      subst z1 hd
      have es : osl = #[k0, k1, k2, k3, some (.builtin "ValueError.__new__"), k5] := by
        cases osl with | mk l => exact congrArg Array.mk hs
      subst es
      obtain ⟨n1, n2⟩ := ns_of X hok hi
      have hcl : clsIn K D = some cd := by unfold clsIn; rw [ho]
      refine ⟨⟨z4, ⟨cd, [D, B], hcl, hm, hdic⟩, z3⟩, z5, ?_⟩
      obtain ⟨nm, bs, mro, ns, qn, hd, sn, sub, ab, col, del⟩ := cd
      dsimp only at hm hdel hok hi n1 n2
      subst hm hdel
      exact ⟨_, _, _, _, _, _, _, _, _, _, _, _, _, _, _, _, _, X _ _ ho, n1, n2, tail_of_in X ht⟩
section
variable {X : Cx} {pins : List (Addr × Obj)} {σ : St} {H : Hp} {s : Shared} {x n qual : Str} {D B f : Addr} {fd : FuncData} {st : Stmt} {k : Nat} {p1 p2 p3 p4 : Pos}
structure NewX (H : Hp) (s s' : Shared) (e dx D : Addr) : Prop where
  keep : ∀ b o, s.heap.get? b = some o → s'.heap.get? b = some o
  ob : ∃ t, s'.heap.get? e = some { cls := .ref D, dict := some dx, data := .fields #[.ref t, .none, .none, .none, .bool false, .none] }
  ne : s.heap.get? e = none
  nd : s.heap.get? dx = none
  ed : e ≠ dx
  he : H e = none
  hd : H dx = none
theorem exc_make {u : Value} {v : V} {Q : Value → Shared → Prop} {E : Value → Shared → Prop} (R : NRow X.K X.mg x D B f n) (F : Fun X.K "__init__" qual st f fd) (fn : isFn X.K (.ref f) = true) (b : Binds X.K fd ["self", "row"] []) (S : FnScope ["self", "row"] ["self", "row"] (defScope st))
    (hbo : defBody st = [.Assign [.Attribute (.Name "self" p1) n p2] (.Name "row" p3) p4]) (v1 : (defScope st).names.lookup ("self" : Str) = some .local) (v2 : (defScope st).names.lookup ("row" : Str) = some .local) (hr : Room (k + 2) X.A) (I : Inv X pins σ H s) (rv : RelV v u)
    (h : ∀ s' e dx, Inv X pins σ (upd H dx (.xd [(n, v)])) s' → NewX H s s' e dx D → Q (.ref e) s') : wpAny (model X.prog X.w) X.A (call (.ref D) [u]) Q E s := by
  obtain ⟨ef, _, nm, q, N, bs, bm, hdct, sn, sub, ab, col, dd, k0, k1, k2, k3, k5, mN, hC, hn, hi, T⟩ := R.at I.kIn
  obtain ⟨oc, od, kV, doc, pm, an, cdv, ct, osl, rfl, lk, hcd⟩ := F.ex
  have hfo : oc = .type "function" := by
    have z := beq_iff_eq.mp fn
    unfold typeIn at z
    dsimp only at z
    rw [lk] at z
    exact Option.some.inj z
  subst hfo
  obtain ⟨hp, g, d, t, os⟩ := s
  refine exc_initT_call PySem.F.excBase_ValueError T hC hn hi (I.kIn _ _ lk) rfl (fun h1 e hm => ?_) (show 1 ≤ sizeLine by rw [sizeLine_eq]; decide)
  have I1 : Inv X pins σ H ⟨h1, g, d, t, os⟩ := I.kept hm.keeps
  have e0 := I1.env0.make D [u] []
  have hr1 := hr.make D [u] []
  have r2 : Vals [V.ref e, v] [Value.ref e, u] := .cons rfl (.cons rv .nil)
  refine wpAny_call (codeAny_call_function hr1.depth (I1.kIn _ _ lk) rfl S.co S.gen rfl (codeRec_of I1.kIn hcd) (b _ [Value.ref e, u] I1.kIn rfl _ _ _ _ ?_))
  have hkind : ∀ y ∈ List.zip [("self" : Str), "row"] [Value.ref e, u], (defScope st).names.lookup y.1 = some .local ∨ ((defScope st).names.lookup y.1 = some .cell ∧ ((cellsFrom ((⟨h1, g, d, t, os⟩ : Shared).heap.objs.size + 1) (defScope st).names []).lookup y.1).isSome = true) := fun ⟨y, _⟩ hy => by
    rcases S.par y (List.of_mem_zip hy).1 with q | q
    · exact .inl q
    · exact .inr ⟨q, cellsFrom_some _ _ _ (.inl q)⟩
  refine wpAny_newFunctionEnv_cells S.kind hkind fun env he s2 x2 => ?_
  subst he
  refine ⟨I1.nolimit.keeps x2.toInCall.keep, codeAny_func ?_⟩
  have key : ∀ env, execs (defBody st) env = execs [.Assign [.Attribute (.Name "self" p1) n p2] (.Name "row" p3) p4] env := fun env => by rw [hbo]
  show wpAny _ ((X.A.under (.builtin "type.__call__" ⟨[.ref D, u], []⟩)).deeper (envOfC qual (defScope st) h1.objs.size f cdv)) (execs (defBody st) (envOfC qual (defScope st) h1.objs.size f cdv)) _ _ _
  rw [key]
  have n2 := x2.toInCall.ns
  have m1 : bindL (envOfC qual (defScope st) h1.objs.size f cdv).kindOf (List.zip [("self" : Str), "row"] [Value.ref e, u]) (fun _ => none) "self" = some (.ref e) := by
    have w1 : (envOfC qual (defScope st) h1.objs.size f cdv).kindOf "self" = some .local := v1
    have w2 : (envOfC qual (defScope st) h1.objs.size f cdv).kindOf "row" = some .local := v2
    simp only [bindL, List.zip, List.zipWith, w1, w2, if_true]
    rw [if_neg (by decide)]
  have m2 : bindL (envOfC qual (defScope st) h1.objs.size f cdv).kindOf (List.zip [("self" : Str), "row"] [Value.ref e, u]) (fun _ => none) "row" = some u := by
    have w1 : (envOfC qual (defScope st) h1.objs.size f cdv).kindOf "self" = some .local := v1
    have w2 : (envOfC qual (defScope st) h1.objs.size f cdv).kindOf "row" = some .local := v2
    simp only [bindL, List.zip, List.zipWith, w1, w2, if_true]
  refine wpAny_execs_cons (plainObj_wpAny_Assign_Attribute (wpAny_Name (wpAny_loadName_local S.kind v2 n2 m2 (wpAny_Name (wpAny_loadName_local S.kind v1 n2 m1 ?_) (by decide))) (by decide)))
  obtain ⟨tt, he, htn, ht⟩ := hm.there
  have he2 := x2.toInCall.keep _ _ he
  have k12 : ∀ b o, hp.get? b = some o → s2.heap.get? b = some o := fun b o q => x2.toInCall.keep _ _ (hm.keeps _ _ q)
  obtain ⟨h2, tk, es2⟩ := x2.toInCall.same
  refine exc_store (K := X.K) (I.kIn.keeps k12) ef he2 rfl rfl rfl fun h5 t5 g1 g2 g3 => ?_
  refine wpAny_execs_nil ⟨rfl, ?_⟩
  have ne : hp.get? e = none := hm.new
  have k5 : ∀ b o, hp.get? b = some o → h5.get? b = some o := fun b o q => g3 b o (fun z => by rw [z, ne] at q; cases q) (k12 b o q)
  have nd : hp.get? s2.heap.objs.size = none := by
    cases q : hp.get? s2.heap.objs.size with
    | none => rfl
    | some o => exact absurd (Heap.lt_size (k12 _ _ q)) (Nat.lt_irrefl _)
  have ed : e ≠ s2.heap.objs.size := Nat.ne_of_lt (Heap.lt_size he2)
  have Z : HOk X.prog X.w (upd H s2.heap.objs.size (.xd [(n, v)])) h5 := I.hok.new k5 nd ⟨_, g2, fun y => by
    by_cases hy : y = n
    · subst hy
      rw [if_pos rfl, List.lookup_cons_self]
      exact rv
    · rw [if_neg hy]
      show RelO (List.lookup y [(n, v)]) none
      simp only [List.lookup, beq_eq_false_iff_ne.mpr hy]
      exact True.intro⟩
  have J := I.un (t' := t5) (Un.new (o := .xd [(n, v)]) k5 nd (I.hok.no nd)) Z
  subst es2
  exact h _ e _ J ⟨k5, ⟨tt, g1⟩, ne, nd, ed, I.hok.no ne, I.hok.no nd⟩
end
end L2

namespace L2
open PySem PySem.Spec PyProof.Rows PySem.W
section
variable {M : Model} {A : Around} {E : Value → Shared → Prop} {s : Shared} {base : Heap} {env : Env} {outer : List Env} {L e : Addr} {oe : Obj} {vs : Array Value} {Q : Unit → Shared → Prop}
noncomputable def HasTb (h : Heap) (e : Addr) (o : Obj) : Prop := ∃ vs T oT ts, o.data = .fields vs ∧ vs[1]? = some (.ref T) ∧ T ≠ e ∧ h.get? T = some oT ∧ oT.data = .fields ts ∧ 3 < ts.size
theorem dict_map (o : Obj) (f : Array Value → Array Value) : (Obj.mapFields f o).dict = o.dict := by
  unfold Obj.mapFields
  split <;> rfl
theorem entry_dict {head : Value} {nx : Bool} (hfr : A.frames = some (env :: outer)) (hl : s.heap.FunFrames base (env :: outer)) (hf : env.frame = some L) (he : s.heap.get? e = some oe) (hd : oe.data = .fields vs) (hz : 1 < vs.size)
    (q : ∀ s' o', s'.heap.get? e = some o' → o'.dict = oe.dict → HasTb s'.heap e o' → Q () s') :
    wpAny M A (do let a ← frameOf env; let pl ← entryPlaceOf L nx; let b ← EntryCells.newEntry head a .none (rawInt L) .none pl; setField (.ref e) 1 b) Q E s := by
  have nf : e ∉ (env :: outer).filterMap (·.frame) := fun hm => by
    obtain ⟨_, o, ho, hn⟩ := hl.mem hm
    rw [he] at ho; cases ho
    exact hn vs hd
  refine wpAny_bind (wpAny_frameOf_fun hfr hl hf fun h1 so => wpAny_bind (wpAny_entryPlaceOf fun pl hpl => ?_))
  unfold EntryCells.newEntry newFields
  refine wpAny_bind (wpAny_newObj_type ?_ (hpl.sizeOk5 _ _ _ _ _))
  have e1 : h1.get? e = some oe := (so.2.1 e nf).trans he
  generalize ho : (⟨.type "traceback", none, .fields ([head, .ref L, .none, rawInt L, .none] ++ (if pl.isEmpty then List.replicate 6 Value.none else pl)).toArray, #[]⟩ : Obj) = oT
  have e2 : (h1.push oT).get? e = some oe := Heap.get?_push_of_some _ e1
  have eT : (h1.push oT).get? h1.objs.size = some oT := Heap.get?_push_size h1 (by rw [← ho]; rfl)
  have ne : h1.objs.size ≠ e := Nat.ne_of_gt (Heap.lt_size e1)
  have hd3 := Obj.data_mapFields hd (·.setIfInBounds 1 (Value.ref h1.objs.size))
  refine wpAny_setField e2 hd hz (q _ _ (Heap.get?_update_self _ e2 (Obj.isFreed_of_fields hd3)) (dict_map _ _) ⟨_, h1.objs.size, oT, _, hd3, by simp [hz], ne, (Heap.get?_update_other _ _ (Ne.symm ne)).trans eT, by rw [← ho], ?_⟩)
  simp
theorem note_dict (hfr : A.frames = some (env :: outer)) (hl : s.heap.FunFrames base (env :: outer)) (hf : env.frame = some L) (he : s.heap.get? e = some oe) (hd : oe.data = .fields vs)
    (hT : vs[1]? = some .none ∨ ∃ T oT ts, vs[1]? = some (.ref T) ∧ T ≠ e ∧ s.heap.get? T = some oT ∧ oT.data = .fields ts ∧ ts[3]? = some .none)
    (q : ∀ s' o', s'.heap.get? e = some o' → o'.dict = oe.dict → HasTb s'.heap e o' → Q () s') : wpAny M A (noteFrame (.ref e) env) Q E s := by
  unfold noteFrame
  simp only [hf]
  rcases hT with h1 | ⟨T, oT, ts, h1, ne, hg, hdT, h3⟩
  · refine wpAny_bind (wpAny_field he hd h1 ?_)
    rw [if_neg (by decide)]
    exact entry_dict hfr hl hf he hd (Array.getElem?_eq_some_iff.mp h1).1 q
  · refine wpAny_bind (wpAny_field he hd h1 ?_)
    rw [if_pos (show (Value.ref T != Value.none) = true from by simp)]
    refine wpAny_bind (wpAny_field hg hdT h3 ?_)
    rw [if_neg (show ¬ ((Value.none == rawInt L) = true) from by simp [rawInt])]
    refine wpAny_bind (wpAny_setField hg hdT (Array.getElem?_eq_some_iff.mp h3).1 ?_)
    have oth : ∀ b, b ≠ T → (s.heap.update T (Obj.mapFields (·.setIfInBounds 3 Value.none))).get? b = s.heap.get? b := fun b hb => Heap.get?_update_other _ _ (Ne.symm hb)
    exact entry_dict (s := { s with heap := s.heap.update T (Obj.mapFields (·.setIfInBounds 3 Value.none)) }) (base := base) hfr (hl.of_keeps fun b o hb hn => ⟨o, (oth b fun z => by rw [z, hg] at hb; cases hb; exact hn ts hdT).trans hb, rfl⟩) hf ((oth e (Ne.symm ne)).trans he) hd (Array.getElem?_eq_some_iff.mp h1).1 q
theorem flight_dict {fr : Option Addr} (he : s.heap.get? e = some oe) (tb : HasTb s.heap e oe) (q : ∀ s', s'.heap.get? e = some oe → HasTb s'.heap e oe → Q () s') : wpAny M A (setFlight (.ref e) fr) Q E s := by
  obtain ⟨vs, T, oT, ts, hd, h1, ne, hg, hdT, h3⟩ := tb
  unfold setFlight
  refine wpAny_bind (wpAny_field he hd h1 ?_)
  rw [if_pos (show (Value.ref T != Value.none) = true from by simp)]
  refine wpAny_setField hg hdT h3 (q _ ((Heap.get?_update_other _ _ ne).trans he) ⟨vs, T, _, _, hd, h1, ne, Heap.get?_update_self _ hg (Obj.isFreed_of_fields (Obj.data_mapFields hdT _)), Obj.data_mapFields hdT _, by simp [h3]⟩)
theorem leave_dict (hfr : A.frames = some (env :: outer)) (hl : s.heap.FunFrames base (env :: outer)) (hf : env.frame = some L) (he : s.heap.get? e = some oe) (hd : oe.data = .fields vs)
    (hT : vs[1]? = some .none ∨ ∃ T oT ts, vs[1]? = some (.ref T) ∧ T ≠ e ∧ s.heap.get? T = some oT ∧ oT.data = .fields ts ∧ ts[3]? = some .none) :
    wpAny M A (leaving env (.ref e)) (fun _ s' => ∃ o', s'.heap.get? e = some o' ∧ o'.dict = oe.dict) E s := by
  unfold leaving
  exact wpAny_bind (note_dict hfr hl hf he hd hT fun s' o' a b c => flight_dict a c fun s2 a2 _ => ⟨o', a2, b⟩)
theorem fly_tb {base : Heap} {l : List Env} {cls a0 : Value} {h : Heap} (F : Heap.FlyingW base l e cls a0 h) : ∃ oe vs, h.get? e = some oe ∧ oe.data = .fields vs ∧ (vs[1]? = some .none ∨ ∃ T oT ts, vs[1]? = some (.ref T) ∧ T ≠ e ∧ h.get? T = some oT ∧ oT.data = .fields ts ∧ ts[3]? = some .none) := by
  obtain ⟨_, _, _, oe, vs, T, oT, ts, he, _, hd, h1, _, ne, hg, hdT, h3⟩ := F
  exact ⟨oe, vs, he, hd, .inr ⟨T, oT, ts, h1, ne, hg, hdT, h3⟩⟩
end
end L2

namespace L2
open PySem PySem.Spec PyProof.Rows PySem.W
noncomputable def CX2 (P : Program) (w : World) : CXT := fun outer H s E e s' => ∃ ea cls H' o, e = .ref ea ∧ Fly P w outer H s H' ea cls s' ∧ s'.heap.get? ea = some o ∧ E cls o.dict H'
section
variable {P : Program} {w : World} {K : PySem.W.Frag} {mg : Str → Option Value} {base : Heap} {N : List Str} {qual : Str} {scope : Scope} {f : Addr} {cd : Value} {A : Around} {outer : List Env} {s₀ : Shared} {H₀ : Hp} {E : XK}
theorem pass2 : Passes (CX2 P w) (cxOf (CX2 P w) P w K mg base N qual scope f cd A outer s₀ H₀ E) E := by
  rintro pins σ H s e s' I ⟨ea, cls, H', o, rfl, F, ho, hE⟩
  obtain ⟨B, t, hB, fl⟩ := F.fl
  have I' : Inv (cxOf (CX2 P w) P w K mg base N qual scope f cd A outer s₀ H₀ E) pins σ H' s' := I.call' F.os F.un F.hok F.bare fun b z => absurd z (by simp)
  obtain ⟨oe, vs, he, hd, hT⟩ := fly_tb fl
  rw [ho] at he
  cases he
  have w1 : wpAny (model P w) (cxOf (CX2 P w) P w K mg base N qual scope f cd A outer s₀ H₀ E).A (leaving (cxOf (CX2 P w) P w K mg base N qual scope f cd A outer s₀ H₀ E).env (.ref ea)) (fun _ s2 => Fly P w outer H₀ s₀ H' ea cls s2) (fun _ _ => False) s' := by
    refine wpAny_leaves_onW (L := s₀.heap.objs.size) I.ok.frames rfl fl fun h' x1 x2 => ?_
    refine I'.fly rfl (fun b o q hb hn => hB b o q ?_ hn) x1 x2 rfl F.bare rfl
    rcases hb with hb | ⟨o₀, hb⟩
    · exact .inl hb
    · obtain ⟨o', e'⟩ := I.base.there b o₀ hb (fun z => absurd (show b ∈ ([] : List Addr) from z) (by simp))
      exact .inr ⟨o', e'⟩
  have w2 := leave_dict (M := model P w) (E := fun _ _ => False) (L := s₀.heap.objs.size) (s := s') I.ok.frames fl.2.2.1 rfl ho hd hT
  exact wpAny_mono (wpAny_two w1 w2) (fun _ s2 ⟨a, o', b, c⟩ => ⟨ea, cls, H', o', rfl, a, b, by rw [c]; exact hE⟩) fun _ _ z => z.1.elim
theorem leaves2 {pins : List (Addr × Obj)} {σ : St} {H : Hp} {s : Shared} {ea t : Addr} {cls : Value} {dd : Option Addr} (I : Inv (cxOf (CX2 P w) P w K mg base N qual scope f cd A outer s₀ H₀ E) pins σ H s)
    (ho : s.heap.get? ea = some { cls := cls, dict := dd, data := .fields #[.ref t, .none, .none, .none, .bool false, .none] }) (hn : H ea = none) (n0 : s₀.heap.get? ea = none) (hE : E cls dd H) :
    (cxOf (CX2 P w) P w K mg base N qual scope f cd A outer s₀ H₀ E).xe (.ref ea) s := by
  have hin : ∀ env ∈ (cxOf (CX2 P w) P w K mg base N qual scope f cd A outer s₀ H₀ E).stack, ∀ a, env.frame = some a → a ∈ ea :: frs (cxOf (CX2 P w) P w K mg base N qual scope f cd A outer s₀ H₀ E).stack := fun env he b hb => List.mem_cons_of_mem _ (List.mem_filterMap.mpr ⟨env, he, hb⟩)
  have fh := PySem.W.funFrames_hide I.stack hin
  have w1 : wpAny (model P w) (cxOf (CX2 P w) P w K mg base N qual scope f cd A outer s₀ H₀ E).A (leaving (cxOf (CX2 P w) P w K mg base N qual scope f cd A outer s₀ H₀ E).env (.ref ea)) (fun _ s2 => Fly P w outer H₀ s₀ H ea cls s2) (fun _ _ => False) s := by
    refine wpAny_leaving_firstW (L := s₀.heap.objs.size) (a0 := .ref t) I.ok.frames fh rfl ho (fun b o q => PySem.W.of_hideAll _ q) (PySem.W.hideAll_none _ (.head _)) rfl rfl rfl fun h' hL => ?_
    · obtain ⟨k1, ⟨_, _, k2⟩, k3, k4⟩ := hL
      refine I.fly rfl (fun b o q hb hf => PySem.W.hideAll_get _ q ?_) ⟨k1, PySem.W.hideAll_none _ (.head _), k2, k3⟩ k4 rfl I.bare rfl
      intro z
      rcases List.mem_cons.mp z with z | z
      · subst z
        rcases hb with hb | ⟨o₀, hb⟩
        · rw [hn] at hb; cases hb
        · have hb2 : s₀.heap.get? b = some o₀ := hb
          rw [n0] at hb2; cases hb2
      · exact hf z
  have w2 := leave_dict (M := model P w) (E := fun _ _ => False) (L := s₀.heap.objs.size) (s := s) I.ok.frames fh rfl ho rfl (.inl rfl)
  exact wpAny_mono (wpAny_two w1 w2) (fun _ s2 ⟨a, o', b, c⟩ => ⟨ea, cls, H, o', rfl, a, b, by rw [c]; exact hE⟩) fun _ _ z => z.1.elim
end
noncomputable def tRaiseF (D : Addr) (n : Str) (E : XK) (te : TE) : TS := fun _ σ H => te σ H fun v H1 => ∀ dx, H1 dx = none → E (.ref D) (some dx) (upd H1 dx (.xd [(n, v)]))
structure RowC (K : Frag) (mg : Str → Option Value) (x n : Str) (D : Addr) : Prop where
  ex : ∃ (B f : Addr) (fd : FuncData) (qual : Str) (st : Stmt) (p1 p2 p3 p4 : Pos), NRow K mg x D B f n ∧ Fun K "__init__" qual st f fd ∧ isFn K (.ref f) = true ∧ Binds K fd ["self", "row"] [] ∧ FnScope ["self", "row"] ["self", "row"] (defScope st) ∧
    defBody st = [.Assign [.Attribute (.Name "self" p1) n p2] (.Name "row" p3) p4] ∧ (defScope st).names.lookup ("self" : Str) = some .local ∧ (defScope st).names.lookup ("row" : Str) = some .local
  xc : ExC K D
section
variable {X : Cx} {pins : List (Addr × Obj)} {σ : St} {H : Hp} {s : Shared} {x n : Str} {D : Addr} {k : Nat}
theorem RowC.make {u : Value} {v : V} {Q : Value → Shared → Prop} {E : Value → Shared → Prop} (R : RowC X.K X.mg x n D) (hr : Room (k + 2) X.A) (I : Inv X pins σ H s) (rv : RelV v u)
    (h : ∀ s' e dx, Inv X pins σ (upd H dx (.xd [(n, v)])) s' → NewX H s s' e dx D → Q (.ref e) s') : wpAny (model X.prog X.w) X.A (call (.ref D) [u]) Q E s := by
  obtain ⟨B, f, fd, qual, st, p1, p2, p3, p4, N, F, fn, b, S, hbo, v1, v2⟩ := R.ex
  exact exc_make N F fn b S hbo v1 v2 hr I rv h
end
section
variable {M : Model} {A : Around} {E : Value → Shared → Prop} {s : Shared} {env : Env} {C N : Addr} {nm q : Str} {bs bm : List Value} {hdct : Bool} {sn : List Str} {sub : List Value} {ab : Bool} {col : Option Bool} {dd : Option Addr} {k0 k1 k2 k3 k5 : Option Value} {newId : String}
theorem raise_made {x : Sem Value} {Q : Flow → Shared → Prop} (hbase : bm.contains (.type "BaseException") = true) (hh : A.handled = none)
    (h : wpAny M A x (fun v s1 => ∃ e t dx, v = .ref e ∧ s1.heap.get? C = some (excClassObj nm q C N bs bm hdct sn sub ab col dd k0 k1 k2 k3 k5 newId) ∧
      s1.heap.get? e = some { cls := .ref C, dict := dx, data := .fields #[.ref t, .none, .none, .none, .bool false, .none] } ∧ E (.ref e) s1) E s) :
    wpAny M A (raiseStmt env (some x) none) Q E s := by
  have hB : (Value.ref C :: bm).contains (.type "BaseException") = true := by rw [List.contains_cons, hbase, Bool.or_true]
  unfold raiseStmt
  refine wpAny_bind (wpAny_mono h (fun v s1 h1 => ?_) fun _ _ z => z)
  obtain ⟨e, t, dx, rfl, hC, he, hE⟩ := h1
  obtain ⟨hp, g, d, tk, os⟩ := s1
  repeat (first | with_reducible refine wpAny_loadPart_at he ?_ | with_reducible refine wpAny_loadPart_at hC ?_ | (with_reducible refine wpAny_isSubtype_exc hC ?_; rw [hB]) | wp_step)
  exact wpAny_raiseNew_none hh hE
end
section
variable {P : Program} {w : World} {K : PySem.W.Frag} {mg : Str → Option Value} {base : Heap} {N : List Str} {qual : Str} {scope : Scope} {f : Addr} {cd : Value} {A : Around} {outer : List Env} {s₀ : Shared} {H₀ : Hp} {E : XK}
  {x n : Str} {D : Addr} {e : Expr} {np cpos pos : Pos} {te : TE} {k : Nat}
theorem ps_raiseF (R : RowC K mg x n D) (hr : Room (k + 2) (cxOf (CX2 P w) P w K mg base N qual scope f cd A outer s₀ H₀ E).A) (hg : Gl (cxOf (CX2 P w) P w K mg base N qual scope f cd A outer s₀ H₀ E) x) (ha : PE (cxOf (CX2 P w) P w K mg base N qual scope f cd A outer s₀ H₀ E) e te)
    (he : starEach [e] (cxOf (CX2 P w) P w K mg base N qual scope f cd A outer s₀ H₀ E).env = (false, eval e (cxOf (CX2 P w) P w K mg base N qual scope f cd A outer s₀ H₀ E).env) :: starEach [] (cxOf (CX2 P w) P w K mg base N qual scope f cd A outer s₀ H₀ E).env := by rfl) (hdb : (x == ("__debug__" : Str)) = false := by decide) :
    PS (cxOf (CX2 P w) P w K mg base N qual scope f cd A outer s₀ H₀ E) (.Raise (some (.Call (.Name x np) [e] [] cpos)) none pos) (tRaiseF D n E te) := by
  intro pins s σ H DD I h
  obtain ⟨B, g, fd, qu, st, p1, p2, p3, p4, NR, _⟩ := R.ex
  obtain ⟨ef, kp, nm, q0, Nn, bs, bm, hdct, sn, sub, ab, col, dd, k0, k1, k2, k3, k5, mN, hC, hN, hi, T⟩ := NR.at I.ok.mod.kin
  rw [arm_exec_Raise]
  refine wpAny_bind (wpAny_standAt (raise_made (C := D) (nm := nm) (q := q0) (N := Nn) (bs := bs) (bm := bm) (hdct := hdct) (sn := sn) (sub := sub) (ab := ab) (col := col) (dd := dd) (k0 := k0) (k1 := k1) (k2 := k2) (k3 := k3) (k5 := k5) (newId := "ValueError.__new__") (T.hasType PySem.F.excBase_ValueError.hasBase) (I.ok.hd rfl) (wpAny_bind (wpAny_mono ?_ (fun v s3 h3 => wpAny_bind (wpAny_standAt (wpAny_pure h3))) fun _ _ z => z))))
  refine wpAny_Call_Name_kw (ld_glob I hg NR.b ?_ hdb)
  refine PySem.W.callWith_K (h₀ := base) I.ok.mod.kin kp (thn (pa_cons ha pa_nil he cpos pins s σ H (fun vs H1 => match vs with | [v] => ∀ dx, H1 dx = none → E (.ref D) (some dx) (upd H1 dx (.xd [(n, v)])) | _ => False) I h) fun us s1 ⟨vs, H1, I1, r, q⟩ => ⟨I1.kIn, ?_⟩) he rfl
  have key : ∀ {v : V} {u : Value}, RelV v u → (∀ dx, H1 dx = none → E (.ref D) (some dx) (upd H1 dx (.xd [(n, v)]))) → wpAny (model P w) (cxOf (CX2 P w) P w K mg base N qual scope f cd A outer s₀ H₀ E).A (call (.ref D) [u]) (fun v s1 => ∃ e t dx, v = .ref e ∧ s1.heap.get? D = some (excClassObj nm q0 D Nn bs bm hdct sn sub ab col dd k0 k1 k2 k3 k5 "ValueError.__new__") ∧ s1.heap.get? e = some { cls := .ref D, dict := dx, data := .fields #[.ref t, .none, .none, .none, .bool false, .none] } ∧ (cxOf (CX2 P w) P w K mg base N qual scope f cd A outer s₀ H₀ E).xe (.ref e) s1) (cxOf (CX2 P w) P w K mg base N qual scope f cd A outer s₀ H₀ E).xe s1 := fun {v u} rv q => by
    refine RowC.make (X := cxOf (CX2 P w) P w K mg base N qual scope f cd A outer s₀ H₀ E) R hr I1 rv fun s' e dx J nx => ?_
    obtain ⟨t, ho⟩ := nx.ob
    refine ⟨e, t, some dx, rfl, J.bk _ _ hC, ho, leaves2 J ho (by rw [upd_ne nx.ed]; exact nx.he) ?_ (q dx nx.hd)⟩
    cases q0 : s₀.heap.get? e with
    | none => rfl
    | some o =>
      obtain ⟨o', z⟩ := I1.base.there e o q0 (fun z => absurd (show e ∈ ([] : List Addr) from z) (by simp))
      rw [nx.ne] at z; cases z
  cases r with
  | nil => exact False.elim q
  | cons rv r2 =>
    cases r2 with
    | nil => exact key rv q
    | cons _ _ => exact False.elim q
end
section
variable {P : Program} {w : World} {K : PySem.W.Frag} {mg : Str → Option Value} {base : Heap}
noncomputable def CalF (P : Program) (w : World) (K : PySem.W.Frag) (mg : Str → Option Value) (base : Heap) (name : Str) (k : Nat) (ps : List Str) (sp : Sp) : Prop :=
  ∃ f fd, mg name = some (.ref f) ∧ PySem.W.keepIn K (.ref f) = true ∧ Binds K fd ps [] ∧ FnOk P w K mg base (CX2 P w) k f fd ps sp
theorem Fun.okF {x qual : Str} {st : Stmt} {f : Addr} {fd : FuncData} {N ps : List Str} {k : Nat} {sp : Sp} (F : Fun K x qual st f fd) (S : FnScope N ps (defScope st)) (len : ∀ vs H Q E, sp vs H Q E → vs.length = ps.length)
    (hbody : ∀ (cdv : Value) (A : Around) (outer : List Env) (s : Shared) (H : Hp) (vs : List V) (Q : VK) (E : XK), Room k (A.deeper (envOfC qual (defScope st) s.heap.objs.size f cdv)) → sp vs H Q E →
      ∃ t, PSs (cxOf (CX2 P w) P w K mg base N qual (defScope st) f cdv A outer s H E) (defBody st) t ∧ t { nx := fun _ H' => Q .non H', rt := Q } (start N vs) H) : FnOk P w K mg base (CX2 P w) (k + 1) f fd ps sp := by
  obtain ⟨oc, od, kV, doc, pm, an, cdv, ct, osl, rfl, lk, hcd⟩ := F.ex
  exact fn_of lk hcd S len fun A outer s H vs Q E hr hsp => hbody cdv A outer s H vs Q E hr hsp
theorem Def.calF {name : Str} {st : Stmt} {ps : List Str} {k : Nat} {sp : Sp} (d : Def K mg name st ps) (h : ∀ f fd, Fun K name name st f fd → FnOk P w K mg base (CX2 P w) k f fd ps sp) : CalF P w K mg base name k ps sp := by
  obtain ⟨f, fd, hm, F, b⟩ := d
  exact ⟨f, fd, hm, F.kp, b, h f fd F⟩
end
section
variable {X : Cx} {x : Str} {e : Expr} {es : List Expr} {p pos : Pos} {t : TA} {k : Nat} {ps : List Str} {sp : Sp} {E : XK}
theorem pe_cf (c : CalF X.prog X.w X.K X.mg X.base x k ps sp) (hr : Room k X.A) (hg : Gl X x) (hp : Passes (CX2 X.prog X.w) X E) (ha : PA X (e :: es) t) (hdb : (x == ("__debug__" : Str)) = false := by decide)
    (he : starEach (e :: es) X.env = (false, eval e X.env) :: starEach es X.env := by rfl) (hpl : (backTo pos (starEach es X.env)).any (·.1) = false := by rfl) :
    PE X (.Call (.Name x p) (e :: es) [] pos) (tCall sp [] E t) := by
  obtain ⟨f, fd, hm, hk, b, F⟩ := c
  exact pe_call F hr hg hm hk b .nil hp ha hdb he hpl
end
noncomputable abbrev XW2 := St → Value → Option Addr → Hp → Prop
noncomputable def XP2 (X : Cx) (pins : List (Addr × Obj)) (W : XW2) (e : Value) (s' : Shared) : Prop := ∃ ea cls σ' H H' s o, e = .ref ea ∧ Inv X pins σ' H s ∧ Fly X.prog X.w X.stack H s H' ea cls s' ∧ s'.heap.get? ea = some o ∧ W σ' cls o.dict H'
noncomputable abbrev TSX2 := Ends → XW2 → St → Hp → Prop
noncomputable def PSX2 (X : Cx) (st : List Stmt) (t : TSX2) : Prop := ∀ (pins : List (Addr × Obj)) (s : Shared) (σ : St) (H : Hp) (D : Ends) (W : XW2), Inv X pins σ H s → t D W σ H → wpAny (model X.prog X.w) X.A (execs st X.env) (SP X pins D) (XP2 X pins W) s
section
variable {X : Cx} {x y : Str} {e : Expr} {es : List Expr} {p p' pos apos : Pos} {t : TA} {k : Nat} {ps : List Str} {sp : Sp}
theorem px_callF {pins : List (Addr × Obj)} {s : Shared} {σ : St} {H : Hp} {Q : VK} {W : XW2} (c : CalF X.prog X.w X.K X.mg X.base x k ps sp) (hr : Room k X.A) (hg : Gl X x) (ha : PA X.nox (e :: es) t) (I : Inv X pins σ H s) (h : t σ H fun vs H1 => sp vs H1 Q fun cls dd H2 => W σ cls dd H2)
    (hdb : (x == ("__debug__" : Str)) = false := by decide) (he : starEach (e :: es) X.env = (false, eval e X.env) :: starEach es X.env := by rfl) (hpl : (backTo pos (starEach es X.env)).any (·.1) = false := by rfl) :
    wpAny (model X.prog X.w) X.A (eval (.Call (.Name x p) (e :: es) [] pos) X.env) (EP X pins σ Q) (XP2 X pins W) s := by
  obtain ⟨f, fd, hm, hk, b, F⟩ := c
  refine wpAny_Call_Name_kw (ld_glob I hg hm ?_ hdb)
  have hA := wpAny_mono (ha pos pins s σ H _ (I.wish _) h) (fun us s1 q => q) (E' := XP2 X pins W) fun _ _ z => z.elim
  refine PySem.W.callWith_K (h₀ := X.base) I.ok.mod.kin hk (thn hA fun us s1 ⟨vs, H1, I1', r, q⟩ => ⟨I1'.kIn, ?_⟩) he hpl
  have I1 : Inv X pins σ H1 s1 := I1'.unwish
  have r2 : Vals (vs ++ []) (us ++ []) := r.append .nil
  have q' : sp (vs ++ []) H1 Q fun cls dd H2 => W σ cls dd H2 := by rw [List.append_nil]; exact q
  have hl : (us ++ []).length = ps.length := by rw [← r2.length]; exact F.len _ _ _ _ q'
  refine wpAny_call (codeAny_mono (F.run X.A X.stack s1 H1 ⟨us, []⟩ (us ++ []) (vs ++ []) Q _ hr I1.env0 (b s1 us I1.kIn hl) r2 q') fun r s' hq => ?_)
  cases r with
  | error e =>
    obtain ⟨ea, cls, H', o, rfl, Fl, ho, hW⟩ := hq
    exact ⟨ea, cls, σ, H1, H', s1, o, rfl, I1, Fl, ho, hW⟩
  | ok fl =>
    cases fl with
    | ret u => exact I1.after hq
    | next => exact False.elim hq
    | brk => exact False.elim hq
    | cont => exact False.elim hq
noncomputable def tFSet (i : Nat) (sp : Sp) (t : TA) : TSX2 := fun D W σ H => t σ H fun vs H1 => sp vs H1 (fun v H2 => D.nx (σ.set i (some v)) H2) fun cls dd H2 => W σ cls dd H2
theorem psf_set {i : Nat} (c : CalF X.prog X.w X.K X.mg X.base x k ps sp) (hr : Room k X.A) (hg : Gl X x) (ha : PA X.nox (e :: es) t) (hN : X.N.Nodup) (hi : X.N[i]? = some y) (hy : Loc X.env.scope y)
    (hdb : (x == ("__debug__" : Str)) = false := by decide) (he : starEach (e :: es) X.env = (false, eval e X.env) :: starEach es X.env := by rfl) (hpl : (backTo pos (starEach es X.env)).any (·.1) = false := by rfl)
    (hs : swapsWith (.Call (.Name x p) (e :: es) [] pos) (some (.Name y p')) apos.line X.env = pure false := by rfl) (hf : X.fn y = true ∨ X.env.scope.names.lookup y = some .local := by first | exact .inl rfl | exact .inr rfl | assumption) :
    PSX2 X [.Assign [.Name y p'] (.Call (.Name x p) (e :: es) [] pos) apos] (tFSet i sp t) := by
  intro pins s σ H D W I h
  refine wpAny_execs_cons ?_
  refine wpAny_Assign_Name (thn (px_callF c hr hg ha I h hdb he hpl) fun v s1 ⟨z, H1, I1, r1, q1⟩ => ?_) hs
  exact store_ok I1 hN hi hy r1 (fun s2 I2 => wpAny_execs_nil ⟨_, H1, I2, q1⟩) hf
end
end L2

namespace L2
open PySem PySem.Spec PyProof.Rows PySem.W
noncomputable def OfCD (x D : Addr) (dd : Option Addr) (h : Heap) : Prop := ∃ o vs, h.get? x = some o ∧ o.cls = .ref D ∧ o.dict = dd ∧ o.data = .fields vs
theorem OfCD.ofC {x D : Addr} {dd : Option Addr} {h : Heap} (I : OfCD x D dd h) : OfC x D h := let ⟨o, _, e, c, _⟩ := I; ⟨o, e, c⟩
section
variable {X : Cx} {pins : List (Addr × Obj)} {σ : St} {H : Hp} {s : Shared}
theorem Inv.trackD {ea C : Addr} {dd : Option Addr} (I : Inv X pins σ H s) (hn : H ea = none) (ho : OfCD ea C dd s.heap) (n0 : X.s₀.heap.get? ea = none) (nl : ea ≠ X.env.locals) (nc : ∀ x c, X.env.cells.lookup x = some c → c ≠ ea) (np : ∀ p ∈ X.pn ++ pins, p.1 ≠ ea) :
    Inv X pins σ (upd H ea (.ext (OfCD ea C dd))) s := by
  have ne0 : ∀ b o, X.s₀.heap.get? b = some o → b ≠ ea := fun b o q z => by rw [z, n0] at q; cases q
  refine ⟨I.ok, I.os, I.bare, ⟨I.base.keep, I.base.slot, fun b o q n hx => ?_, I.base.there, fun b xs q => ?_, fun b o u q => ?_, fun b ps q => ?_⟩, I.loc, I.cell, ?_, fun x c e => ?_, fun p hp => ?_, ?_, I.len⟩
  · rw [upd_ne (ne0 b o q)]; exact I.base.free b o q n hx
  · have e := I.base.tups b xs q; rw [upd_ne (ne_of_none e hn)]; exact e
  · have e := I.base.frzs b o u q; rw [upd_ne (ne_of_none e hn)]; exact e
  · obtain ⟨m, e⟩ := I.base.tbls b ps q; exact ⟨m, by rw [upd_ne (ne_of_none e hn)]; exact e⟩
  · rw [upd_ne (Ne.symm nl)]; exact I.free
  · rw [upd_ne (nc x c e)]; exact I.freeC x c e
  · obtain ⟨e, n, ne, nf, d⟩ := I.pin p hp
    exact ⟨e, by rw [upd_ne (np p hp)]; exact n, ne, nf, d⟩
  · obtain ⟨o, vs, e, c⟩ := id ho
    exact I.hok.more hn ho ⟨o, e⟩ fun h1 h2 ⟨o1, v1, e1, c1⟩ k => ⟨o1, v1, k o1 e1, c1⟩
end
noncomputable def tTryF (K : PySem.W.Frag) (C : Addr) (i : Nat) (tb : TSX2) (ts : TS) : TS := fun D σ H => tb D (fun σ' cls dd H' => ∃ C0, cls = .ref C0 ∧ PySem.W.exmOne K (.ref C0) (.ref C) = some true ∧ ∀ ea, H' ea = none → ts (unE i D) (σ'.set i (some (.ref ea))) (upd H' ea (.ext (OfCD ea C0 dd)))) σ H
theorem landedF {X : Cx} {pins : List (Addr × Obj)} {σ : St} {H0 H : Hp} {s0 s : Shared} {ea : Addr} {cls : Value} {o : Obj} {E : Value → Shared → Prop} {Q : Shared → Prop} (hst : X.stack = X.env :: X.outer) (hf : X.env.frame = some X.env.locals) (hfn : ∀ x, X.fn x = true) (I0 : Inv X pins σ H0 s0) (F : Fly X.prog X.w X.stack H0 s0 H ea cls s) (ho : s.heap.get? ea = some o)
    (h : ∀ s3 B t, Inv X pins σ H s3 → HB X s0 H s3.heap B → (∀ b o₀, s0.heap.get? b = some o₀ → ∃ o, s3.heap.get? b = some o) → Heap.FlyingW B X.stack ea cls (.ref t) s3.heap → (∃ o', s3.heap.get? ea = some o' ∧ o'.dict = o.dict) → Q s3) :
    wpAny (model X.prog X.w) X.A (noteFrame (.ref ea) X.env) (fun _ s2 => wpAny (model X.prog X.w) X.A (setFlight (.ref ea) none) (fun _ s3 => Q s3) E s2) E s := by
  have w1 := landed (E := fun _ _ => False) (Q := fun s3 => ∃ B t, Inv X pins σ H s3 ∧ HB X s0 H s3.heap B ∧ (∀ b o₀, s0.heap.get? b = some o₀ → ∃ o, s3.heap.get? b = some o) ∧ Heap.FlyingW B X.stack ea cls (.ref t) s3.heap) hst hf hfn I0 F fun s3 B t a b c d => ⟨B, t, a, b, c, d⟩
  obtain ⟨B, t, hB, fl⟩ := F.fl
  obtain ⟨oe, vs, he, hd, hT⟩ := fly_tb fl
  rw [ho] at he
  cases he
  have fr := fl.2.2.1
  rw [hst] at fr
  have w2 : wpAny (model X.prog X.w) X.A (noteFrame (.ref ea) X.env) (fun _ s2 => wpAny (model X.prog X.w) X.A (setFlight (.ref ea) none) (fun _ s3 => ∃ o', s3.heap.get? ea = some o' ∧ o'.dict = o.dict) (fun _ _ => False) s2) (fun _ _ => False) s :=
    note_dict (by rw [I0.ok.frames, hst]) fr hf ho hd hT fun s' o' a b c => flight_dict a c fun s2 a2 _ => ⟨o', a2, b⟩
  refine wpAny_mono (wpAny_two w1 w2) (fun _ s2 ⟨a, b⟩ => ?_) fun _ _ z => z.1.elim
  exact wpAny_mono (wpAny_two a b) (fun _ s3 ⟨⟨B, t, c1, c2, c3, c4⟩, d⟩ => h s3 B t c1 c2 c3 c4 d) fun _ _ z => z.1.elim
theorem lands_againF {M : Model} {A : Around} {E : Value → Shared → Prop} {s : Shared} {base : Heap} {l : List Env} {e : Addr} {cls a0 : Value} {o : Obj} {Q : Unit → Shared → Prop} (hh : Heap.FlyingW base l e cls a0 s.heap) (ho : s.heap.get? e = some o)
    (hQ : ∀ h', Heap.FlyingW base l e cls a0 h' → s.heap.UpToSlots h' → h'.get? e = some o → Q () { s with heap := h' }) : wpAny M A (setFlight (.ref e) none) Q E s := by
  have w1 := lands_againW (M := M) (A := A) (E := fun _ _ => False) (Q := fun _ s' => ∃ h', s' = { s with heap := h' } ∧ Heap.FlyingW base l e cls a0 h' ∧ s.heap.UpToSlots h') hh fun h' a b => ⟨h', rfl, a, b⟩
  have tb : HasTb s.heap e o := by
    obtain ⟨_, _, _, oe, vs, T, oT, ts, he, _, hd, h1, _, ne, hg, hdT, h3⟩ := hh
    rw [ho] at he
    cases he
    exact ⟨vs, T, oT, ts, hd, h1, ne, hg, hdT, (Array.getElem?_eq_some_iff.mp h3).1⟩
  have w2 := flight_dict (M := M) (A := A) (E := fun _ _ => False) (fr := none) (Q := fun _ s' => s'.heap.get? e = some o) ho tb fun s' a _ => a
  refine wpAny_mono (wpAny_two w1 w2) (fun _ s' ⟨⟨h', e1, a, b⟩, c⟩ => ?_) fun _ _ z => z.1.elim
  subst e1
  exact hQ h' a b c
section
variable {X : Cx} {body : List Stmt} {tb : TSX2} {ts : TS} {b₀ : Stmt} {suite : List Stmt} {c n : Str} {C : Addr} {i : Nat} {np hpos pos : Pos}
theorem ps_tryF (hxe : X.xe = fun _ _ => False) (hst : X.stack = X.env :: X.outer) (hf : X.env.frame = some X.env.locals) (hfn : ∀ x, X.fn x = true) (hex : X.ex = []) (hfr : ∀ ea, (X.A.mark (some (.ref ea))).frames = X.A.frames) (hN : X.N.Nodup) (hi : X.N[i]? = some n) (hl : X.env.scope.names.lookup n = some .local) (hg : Gl X c) (hc : X.mg c = some (.ref C))
    (hb : PSX2 X body tb) (hs : ∀ ea, PSs (X.inH ea) (b₀ :: suite) ts) (hdb : (c == ("__debug__" : Str)) = false := by decide) :
    PS X (.Try body [.ExceptHandler (some (.Name c np)) (some n) (b₀ :: suite) hpos] [] [] pos) (tTryF X.K C i tb ts) := by
  intro pins s σ H D I h
  refine wpAny_Try_except (wpAny_mono (hb pins s σ H D _ I h) (fun f s1 q => ?_) fun e s1 hx => ?_)
  · cases f with
    | next => exact wpAny_execs_nil q
    | brk => exact q
    | cont => exact q
    | ret u => exact q
  · obtain ⟨ea, cls, σ', H0, H', s0, o, rfl, I0, F, ho, C0, rfl, hm, hw⟩ := hx
    refine landedF hst hf hfn I0 F ho fun s3 B t I3 hB3 th3 fl3 d3 => ?_
    have I3h : Inv (X.inH ea) pins σ' H' s3 := I3.inH ea (hfr ea)
    have hcf : ∀ x c, X.env.cells.lookup x = some c → c ∉ X.fs := fun x c e z => by
      obtain ⟨_, o, ho, _⟩ := I0.ok.funs.mem z
      exact absurd (Nat.lt_of_lt_of_le (Heap.lt_size ho) (I0.ok.cab x c (hfn x) e)) (Nat.lt_irrefl _)
    have nfe : ea ∉ frs X.stack := fun z => by
      obtain ⟨_, o, ho, hd⟩ := fl3.2.2.1.mem z
      obtain ⟨oe, vs, he, _, hde, _⟩ := fl3.first
      rw [he] at ho; cases ho
      exact hd vs hde
    have n00 : ∀ o, s0.heap.get? ea ≠ some o := fun o q => by
      obtain ⟨u, hu⟩ := th3 ea o q
      have := hB3 ea u hu (.inr ⟨o, q⟩) nfe
      rw [fl3.2.1] at this; cases this
    have n0 : X.s₀.heap.get? ea = none := by
      cases q : X.s₀.heap.get? ea with
      | none => rfl
      | some o =>
        obtain ⟨u, hu⟩ := I0.base.there ea o q (by rw [hex]; simp)
        exact absurd hu (n00 u)
    have hne : H' ea = none := by
      cases q : H' ea with
      | none => rfl
      | some o =>
        obtain ⟨u, hu⟩ := I3.hok.there q
        have := hB3 ea u hu (.inl (by rw [q]; rfl)) nfe
        rw [fl3.2.1] at this; cases this
    refine wpAny_handleBy_cons (codeAny_handlers_test ?_) (by intro z; cases z)
    refine ld_glob (X := X.inH ea) I3h hg hc ?_ hdb
    obtain ⟨oe, hoe, hce⟩ := fl3.there
    have ofc : OfC ea C0 s3.heap := ⟨oe, hoe, hce⟩
    refine (PySem.W.exm_one I3.kIn ofc.ty hm).here ?_
    show codeAny _ _ (.handlers (.ref ea) [.ExceptHandler none (some n) (b₀ :: suite) hpos] X.env) _ _
    refine codeAny_handlers_suite_as ?_
    obtain ⟨o3, ho3, hd3⟩ := d3
    refine lands_againF fl3 ho3 fun h6 fl6 us6 ho6 => ?_
    have I6 : Inv X pins σ' H' { s3 with heap := h6 } := Inv.move I0 I3 hcf hB3 fl6.1 us6
    have od : OfCD ea C0 o.dict h6 := by
      obtain ⟨oe6, vs6, he6, hc6, hv6, _⟩ := fl6.first
      rw [ho6] at he6
      cases he6
      exact ⟨o3, vs6, ho6, hc6, hd3, hv6⟩
    have I6t : Inv X pins σ' (upd H' ea (.ext (OfCD ea C0 o.dict))) { s3 with heap := h6 } := I6.trackD hne od n0 (fun z => nfe (by rw [hst, z]; unfold frs; rw [List.filterMap_cons, hf]; exact List.mem_cons_self)) (fun x c e z => by
        obtain ⟨v, o, ho, _⟩ := I0.cell x c e
        exact n00 o (z ▸ ho)) (fun p hp z => by
        obtain ⟨e, _⟩ := I0.pin p hp
        exact n00 p.2 (z ▸ e))
    refine store_ok (X := X.inH ea) (I6t.inH ea (hfr ea)) hN hi (.inl hl) (v := .ref ea) rfl (fun s7 I7 => ?_) (.inr hl)
    have hS := hs ea pins s7 _ _ (unE i D) I7 (hw ea hne)
    refine wpAny_mono hS (fun f s8 q => ?_) fun e s8 z => ?_
    · have go : ∀ {σ8 : St} {H8 : Hp}, Inv (X.inH ea) pins σ8 H8 s8 → ∀ {R : Flow → Shared → Prop}, (∀ s9, Inv X pins (σ8.set i none) H8 s9 → R f s9) → wpAny (model X.prog X.w) X.A (do bindName X.env n .none; unbindBehindTheSuite X.env n hpos) (fun _ s9 => R f s9) X.xe s8 := fun I8 _ k => unset_ok (I8.outH I.ok.hd (hfr ea)) hN hi hl fun s9 I9 => k s9 I9
      cases f with
      | next => obtain ⟨σ8, H8, I8, q⟩ := q; exact go I8 fun s9 I9 => ⟨_, H8, I9, q⟩
      | brk => obtain ⟨σ8, H8, I8, q⟩ := q; exact go I8 fun s9 I9 => ⟨_, H8, I9, q⟩
      | cont => obtain ⟨σ8, H8, I8, q⟩ := q; exact go I8 fun s9 I9 => ⟨_, H8, I9, q⟩
      | ret u => obtain ⟨v, σ8, H8, I8, r, q⟩ := q; exact go I8 fun s9 I9 => ⟨v, _, H8, I9, r, q⟩
    · have z : X.xe e s8 := z
      rw [hxe] at z
      exact z.elim
end
noncomputable def tXFld (K : PySem.W.Frag) (te : TE) (n : Str) : TE := fun σ H Q => te σ H fun x H1 => ∃ ea D dx v, x = .ref ea ∧ H1 ea = some (.ext (OfCD ea D (some dx))) ∧ H1 dx = some (.xd [(n, v)]) ∧ ExC K D ∧ ExF K D n ∧ Q v H1
section
variable {X : Cx} {e : Expr} {n x : Str} {D : Addr} {p pos cpos : Pos} {te : TE} {k : Nat}
theorem xd_get {K : PySem.W.Frag} {A : Around} {E : Value → Shared → Prop} {s : Shared} {prog : Program} {w : World} {a dx : Addr} {o : Obj} {vs : Array Value} {v : V} {b : Bool} {H : Hp} {Q : Value → Shared → Prop} (KX : K.In s.heap) (G : ExC K D) (C : ExF K D n) (ho : s.heap.get? a = some o) (hc : o.cls = .ref D) (hd : o.dict = some dx) (hv : o.data = .fields vs)
    (hx : ObjOk prog w H s.heap dx (.xd [(n, v)])) (h : ∀ u, RelV v u → Q u { s with toks := s.toks + 1 }) : wpAny (model prog w) A (getAttr (.ref a) n b) Q E s := by
  obtain ⟨mA, hn, r⟩ := hx
  obtain ⟨u, hu, ru⟩ := RelO.some_of (v := v) (o := mA n) (by have := r n; rw [List.lookup_cons_self] at this; exact this)
  exact exc_load KX G C ho hc hd hv hn hu (handed_of ru) (h u ru)
theorem pe_xfld {K' : PySem.W.Frag} (hK : X.K = K') (he : PE X e te) (hb : attributeBase e n X.env (eval e X.env) = eval e X.env := by rfl) : PE X (.Attribute e n pos) (tXFld K' te n) := by
  subst hK
  intro pins s σ H Q I h
  refine attr_of hb (thn (he pins s σ H _ I h) fun u s1 ⟨y, H1, I1, ry, ea, D, dx, v, ex, h1, h2, G, C, q⟩ => ?_)
  subst ex
  obtain rfl : u = Value.ref ea := ry
  obtain ⟨⟨o, vs, ho, hc, hd, hv⟩, _⟩ := I1.hok ea _ h1
  exact xd_get I1.kIn G C ho hc hd hv (I1.hok dx _ h2) fun u ru => ⟨v, H1, I1.tok _, ru, q⟩
end
section
variable {X : Cx} {x : Str} {e : Expr} {es : List Expr} {p pos apos : Pos} {t : TA} {k : Nat} {ps : List Str} {sp : Sp}
theorem call_isF : CallR X (.builtin "isinstance") (fun xs H Q => ∃ ea C0 c u cd b, xs = [.ref ea, c] ∧ (∃ dd, H ea = some (.ext (OfCD ea C0 dd))) ∧ ExC X.K C0 ∧ PySem.W.clsIn X.K C0 = some cd ∧ ((∃ C, c = .ref C ∧ u = Value.ref C) ∨ (∃ T, c = .ty T ∧ u = Value.type T)) ∧ PySem.W.kitOne X.K (.ref C0) u = some b ∧ Q (.bl b) H) := by
  intro pins s σ H xs us Q I r h
  obtain ⟨ea, C0, c, u, cd, b, rfl, ⟨dd, he⟩, ec, hcd, hc, hk, q⟩ := h
  obtain ⟨v1, v2, rfl, r1, r2⟩ := vals2 r
  cases (show v1 = Value.ref ea from r1)
  have e2 : v2 = u := by
    rcases hc with ⟨C, rfl, rfl⟩ | ⟨T, rfl, rfl⟩
    · exact r2
    · exact r2
  subst e2
  exact PySem.W.kia_one (kitx_exc ec hcd) I.kIn (I.hok ea _ he).1.ofC hk (fun z => nomatch z) fun tk => ⟨.bl b, H, I.tok tk, rfl, q⟩
end
end L2

namespace My
open PySem PySem.Spec PyProof.Rows L2
noncomputable abbrev GSf := List Vl → Nat → (PyData → Nat → Prop) → (Int → Nat → Prop) → Prop
noncomputable def liftF (D : Addr) (sp : GSf) : Sp := fun vs H Q E => ∃ (S : Src) (ex : List Addr) (as : List Vl) (n : Nat) (P : PyData → Nat → Prop) (X : Int → Nat → Prop), ArgsR S ex H as vs ∧ (∀ a ∈ S.ch, a ∈ ex) ∧ Alc ex H ∧ S.inv n H ∧ sp as n P X ∧ (∀ d n' v H', P d n' → Step S n' H H' → Rep ex H' d v → Q v H') ∧ ∀ r n' H' dx, X r n' → Step S n' H H' → H' dx = some (.xd [("row", .int r)]) → E (.ref D) (some dx) H'
noncomputable def atE (E : XK) (r : Int) : XK := fun cls _ H' => ∀ dx, H' dx = some (.xd [("row", .int r)]) → E cls (some dx) H'
noncomputable abbrev gSetF (i : Nat) (E : XK) (D : Addr) (sp : GSf) (ga : GA) : GS := fun G env n => ga env n fun as n1 => sp as n1 (fun d n2 => G.nx (env.set i (.d d)) n2) fun r n2 => G.xc (atE E r) D n2
noncomputable instance (priority := high) sv_setF {i : Nat} {D : Addr} {sp : GSf} {E : XK} {t : TA} {gt : GA} [T : AV true t gt] : SV (tAsg (tCall (liftF D sp) [] E t) (gName i)) (gSetF i E D sp gt) := ⟨fun {C G DD} O {ex env σ H n} A h =>
  T.av A.ev h fun as n1 vs H1 h1 s1 r1 => by
    rw [List.append_nil]
    exact ⟨C.S, ex, as, n1, _, _, r1, A.ev.ch, (A.step s1).ev.al, s1.2, h1, fun d n' v H' p s2 r => O.nx ((A.step (s1.trans s2)).put r) p, fun c n' H' dx x s2 hdx => O.xc (A.step (s1.trans s2)).kp s2.2 x dx hdx⟩⟩
noncomputable abbrev gRaiseF (D : Addr) (E : XK) (g : GE) : GS := fun G env n => g env n fun d n1 => match d with
  | .int r => G.xc (atE E r) D n1
  | _ => False
noncomputable instance sv_raiseF {D : Addr} {E : XK} {te : TE} {g : GE} [T : EV false te g] : SV (tRaiseF D "row" E te) (gRaiseF D E g) := ⟨fun {C G DD} O {ex env σ H n} A h =>
  T.ev A.ev h fun d n1 v H1 h1 s1 r1 dx hdx => by
    cases r1 with
    | int r =>
      have s2 : Step C.S n1 H1 (upd H1 dx (.xd [("row", .int r)])) := Step.new s1.2 (Kp.new hdx _)
      exact O.xc (A.step (s1.trans s2)).kp s2.2 h1 dx upd_same
    | _ => exact h1.elim⟩
noncomputable def endsF (E : XK) (D : Addr) (P : PyData → Nat → Prop) (X : Int → Nat → Prop) : VEnds := { nx := fun _ n => P .none n, rt := P, rtn := fun ds n => P (.list ds) n, xc := fun E' c n => ∃ r, E' = atE E r ∧ c = D ∧ X r n }
theorem lift_bodyF {D : Addr} {sp : GSf} {gs : GS} {ts : TS} {N : List Str} {vs : List V} {H : Hp} {Q : VK} {E : XK} [T : SV ts gs] (h : liftF D sp vs H Q E) (hs : ∀ as n P X, sp as n P X → as.all plainA = true ∧ gs (endsF E D P X) (envOf N as) n) : ts { nx := fun _ H' => Q .non H', rt := Q } (L2.start N vs) H := by
  obtain ⟨S, ex, as, n, P, X, r, hc, al, iv, p, q, qx⟩ := h
  obtain ⟨hp, g⟩ := hs as n P X p
  refine T.sv (C := ⟨S, ex, H, []⟩) (G := endsF E D P X) ⟨fun {ex' env σ H' n'} A h => ?_, fun _ h => h.elim, fun _ h => h.elim, fun R h => ?_, fun {ds n' a H'} R h => ?_, fun {E' c n' H'} kp iv' h => ?_, fun {ps n' a H'} R h => h.elim⟩ (at_start r hp hc al iv) g
  · exact q _ _ _ _ h ⟨A.kp, A.ev.inv⟩ .none
  · exact q _ _ _ _ h ⟨R.kp, R.inv⟩ R.r
  · obtain ⟨ws, h1, h2, h3⟩ := R.r
    exact q _ _ _ _ h ⟨R.kp, R.inv⟩ (.list h1 (al.nm R.fr) h2 (Reps.sub h3))
  · obtain ⟨r, rfl, rfl, x⟩ := h
    exact fun dx hdx => qx r n' H' dx x ⟨kp, iv'⟩ hdx
theorem lift_lenF {D : Addr} {sp : GSf} {k : Nat} (h : ∀ as n P X, sp as n P X → as.length = k) : ∀ vs H Q E, liftF D sp vs H Q E → vs.length = k := fun vs H Q E ⟨S, ex, as, n, P, X, r, _, _, _, p, _, _⟩ => by rw [← r.len]; exact h _ _ _ _ p
noncomputable abbrev GBF := (List Vl → Nat → Prop) → (Int → Nat → Prop) → List Vl → Nat → Prop
class BF (D : outParam Addr) (tb : TSX2) (gb : outParam GBF) : Prop where
  bx : ∀ {C : Cv} {DD : Ends} {W : XW2} {nx : List Vl → Nat → Prop} {xr : Int → Nat → Prop} {ex : List Addr} {env : List Vl} {σ : L2.St} {H : Hp} {n : Nat}, (∀ {ex env σ H n}, At C ex env σ H n → nx env n → DD.nx σ H) → (∀ {r : Int} {n' : Nat} {H' : Hp} {dx : Addr}, At C ex env σ H' n' → H' dx = some (.xd [("row", .int r)]) → xr r n' → W σ (.ref D) (some dx) H') → At C ex env σ H n → gb nx xr env n → tb DD W σ H
noncomputable instance bf_set {D : Addr} {i : Nat} {sp : GSf} {t : TA} {gt : GA} [T : AV true t gt] : BF D (tFSet i (liftF D sp) t) (fun nx xr env n => gt env n fun as n1 => sp as n1 (fun d n2 => nx (env.set i (.d d)) n2) xr) := ⟨fun {C DD W nx xr ex env σ H n} hn hx A h =>
  T.av A.ev h fun as n1 vs H1 h1 s1 r1 => ⟨C.S, ex, as, n1, _, _, r1, A.ev.ch, (A.step s1).ev.al, s1.2, h1, fun d n' v H' p s2 r => hn ((A.step (s1.trans s2)).put r) p, fun r n' H' dx x s2 hdx => hx (A.step (s1.trans s2)) hdx x⟩⟩
noncomputable def rowFl : List Bool := [false, false, false, false, false, false, false, false, true, true]
noncomputable def spKindsF (z : Er) : Sp := fun vs H Q _ => ∃ (ea : Addr), vs = [.ref ea] ∧ (∃ dd, H ea = some (.ext (OfCD ea z.row dd))) ∧ ∀ l H', Kp [] H H' → H l = none → H' l = some (.lst (rowFl.map V.bl)) → Q (.ref l) H'
noncomputable def spWordF : Sp := fun vs H Q _ => ∃ (l : Addr), vs = [.ref l] ∧ H l = some (.lst (rowFl.map V.bl)) ∧ ∀ H', Kp [] H H' → Q (.str "row") H'
noncomputable def gsWordF : GSp := fun as n Q => as = [.d (.list (rowFl.map .bool))] ∧ Q (.str "row") n
noncomputable instance scal_wordF : Scal gsWordF := ⟨fun {as n P} h => ⟨h.1, rfl, h.2⟩⟩
theorem imp_wordF : ∀ (vs : List V) (H : Hp) (Q : VK) (E : XK), liftV gsWordF vs H Q E → spWordF vs H Q E := fun vs H Q E h => by
  obtain ⟨S, ex, as, n, P, r, hc, al, iv, ⟨rfl, q⟩, k⟩ := h
  obtain ⟨u, rfl, ⟨u', eu, ru⟩⟩ := args1 r
  cases eu
  cases ru with
  | list e m z rs =>
    cases Reps.bools_inv rs
    exact ⟨_, rfl, e, fun H' kp => k _ _ _ _ q (Step.new iv kp) (.str _)⟩
noncomputable abbrev gTryF (K K2 : PySem.W.Frag) (z : Er) (c : Addr) (i m j : Nat) (gb : GBF) : GS := fun G env n => (decide (i ≠ m) && decide (i ≠ j) && decide (m ≠ j) && decide (i < env.length)) = true ∧ PySem.W.exmOne K (.ref z.row) (.ref c) = some true ∧ ExC K2 z.row ∧ ExF K2 z.row "row" ∧
  gb G.nx (fun r n2 => G.nx (((env.set m (.own (rowFl.map .bool))).set j (.d (.int r))).set i .jnk) n2) env n
noncomputable instance sv_tryF {K K2 : PySem.W.Frag} {z : Er} {c : Addr} {i m j : Nat} {tb : TSX2} {gb : GBF} {E' : XK} [B : BF z.row tb gb] : SV (tTryF K c i tb (tSeq (tAsg (tCall (spKindsF z) [] E' (tCons (tVar i) tNil)) (gName m)) (tAsg (tXFld K2 (tVar i) "row") (gName j)))) (gTryF K K2 z c i m j gb) := ⟨fun {C G D} O {ex env σ H n} A h => by
  obtain ⟨hb, hx, xc, xf, h⟩ := h
  simp only [Bool.and_eq_true, decide_eq_true_eq] at hb
  obtain ⟨⟨⟨him, hij⟩, hmj⟩, hil⟩ := hb
  have hiσ : i < σ.length := Nat.lt_of_lt_of_le hil A.ev.len
  refine B.bx (fun A' h' => O.nx A' h') (fun {r n' H' dx} A2 hdx x => ?_) A h
  refine ⟨z.row, rfl, hx, fun ea hea => ⟨_, List.getElem?_set_self hiσ, ea, rfl, ⟨some dx, upd_same⟩, fun l H3 k3 hl hl' => ?_⟩⟩
  have k4 : Kp [] H' H3 := (Kp.new hea _).trans k3
  have ned : dx ≠ ea := fun e => by rw [e, hea] at hdx; cases hdx
  have hl0 : H' l = none := by
    have : l ≠ ea := fun e => by rw [e, upd_same] at hl; cases hl
    rw [upd_ne this] at hl
    exact hl
  have e1 : ((σ.set i (some (.ref ea))).set m (some (.ref l)))[i]? = some (some (.ref ea)) := by
    rw [List.getElem?_set_ne (Ne.symm him), List.getElem?_set_self hiσ]
  refine ⟨_, e1, ea, z.row, dx, .int r, rfl, k3 _ _ upd_same (by simp), k4 _ _ hdx (by simp), xc, xf, ?_⟩
  have A3 := A2.own (i := m) (ds := rowFl.map .bool) (Step.new A2.ev.inv k4) hl0 hl' (small4 (Nat.le_of_ble_eq_true rfl)) (reps_bools _)
  have A4 := (A3.put (i := j) (d := .int r) (.int r)).jnkS i none
  have e : (((σ.set i (some (.ref ea))).set m (some (.ref l))).set j (some (.int r))).set i none = ((σ.set m (some (.ref l))).set j (some (.int r))).set i none := by
    rw [List.set_comm _ _ him, List.set_comm _ _ hij, List.set_set]
  show D.nx ((((σ.set i (some (.ref ea))).set m (some (.ref l))).set j (some (.int r))).set i none) H3
  rw [e]
  exact O.nx A4 x⟩
end My

namespace My
open PySem PySem.Spec PyProof.Rows L2
open PySem.StrLaws PySem.Builtin.Str
theorem str_ext {a b : Str} (h : a.cps.toList = b.cps.toList) : a = b := Str.ext' (Array.toList_inj.mp h)
theorem starts_minus (z : Str) : Txt.startswith z "-" = (match z.cps.toList with | c :: _ => decide (c = 45) | [] => false) := by
  unfold Txt.startswith
  rw [subAt_eq]
  have e1 : ("-" : Str).length = 1 := rfl
  have e2 : ("-" : Str).cps.toList = [45] := rfl
  rw [e1, e2, List.drop_zero, ← len_list z]
  cases z.cps.toList with
  | nil => rfl
  | cons c r =>
    show (decide (0 + 1 ≤ (c :: r).length) && ([c] == [45])) = decide (c = 45)
    rw [decide_eq_true (by simp), Bool.true_and]
    by_cases h : c = 45
    · subst h; rfl
    · rw [decide_eq_false h]
      exact beq_eq_false_iff_ne.mpr fun e => h (List.cons.inj e).1
theorem slice_from (z : Str) (n : Nat) : (Txt.slice z (some (n : Int)) none).cps.toList = z.cps.toList.drop n := by
  have zl := len_list z
  by_cases h : n ≤ z.cps.toList.length
  · have e : Txt.slice z (some (n : Int)) none = ⟨((z.cps.toList.drop (n : Int).toNat).take ((z.cps.toList.length : Int) - (n : Int)).toNat).toArray⟩ := StrLaws.sliceText_from (x := z) (i := (n : Int)) ⟨by omega, by omega⟩
    rw [e]
    show (z.cps.toList.drop (n : Int).toNat).take ((z.cps.toList.length : Int) - (n : Int)).toNat = _
    rw [Int.toNat_natCast, List.take_of_length_le (by rw [List.length_drop]; omega)]
  · rw [slice_from_beyond (by omega), List.drop_eq_nil_of_le (by omega)]
noncomputable def figL (l : List Nat) : List Nat := match l with
  | 45 :: r => r
  | l => l
theorem figS_list (z : Str) : (figS z).cps.toList = figL z.cps.toList := by
  unfold figS
  rw [starts_minus]
  cases h : z.cps.toList with
  | nil => exact h
  | cons c r =>
    by_cases hc : c = 45
    · subst hc
      rw [if_pos (by rfl)]
      have := slice_from z 1
      rw [h] at this
      exact this
    · dsimp only
      rw [if_neg (by rw [decide_eq_false hc]; decide), h]
      unfold figL
      split
      · rename_i e; exact absurd (List.cons.inj e).1 hc
      · rfl
noncomputable def figB (c : Nat) : Bool := decide (48 ≤ c) && decide (c < 58)
noncomputable def isNumB (z : Str) : Bool := decide (1 ≤ (figS z).length) && decide ((figS z).length ≤ 100) && (figS z).cps.toList.all figB && (!decide ((figS z).cps.toList.headD 48 = 48) || decide (z = "0"))
noncomputable def numV (z : Str) : Int := (intText? z).getD 0
theorem num_int {z : Str} (h : isNumB z = true) : intText? z = some (numV z) ∧ numS (numV z) = z ∧ z.length ≤ 101 := by
  unfold isNumB at h
  simp only [Bool.and_eq_true, decide_eq_true_eq, Bool.or_eq_true, Bool.not_eq_true', decide_eq_false_iff_not] at h
  obtain ⟨⟨⟨h1, h2⟩, h3⟩, h4⟩ := h
  rw [← len_list] at h1 h2
  rw [figS_list] at h1 h2 h3 h4
  have ad : NumText.AllDigits (figL z.cps.toList) := fun d hd => by
    have := List.all_eq_true.mp h3 d hd
    unfold figB at this
    simp only [Bool.and_eq_true, decide_eq_true_eq] at this
    omega
  have zl := len_list z
  have tS : ∀ n : Nat, (numS (n : Int)).cps.toList = (Nat.toDigits 10 n).map Char.toNat := fun n => by
    unfold numS
    rw [signs_ofString]
    show (Nat.repr n).toList.map Char.toNat = _
    simp [Nat.repr]
  have tN : ∀ n : Nat, 0 < n → (numS (-(n : Int))).cps.toList = 45 :: (Nat.toDigits 10 n).map Char.toNat := fun n hn => by
    obtain ⟨k, rfl⟩ : ∃ k, n = k + 1 := ⟨n - 1, by omega⟩
    unfold numS
    rw [signs_ofString]
    show ("-" ++ Nat.repr (k + 1)).toList.map Char.toNat = _
    simp [Nat.repr]
  have back : ∀ cs : List Nat, NumText.AllDigits cs → cs ≠ [] → cs.headD 48 ≠ 48 ∨ cs = [48] → (Nat.toDigits 10 (NumText.digitsVal cs)).map Char.toNat = cs := fun cs ha hne hh => by
    rw [NumText.toDigits_digitsVal (cs.length - 1) cs (by cases cs with | nil => exact absurd rfl hne | cons _ _ => simp) ha (by
      cases cs with
      | nil => exact absurd rfl hne
      | cons c r =>
        rcases hh with hh | hh
        · exact .inr ⟨c, r, rfl, by have := ha.head; have : c ≠ 48 := hh; omega⟩
        · cases hh; exact .inl rfl)]
    rw [List.map_map]
    have : ∀ c ∈ cs, (Char.toNat ∘ Char.ofNat) c = c := fun c hc => by
      have := ha c hc
      have hv : c.isValidChar := .inl (by omega)
      show (Char.ofNat c).toNat = c
      unfold Char.ofNat
      rw [dif_pos hv]
      rfl
    exact (List.map_congr_left this).trans (List.map_id _)
  unfold numV
  cases hz : z.cps.toList with
  | nil => rw [hz] at h1; exact absurd h1 (by decide)
  | cons c r =>
    by_cases hc : c = 45
    · subst hc
      have ef : figL z.cps.toList = r := by rw [hz]; rfl
      rw [ef] at h1 h2 h4 ad
      rw [hz, List.length_cons] at zl
      have hne : r ≠ [] := fun e => by rw [e] at h1; exact absurd h1 (by decide)
      have hh : r.headD 48 ≠ 48 := by
        rcases h4 with h4 | h4
        · exact h4
        · rw [h4, show (Str.ofString "0").cps.toList = [48] from rfl] at hz; cases hz
      have hi := intText_neg hz ad hne (by omega)
      rw [hi]
      refine ⟨rfl, str_ext ?_, by omega⟩
      have hpos : 0 < NumText.digitsVal r := by
        cases r with
        | nil => exact absurd rfl hne
        | cons d q => exact NumText.digitsVal_pos (by have := ad.head; have : d ≠ 48 := hh; omega)
      show (numS (-((NumText.digitsVal r : Nat) : Int))).cps.toList = _
      rw [tN _ hpos, back r ad hne (.inl hh), hz]
    · have ef : figL z.cps.toList = z.cps.toList := by
        rw [hz]
        unfold figL
        split
        · rename_i e; exact absurd (List.cons.inj e).1 hc
        · rfl
      rw [ef] at h1 h2 h4 ad
      have hne : z.cps.toList ≠ [] := by rw [hz]; simp
      have hi := intText_digits ad hne (by omega)
      rw [hi]
      refine ⟨rfl, str_ext ?_, by omega⟩
      show (numS ((NumText.digitsVal z.cps.toList : Nat) : Int)).cps.toList = _
      rw [tS, back _ ad hne]
      rcases h4 with h4 | h4
      · exact .inl h4
      · exact .inr (by rw [h4]; rfl)
end My

set_option maxRecDepth 1000000
namespace My
open PySem PySem.Spec PyProof.Rows L2
open PySem.StrLaws PySem.Builtin.Str
structure TxOk (z : Str) : Prop where
  l : z.length ≤ 1000000
  a : ∀ c ∈ z.cps.toList, c < 128
theorem mem_join {sep : Str} {c : Nat} : ∀ {ps : List Str} {p : Str}, p ∈ ps → c ∈ p.cps.toList → c ∈ (Str.join sep ps).cps.toList
  | [], _, h, _ => by cases h
  | [q], p, h, hc => by rw [List.mem_singleton.mp h] at hc; exact hc
  | q :: r :: ps, p, h, hc => by
    show c ∈ (q ++ sep ++ Str.join sep (r :: ps)).cps.toList
    simp only [Str.cps_append, Array.toList_append, List.mem_append]
    rcases List.mem_cons.mp h with rfl | h
    · exact .inl (.inl hc)
    · exact .inr (mem_join h hc)
theorem len_join {sep : Str} (hs : 1 ≤ sep.length) : ∀ ps : List Str, ps.length ≤ (Str.join sep ps).length + 1 ∧ ∀ p ∈ ps, p.length ≤ (Str.join sep ps).length
  | [] => ⟨Nat.zero_le _, fun p h => by cases h⟩
  | [q] => ⟨by rw [List.length_singleton]; omega, fun p h => by rw [List.mem_singleton.mp h]; exact Nat.le_refl _⟩
  | q :: r :: ps => by
    obtain ⟨h1, h2⟩ := len_join hs (r :: ps)
    have e : (Str.join sep (q :: r :: ps)).length = q.length + sep.length + (Str.join sep (r :: ps)).length := by
      show (q ++ sep ++ Str.join sep (r :: ps)).length = _
      rw [strLen_append, strLen_append]
    rw [e]
    refine ⟨by rw [List.length_cons]; omega, fun p h => ?_⟩
    rcases List.mem_cons.mp h with rfl | h
    · omega
    · have := h2 p h; omega
theorem split_ok {t sep : Str} (hs : 1 ≤ sep.length) (h : TxOk t) : (Txt.split t sep).length ≤ 1000001 ∧ ∀ z ∈ Txt.split t sep, TxOk z := by
  have e := join_split t sep
  obtain ⟨h1, h2⟩ := len_join hs (Txt.split t sep)
  rw [e] at h1 h2
  have := h.l
  exact ⟨by omega, fun z hz => ⟨by have := h2 z hz; omega, fun c hc => h.a c (by rw [← e]; exact mem_join hz hc)⟩⟩
noncomputable def wordsAt (rows : List Str) (i : Nat) : List Str := match rows[i]? with
  | none => []
  | some row => Txt.split row " "
noncomputable def many1 (W : List Str) (word : Str) (most : Int) : Option Int := match W with
  | [w, z] => if decide (w = word) && isNumB z && decide (1 ≤ numV z) && decide (numV z ≤ most) then some (numV z) else none
  | _ => none
noncomputable def manyR (rows : List Str) (i : Nat) (word : Str) (most : Int) : Option Int := many1 (wordsAt rows i) word most
noncomputable def way1 (W : List Str) : Option Way := match W with
  | a :: ar :: b :: co :: gs => if decide (ar = "->") && decide (co = ":") && (a :: b :: gs).all isNumB then some ⟨numV a, numV b, gs.map numV⟩ else none
  | _ => none
noncomputable def wayO (row : Str) : Option Way := way1 (Txt.split row " ")
theorem way1_short {W : List Str} (h : W.length < 4) : way1 W = none := by
  unfold way1
  split
  · simp only [List.length_cons] at h; omega
  · rfl
noncomputable def wayOkB (R U : Int) (w : Way) : Bool := betwD (.int w.a) 0 (R - 1) && betwD (.int w.b) 0 (R - 1) && gainsD (.tuple (w.g.map .int)) U
noncomputable def okRow (R U : Int) (row : Str) : Option Way := match wayO row with
  | some w => if wayOkB R U w then some w else none
  | none => none
noncomputable def waysR (R U : Int) : List Str → Nat → List Way → Int ⊕ (Int × Int × List Way)
  | [], _, ws => .inr (R, U, ws)
  | row :: rs, i, ws => if ws.length = 60 then .inl (i : Int) else match okRow R U row with
    | some w => waysR R U rs (i + 1) (ws ++ [w])
    | none => .inl (i : Int)
noncomputable def readR (rows : List Str) : Int ⊕ (Int × Int × List Way) := match manyR rows 0 "rooms" 12 with
  | none => .inl 0
  | some R => match manyR rows 1 "purses" 6 with
    | none => .inl 1
    | some U => waysR R U (rows.drop 2) 2 []
noncomputable def gsWholeB : GSp := fun as n Q => ∃ d, as = [.d d] ∧ noD d = true ∧ Q (.bool (wholeD d)) n
noncomputable instance scal_wholeB : Scal gsWholeB := ⟨fun {as n P} h => by obtain ⟨d, e, hi, q⟩ := h; exact ⟨d, e, hi, rfl, q⟩⟩
noncomputable def gsBetwB : GSp := fun as n Q => ∃ (d : PyData) (lo hi : Int), as = [.d d, .d (.int lo), .d (.int hi)] ∧ noD d = true ∧ Q (.bool (betwD d lo hi)) n
noncomputable instance scal_betwB : Scal gsBetwB := ⟨fun {as n P} h => by obtain ⟨d, lo, hi, e, hd, q⟩ := h; exact ⟨d, lo, hi, e, hd, rfl, q⟩⟩
noncomputable def gsTupB : GSp := fun as n Q => ∃ (d : PyData) (m : Int), as = [.d d, .d (.int m)] ∧ noD d = true ∧ Q (.bool (tupD d m)) n
noncomputable instance scal_tupB : Scal gsTupB := ⟨fun {as n P} h => by obtain ⟨d, m, e, hd, q⟩ := h; exact ⟨d, m, e, hd, rfl, q⟩⟩
noncomputable def gsGainsB : GSp := fun as n Q => ∃ (gs : List Int) (U : Int), as = [.d (.tuple (gs.map .int)), .d (.int U)] ∧ U ≤ 1000000 ∧ Q (.bool (gainsD (.tuple (gs.map .int)) U)) n
noncomputable instance scal_gainsB : Scal gsGainsB := ⟨fun {as n P} h => by obtain ⟨d, m, e, hd, q⟩ := h; exact ⟨d, m, e, hd, rfl, q⟩⟩
noncomputable def gsIsNumA : GSp := fun as n Q => ∃ z : Str, as = [.d (.str z)] ∧ TxOk z ∧ Q (.bool (isNumB z)) n
noncomputable instance scal_isNumA : Scal gsIsNumA := ⟨fun {as n P} h => by obtain ⟨i, e, hi, q⟩ := h; exact ⟨i, e, hi, rfl, q⟩⟩
noncomputable def numsR (zs : List Str) : PyData := if zs.all isNumB = true then .list (zs.map fun z => .int (numV z)) else .none
noncomputable def gsReadNumsA : GSp := fun as n Q => ∃ zs : List Str, as = [.d (.list (zs.map .str))] ∧ zs.length ≤ 2000000 ∧ (∀ z ∈ zs, TxOk z) ∧ Q (numsR zs) n
noncomputable def gsReadManyA : GSf := fun as n P X => ∃ (rows : List Str) (i : Nat) (word : Str) (most : Int), as = [.d (.list (rows.map .str)), .d (.int i), .d (.str word), .d (.int most)] ∧ rows.length ≤ 2000000 ∧ (∀ z ∈ rows, TxOk z) ∧ (i ≤ 1 ∧ TxOk word) ∧ most ≤ 99 ∧ match manyR rows i word most with
  | some k => P (.int k) n
  | none => X (i : Int) n
noncomputable def wayOD (o : Option Way) : PyData := match o with
  | some w => wayPD w
  | none => .none
noncomputable def gsReadWayA : GSp := fun as n Q => ∃ row : Str, as = [.d (.str row)] ∧ TxOk row ∧ Q (wayOD (wayO row)) n
noncomputable def gsIsWayO : GSp := fun as n Q => ∃ (o : Option Way) (R U : Int), as = [.d (wayOD o), .d (.int R), .d (.int U)] ∧ (∀ w, o = some w → w.g.length ≤ 2000000) ∧ U ≤ 6 ∧ Q (.bool (match o with | some w => wayOkB R U w | none => false)) n
noncomputable def gsReadBookA : GSf := fun as n P X => ∃ t : Str, as = [.d (.str t)] ∧ TxOk t ∧ match readR (Txt.split t " / ") with
  | .inl r => X r n
  | .inr (R, U, ws) => P (bookPD R U ws) n
theorem occ_all : (List.range 128).all (fun c => (!(occurrences (Str.ofString "0123456789") ⟨#[c]⟩ 0 (Str.ofString "0123456789").length 1).isEmpty) == figB c) = true := by decide +kernel
theorem fig_occ {c : Nat} (h : c < 128) : (!(occurrences (Str.ofString "0123456789") ⟨#[c]⟩ 0 (Str.ofString "0123456789").length 1).isEmpty) = figB c := beq_iff_eq.mp (List.all_eq_true.mp occ_all c (List.mem_range.mpr h))
theorem fig_sub {z : Str} {c : Nat} (h : c ∈ (figS z).cps.toList) : c ∈ z.cps.toList := by
  rw [figS_list] at h
  unfold figL at h
  split at h
  · rename_i e; rw [e]; exact List.mem_cons_of_mem _ h
  · exact h
theorem one_zero {c : Nat} : ((⟨#[c]⟩ : Str) = "0") ↔ c = 48 := by
  constructor
  · intro h
    have := congrArg (fun s : Str => s.cps.toList) h
    have e : (Str.ofString "0").cps.toList = [48] := by decide
    rw [e] at this
    exact (List.cons.inj this).1
  · rintro rfl; rfl
theorem numOk_all : (List.range 199).all (fun (k : Nat) => isNumB (numS ((k : Int) - 99)) && decide (numV (numS ((k : Int) - 99)) = (k : Int) - 99)) = true := by decide +kernel
theorem num_is {i : Int} (h0 : -99 ≤ i) (h1 : i ≤ 99) : isNumB (numS i) = true ∧ numV (numS i) = i := by
  have := List.all_eq_true.mp numOk_all (i + 99).toNat (List.mem_range.mpr (by omega))
  rw [show (((i + 99).toNat : Nat) : Int) - 99 = i by omega, Bool.and_eq_true, decide_eq_true_eq] at this
  exact this
theorem many_b {rows : List Str} {i : Nat} {word : Str} {most k : Int} (h : manyR rows i word most = some k) : 1 ≤ k ∧ k ≤ most := by
  unfold manyR many1 at h
  split at h
  · split at h
    · rename_i c
      simp only [Bool.and_eq_true, decide_eq_true_eq] at c
      cases h
      exact ⟨c.1.2, c.2⟩
    · cases h
  · cases h
theorem wayO_len {row : Str} {w : Way} (ok : TxOk row) (h : wayO row = some w) : w.g.length ≤ 2000000 := by
  have := (split_ok (sep := " ") (by decide) ok).1
  unfold wayO at h
  generalize Txt.split row " " = W at h this
  unfold way1 at h
  split at h
  · split at h
    · cases h
      simp only [List.length_cons] at this
      rw [List.length_map]
      omega
    · cases h
  · cases h
theorem TxOk.so {z : Str} (h : TxOk z) : PyData.strOk z = true := by
  unfold PyData.strOk
  exact Array.all_eq_true_iff_forall_mem.mpr fun c hc => decide_eq_true (Nat.lt_trans (h.a c (Array.mem_toList_iff.mpr hc)) (by decide))
theorem neOne {W : List Str} {word : Str} {Q : PyData → Prop} (hW : ∀ z ∈ W, TxOk z) (hw : TxOk word) (q : Q (.bool (!decide (W.head? = some word)))) : fEqD true (.list ((W.take 1).map .str)) (.list [.str word]) Q := by
  have e1 : (PyData.list [.str word]).canLay0 = true := by rw [PyData.canLay0, PyData.canLayAll0, lay_str hw.so]; rfl
  have e2 : (PyData.list [.str word]).depth ≤ 50 := by rw [PyData.depth, PyData.depthAll, dp_str]; decide
  cases W with
  | nil => exact ⟨⟨rfl, e1, Nat.le_trans (Nat.min_le_right _ _) e2⟩, q⟩
  | cons w W =>
    refine ⟨⟨by show (PyData.list [.str w]).canLay0 = true; rw [PyData.canLay0, PyData.canLayAll0, lay_str (hW w List.mem_cons_self).so]; rfl, e1, Nat.le_trans (Nat.min_le_right _ _) e2⟩, ?_⟩
    have e3 : PyData.eqv (.list [.str w]) (.list [.str word]) = decide ((w :: W).head? = some word) := by
      show (w == word && true) = decide (some w = some word)
      rw [Bool.and_true, Bool.eq_iff_iff, beq_iff_eq, decide_eq_true_eq]
      exact ⟨congrArg some, Option.some.inj⟩
    show Q (.bool (!PyData.eqv (.list [.str w]) (.list [.str word])))
    rw [e3]; exact q
end My

namespace L2
open PySem PySem.Spec PyProof.Rows
section
variable {X : Cx}
end
end L2
namespace My
open PySem PySem.Spec PyProof.Rows L2
open PySem.StrLaws PySem.Builtin.Str
end My

namespace My
open PySem PySem.Spec PyProof.Rows L2
open PySem.StrLaws PySem.Builtin.Str
end My

namespace L2
open PySem PySem.Spec PyProof.Rows PySem.W
theorem RowC.ef0 {K : Frag} {mg : Str → Option Value} {x n : Str} {D : Addr} (R : RowC K mg x n D) : ExF K D n := by
  obtain ⟨B, f, fd, qual, st, p1, p2, p3, p4, N, _⟩ := R.ex
  have z := N.e
  unfold nrB at z
  split at z
  case h_2 => cases z
  case h_1 o ho =>
    simp only [Bool.and_eq_true, beq_iff_eq] at z
    obtain ⟨⟨⟨⟨z1, z2⟩, z3⟩, z4⟩, z5⟩ := z
    split at z2
    case h_2 => cases z2
    case h_1 cd k0 k1 k2 k3 i k5 hd hs =>
      simp only [Bool.and_eq_true, beq_iff_eq, Bool.not_eq_true'] at z2
      obtain ⟨⟨⟨⟨⟨⟨rfl, hdel⟩, hdic⟩, hm⟩, ht⟩, hok⟩, hi⟩ := z2
      refine ⟨z4, ⟨cd, [D, B], ?_, hm, hdic⟩, z3⟩
      unfold clsIn
      rw [ho]
      obtain ⟨oc, od, oda, osl⟩ := o
      dsimp only at hd
      subst hd
      rfl
theorem RowC.cast {K : Frag} {mg : Str → Option Value} {x n : Str} {D D' : Addr} (R : RowC K mg x n D) (h : mg x = some (.ref D')) : RowC K mg x n D' := by
  have e : mg x = some (.ref D) := by
    obtain ⟨B, f, fd, qual, st, p1, p2, p3, p4, N, _⟩ := R.ex
    exact N.b
  rw [e] at h
  cases h
  exact R
noncomputable def RowTxt (st : Stmt) (n : Str) : Prop := ∃ p1 p2 p3 p4 : Pos, defBody st = [.Assign [.Attribute (.Name "self" p1) n p2] (.Name "row" p3) p4] ∧ FnScope ["self", "row"] ["self", "row"] (defScope st) ∧ (defScope st).names.lookup ("self" : Str) = some .local ∧ (defScope st).names.lookup ("row" : Str) = some .local
theorem rowC_mk {K : Frag} {mg : Str → Option Value} {h : Heap} {x n qual : Str} {D f : Addr} {st : Stmt} {oc : Value} {od an : Option Addr} {osl : Array (Option Value)} {kV doc pm cdv ct : Value} (X : K.In h) (G : h.Ns mainGlobals mg) (aC : nsIn K mainGlobals x = some (some (.ref D))) (a : findIn K (.ref D) "__init__" = some (some (.ref f)))
    (i : isFn K (.ref f) = true) (l : K.lookup f = some ⟨oc, od, .func (fnOf "__init__" qual (defArgs st) (defBody st) (defScope st) .none kV doc pm an cdv ct), osl⟩) (c : codeIn K cdv qual = true) (kp : keepIn K (.ref f) = true)
    (nr : nrB K D (clAt K "FallError") f n = true) (xc : exCB K D = true)
    (hb : ∀ (kV doc pm : Value) (an : Option Addr) (cdv ct : Value) (us : List Value), us.length = 2 → bindArgs (fnOf "__init__" qual (defArgs st) (defBody st) (defScope st) .none kV doc pm an cdv ct) ⟨us, []⟩ = pure ((["self", "row"] : List Str).zip us))
    (hf : RowTxt st n) : RowC K mg x n D := by
  obtain ⟨p1, p2, p3, p4, hbo, S, v1, v2⟩ := hf
  exact ⟨⟨_, f, _, qual, st, p1, p2, p3, p4, ⟨mg_of X G aC, nr⟩, fun_mk (st := st) l c kp, i, (fun_mk (st := st) l c kp).binds hb, S, hbo, v1, v2⟩, exC_of xc⟩
end L2
namespace My
open PySem PySem.Spec PyProof.Rows L2
open PySem.StrLaws PySem.Builtin.Str
noncomputable def RowPl (z : Str) : Prop := z.length ≤ 6000 ∧ (∀ c ∈ z.cps.toList, c < 128) ∧ 47 ∉ z.cps.toList
theorem text_ok {rs : List Str} (hl : rs.length ≤ 70) (h : ∀ z ∈ rs, RowPl z) : JoinOk " / " rs = true ∧ TxOk (Txt.join " / " rs) := by
  have e3 : (" / " : Str).length = 3 := rfl
  refine ⟨joinOk_of (B := 6000) (fun y hy => (h y hy).1) (by rw [e3]; omega), ?_, fun c hc => ?_⟩
  · have h1 := StrLaws.join_length_le " / " rs
    have h2 := sumLen_le rs (B := 6000) fun y hy => (h y hy).1
    rw [txt_join]
    rw [e3] at h1
    omega
  · rw [txt_join] at hc
    rcases join_mem hc with hc | ⟨p, hp, hc⟩
    · revert hc
      have : ∀ c ∈ (" / " : Str).cps.toList, c < 128 := by decide
      exact this c
    · exact (h p hp).2.1 c hc
theorem asc_num {i : Int} (h : -99 ≤ i ∧ i ≤ 99) : ∀ c ∈ (numS i).cps.toList, c < 128 := fun c hc => by
  rcases (num_of h.1 h.2).signs c hc with h | h
  · omega
  · omega
theorem row_pl {R U : Int} {ws : List Way} (k : BookOk R U ws) {q : Str} (hq : q ∈ bookRows R U ws) : RowPl q := by
  obtain ⟨h1, h2⟩ := rows_ok k hq
  refine ⟨by omega, ?_, h2⟩
  have := k.r0
  have := k.r1
  have := k.p0
  have := k.p1
  unfold bookRows at hq
  rcases List.mem_append.mp hq with hq | hq
  · simp only [List.mem_cons, List.not_mem_nil, or_false] at hq
    rcases hq with rfl | rfl
    · intro c hc
      rcases app_mem hc with h | h
      · exact (by decide : ∀ c ∈ ("rooms " : Str).cps.toList, c < 128) c h
      · exact asc_num ⟨by omega, by omega⟩ c h
    · intro c hc
      rcases app_mem hc with h | h
      · exact (by decide : ∀ c ∈ ("purses " : Str).cps.toList, c < 128) c h
      · exact asc_num ⟨by omega, by omega⟩ c h
  · obtain ⟨w, hw, rfl⟩ := List.mem_map.mp hq
    obtain ⟨ha, hb, hg⟩ := num_small (k.ways w hw) k.r1
    intro c hc
    unfold rowS at hc
    rw [txt_join] at hc
    rcases join_mem hc with h | ⟨p, hp, h⟩
    · exact (by decide : ∀ c ∈ (" " : Str).cps.toList, c < 128) c h
    · unfold wayW at hp
      rcases List.mem_append.mp hp with hp | hp
      · simp only [List.mem_cons, List.not_mem_nil, or_false] at hp
        rcases hp with rfl | rfl | rfl | rfl
        · exact asc_num ha c h
        · exact (by decide : ∀ c ∈ ("->" : Str).cps.toList, c < 128) c h
        · exact asc_num hb c h
        · exact (by decide : ∀ c ∈ (":" : Str).cps.toList, c < 128) c h
      · obtain ⟨g, hgm, rfl⟩ := List.mem_map.mp hp
        exact asc_num (hg g hgm) c h
end My

set_option maxRecDepth 1000000
namespace My
open PySem PySem.Spec PyProof.Rows L2
open PySem.StrLaws PySem.Builtin.Str
noncomputable def numIn (z : Str) (lo hi : Int) : Bool := isNumB z && decide (lo ≤ numV z) && decide (numV z ≤ hi)
noncomputable def numAt (z : Str) (lo hi : Int) : Option Int := if numIn z lo hi then some (numV z) else none
noncomputable def optJ : Option Int → PyData
  | some i => .int i
  | none => .none
theorem numAt_hit {z : Str} {lo hi i : Int} (e : z = numS i) (h0 : -99 ≤ lo) (h1 : hi ≤ 99) (l : lo ≤ i) (u : i ≤ hi) : numAt z lo hi = some i := by
  obtain ⟨a, b⟩ := num_is (i := i) (by omega) (by omega)
  subst e
  unfold numAt numIn
  rw [a, b, decide_eq_true l, decide_eq_true u]; rfl
theorem numAt_no {z : Str} {lo hi : Int} (h : ∀ i, lo ≤ i → i ≤ hi → z ≠ numS i) : numAt z lo hi = none := by
  unfold numAt
  split
  · rename_i c
    unfold numIn at c
    simp only [Bool.and_eq_true, decide_eq_true_eq] at c
    exact absurd (num_int c.1.1).2.1.symm (h _ c.1.2 c.2)
  · rfl
noncomputable def gsNumL : GSp := fun as n Q => ∃ (z : Str) (lo hi : Int), as = [.d (.str z), .d (.int lo), .d (.int hi)] ∧ (-99 ≤ lo ∧ lo ≤ 99) ∧ (-99 ≤ hi ∧ hi ≤ 99) ∧ Q (optJ (numAt z lo hi)) n
noncomputable instance scal_numL : Scal gsNumL := ⟨fun {as n P} h => by
  obtain ⟨z, lo, hi, e, h1, h2, q⟩ := h
  refine ⟨z, lo, hi, e, h1, h2, ?_, q⟩
  cases numAt z lo hi <;> rfl⟩
noncomputable def gsRowWay : GSp := fun as n Q => ∃ (row : Str) (R U : Int), as = [.d (.str row), .d (.int R), .d (.int U)] ∧ TxOk row ∧ (1 ≤ R ∧ R ≤ 12) ∧ (1 ≤ U ∧ U ≤ 6) ∧ Q (wayOD (okRow R U row)) n
noncomputable def readD : Int ⊕ (Int × Int × List Way) → PyData
  | .inl r => .int r
  | .inr (R, U, ws) => bookPD R U ws
noncomputable def gsLawRead : GSp := fun as n Q => ∃ t : Str, as = [.d (.str t)] ∧ TxOk t ∧ Q (readD (readR (Txt.split t " / "))) n
noncomputable def okW1 (R U : Int) (W : List Str) : Option Way := match way1 W with
  | some w => if wayOkB R U w then some w else none
  | none => none
theorem okRow_eq (R U : Int) (row : Str) : okRow R U row = okW1 R U (Txt.split row " ") := rfl
theorem okW1_len {R U : Int} {W : List Str} (h : (W.length : Int) ≠ U + 4) : okW1 R U W = none := by
  unfold okW1
  split
  · rename_i w e
    unfold way1 at e
    split at e
    · split at e
      · cases e
        rw [if_neg]
        unfold wayOkB gainsD
        simp only [Bool.and_eq_true, decide_eq_true_eq, List.length_map]
        rintro ⟨_, h2, _⟩
        simp only [List.length_cons] at h
        omega
      · cases e
    · cases e
  · rfl
theorem all_gs (gs : List Str) : (gs.all isNumB && ((gs.map numV).map PyData.int).all fun x => betwD x (-99) 99) = gs.all (numIn · (-99) 99) := by
  induction gs with
  | nil => rfl
  | cons g gs ih =>
    simp only [List.all_cons, List.map_cons]
    rw [← ih]
    show (isNumB g && gs.all isNumB && ((decide (-99 ≤ numV g) && decide (numV g ≤ 99)) && ((gs.map numV).map PyData.int).all fun x => betwD x (-99) 99)) = _
    unfold numIn
    cases isNumB g <;> cases gs.all isNumB <;> simp
theorem okW1_all {R U : Int} {a ar b co : Str} {gs : List Str} (hl : (gs.length : Int) = U) : okW1 R U (a :: ar :: b :: co :: gs) = if decide (ar = "->") && decide (co = ":") && (numIn a 0 (R - 1) && numIn b 0 (R - 1) && gs.all (numIn · (-99) 99)) then some ⟨numV a, numV b, gs.map numV⟩ else none := by
  unfold okW1 way1
  by_cases h1 : ar = "->"
  · by_cases h2 : co = ":"
    · have e : (decide (ar = "->") && decide (co = ":")) = true := by rw [decide_eq_true h1, decide_eq_true h2]; rfl
      simp only [e, Bool.true_and, List.all_cons]
      rw [← all_gs]
      have e2 : wayOkB R U ⟨numV a, numV b, gs.map numV⟩ = ((decide (0 ≤ numV a) && decide (numV a ≤ R - 1)) && (decide (0 ≤ numV b) && decide (numV b ≤ R - 1)) && ((gs.map numV).map PyData.int).all fun x => betwD x (-99) 99) := by
        unfold wayOkB gainsD betwD
        simp only [List.length_map, hl, decide_true, Bool.true_and]
      unfold numIn
      cases isNumB a <;> cases isNumB b <;> cases gs.all isNumB <;> simp [e2]
    · simp [h2]
  · simp [h1]
noncomputable def optAll (os : List (Option Int)) : Bool := os.all Option.isSome
theorem none_in : ∀ os : List (Option Int), inD .none (os.map optJ) = !optAll os
  | [] => rfl
  | some i :: os => by
    have := none_in os
    unfold optAll at this ⊢
    rw [List.all_cons, List.map_cons]
    exact this
  | none :: os => rfl
theorem numAt_some {z : Str} {lo hi : Int} : (numAt z lo hi).isSome = numIn z lo hi := by
  unfold numAt
  cases numIn z lo hi <;> rfl
theorem numAt_v {z : Str} {lo hi : Int} (h : numIn z lo hi = true) : optJ (numAt z lo hi) = .int (numV z) := by
  unfold numAt
  rw [if_pos h]; rfl
noncomputable def headL : List PyData := [.tuple [.int 0, .str "rooms", .int 12], .tuple [.int 1, .str "purses", .int 6]]
noncomputable def hdSt (rows : List Str) : Nat → List Int → Prop
  | 0, l => l = []
  | 1, l => ∃ R, l = [R] ∧ manyR rows 0 "rooms" 12 = some R
  | _, l => ∃ R U, l = [R, U] ∧ manyR rows 0 "rooms" 12 = some R ∧ manyR rows 1 "purses" 6 = some U
theorem hd_turn {rows : List Str} {i : Nat} {y : PyData} {l : List Int} (hy : headL[i]? = some y) (h : hdSt rows i l) : ∃ (at' : Nat) (head : Str) (most : Int), y = .tuple [.int at', .str head, .int most] ∧ at' ≤ 1 ∧ (1 ≤ most ∧ most ≤ 12) ∧ l.length ≤ 1 ∧ (manyR rows at' head most = none → readR rows = .inl (at' : Int)) ∧ ∀ k, manyR rows at' head most = some k → hdSt rows (i + 1) (l ++ [k]) := by
  match i, h, hy with
  | 0, h, hy =>
    cases hy
    cases h
    exact ⟨0, "rooms", 12, rfl, by decide, by decide, by decide, fun e => by unfold readR; rw [e]; rfl, fun k e => ⟨k, rfl, e⟩⟩
  | 1, h, hy =>
    cases hy
    obtain ⟨R, rfl, e0⟩ := h
    exact ⟨1, "purses", 6, rfl, by decide, by decide, Nat.le_refl _, fun e => by unfold readR; rw [e0]; show (match manyR rows 1 "purses" 6 with | none => Sum.inl 1 | some U => waysR R U (rows.drop 2) 2 []) = _; rw [e]; rfl, fun k e => ⟨R, k, rfl, e0, e⟩⟩
  | i + 2, h, hy => cases hy
noncomputable def oneNum (ws : List Str) (most : Int) : Option Int := match ws with
  | [z] => numAt z 1 most
  | _ => none
theorem many1_cons {w head : Str} {ws : List Str} {most : Int} : many1 (w :: ws) head most = if w = head then oneNum ws most else none := by
  unfold many1
  split
  · rename_i a b e
    cases e
    by_cases h : w = head
    · subst h
      simp only [decide_true, Bool.true_and, if_pos]
      unfold oneNum numAt numIn
      rfl
    · simp [h]
  · rename_i hne
    unfold oneNum
    split
    · split
      · rename_i z
        exact absurd rfl (hne w z)
      · rfl
    · rfl
theorem split_some {row sep : Str} : ∃ w ws, Txt.split row sep = w :: ws := by
  unfold Txt.split
  split
  · exact ⟨_, _, rfl⟩
  · split
    · exact ⟨_, _, rfl⟩
    · unfold partsBetween
      cases occurrences row sep 0 row.length (row.length + 1) with
      | nil => exact ⟨_, _, rfl⟩
      | cons a b => exact ⟨_, _, rfl⟩
end My

set_option maxRecDepth 1000000
namespace My
open PySem PySem.Spec PyProof.Rows L2
open PySem.StrLaws PySem.Builtin.Str
structure TxM (m : Nat) (z : Str) : Prop where
  l : z.length ≤ m
  a : ∀ c ∈ z.cps.toList, c < 128
theorem TxM.ok {m : Nat} {z : Str} (h : TxM m z) (hm : m ≤ 1000000) : TxOk z := ⟨Nat.le_trans h.l hm, h.a⟩
theorem TxM.cat {m k : Nat} {x y : Str} (hx : TxM m x) (hy : TxM k y) : TxM (m + k) (x ++ y) := by
  refine ⟨by rw [strLen_append]; exact Nat.add_le_add hx.l hy.l, fun c hc => ?_⟩
  simp only [Str.cps_append, Array.toList_append, List.mem_append] at hc
  exact hc.elim (hx.a c) (hy.a c)
noncomputable def gsAnySign : GSp := fun as n Q => as = [.jar] ∧ ∀ c : Nat, c < 128 → Q (.str ⟨#[c]⟩) n
noncomputable instance scal_anySign : Scal gsAnySign := ⟨fun {as n P} h => ⟨h.1, fun c hc => ⟨rfl, h.2 c hc⟩⟩⟩
noncomputable def gsBentT (m : Nat) : GSp := fun as n Q => ∃ (t : Str) (os : List Str), as = [.jar, .d (.str t), .d (.list (os.map .str))] ∧ TxM m t ∧ (∀ z ∈ os, TxM 1000 z) ∧ (1 ≤ os.length ∧ os.length ≤ 100) ∧ ∀ t', TxM (2 * m + 1010) t' → Q (.str t') n
noncomputable def plainB (z : Str) : Bool := z.cps.toList.all fun c => decide (c < 128)
theorem sign_at {z : Str} {r : Int} (h : plainB z = true) (r0 : 0 ≤ r) (r1 : r < (z.length : Int)) : ∃ c, atI z.cps.toList r = some c ∧ c < 128 := by
  have hl : z.cps.toList.length = z.length := len_list _
  have hi : r.toNat < z.cps.toList.length := by omega
  exact ⟨z.cps.toList[r.toNat], at_getD r0 (List.getElem?_eq_getElem hi), of_decide_eq_true (List.all_eq_true.mp h _ (List.getElem_mem hi))⟩
theorem one_ok {c : Nat} (h : c < 128) : TxM 1 (⟨#[c]⟩ : Str) := ⟨Nat.le_refl _, fun x hx => by rw [show x = c by simpa using hx]; exact h⟩
theorem nil_ok : TxM 1 "" := ⟨by decide, fun x hx => by cases hx⟩
end My

set_option maxRecDepth 1000000
namespace L2
open PySem PySem.Spec PyProof.Rows PySem.SeqAt
section
variable {X : Cx}
noncomputable def rSlH : V → Option Int → Option Int → Hp → VK → Prop := fun x lo hi H Q => ∃ (z : Str) (i : Int), x = .str z ∧ lo = none ∧ hi = some i ∧ z.length ≤ sizeLine ∧ Q (.str (Txt.slice z none (some i))) H
theorem sl_strH : SlR X rSlH := by
  intro pins s σ H x v vl vu lo hi sl Q I rx hs pl pu h
  obtain ⟨z, i, rfl, rfl, rfl, hz, q⟩ := h
  obtain ⟨t, rfl⟩ := rx
  obtain ⟨ti, rfl⟩ : ∃ ti, vu = .int i ti := by
    cases pu
    exact ⟨_, rfl⟩
  have eu : vl = .none := by
    cases pl
    rfl
  subst eu
  refine ⟨"str", _, F.slot_str_getitem.lookup, typeIs_str _ _ _, wpAny_getItem_str_slice (l := none) (u := some (i, ti)) (st := none) hs rfl ?_⟩
  exact post_val_or_str ⟨Nat.le_trans (Txt.slice_le z _ _) hz, fun t' k => ⟨.str _, H, I.tok k, ⟨t', rfl⟩, q⟩⟩
end
end L2
namespace My
open PySem PySem.Spec PyProof.Rows L2
noncomputable abbrev gSlTh (g : GE) (gl gh : List Vl → Nat → (Option Int → Nat → Prop) → Prop) : GE := fun env n Q => g env n fun d n1 => gl env n1 fun lo n2 => gh env n2 fun hi n3 => match d with
  | .str z => ∃ i, lo = none ∧ hi = some i ∧ z.length ≤ sizeLine ∧ Q (.str (Txt.slice z none (some i))) n3
  | _ => False
noncomputable instance ev_slTh {b : Bool} {te : TE} {g : GE} {tl th : TO} {gl gh : List Vl → Nat → (Option Int → Nat → Prop) → Prop} [A : EV false te g] [B : OPV tl gl] [C : OPV th gh] : EV b (tSl rSlH te tl th) (gSlTh g gl gh) := ⟨fun {S ex env σ H n Q P} E h k =>
  A.ev E h fun d n1 v H1 h1 s1 r1 => B.op (E.step s1) h1 fun lo n2 H2 h2 s2 => C.op (E.step (s1.trans s2)) h2 fun hi n3 H3 h3 s3 => by
    cases r1 with
    | str z =>
      obtain ⟨i, rfl, rfl, hz, q⟩ := h3
      exact ⟨z, i, rfl, rfl, rfl, hz, k _ _ _ _ q ((s1.trans s2).trans s3) (.str _)⟩
    | int => exact h3.elim
    | none => exact h3.elim
    | obj => exact h3.elim
    | dctf => exact h3.elim
    | bool => exact h3.elim
    | list => exact h3.elim
    | tuple => exact h3.elim⟩
end My

set_option maxRecDepth 1000000
namespace My
open PySem PySem.Spec PyProof.Rows L2
open PySem.StrLaws PySem.Builtin.Str
noncomputable def wtL (q : Nat) : List Str → Nat
  | [] => 0
  | z :: zs => z.length + q + wtL q zs
theorem wt_sum (q : Nat) : ∀ rs : List Str, wtL q rs = (rs.map (·.length)).sum + rs.length * q
  | [] => by simp [wtL]
  | z :: zs => by
    rw [wtL, wt_sum q zs, List.map_cons, List.sum_cons, List.length_cons, Nat.succ_mul]; omega
theorem wt_app (q : Nat) : ∀ a b : List Str, wtL q (a ++ b) = wtL q a + wtL q b
  | [], b => by simp [wtL]
  | z :: zs, b => by
    rw [List.cons_append, wtL, wtL, wt_app q zs b]; omega
theorem wt_cut (q : Nat) (rs : List Str) (n : Nat) : wtL q (rs.take n) + wtL q (rs.drop n) = wtL q rs := by
  rw [← wt_app, List.take_append_drop]
theorem wt_set (q : Nat) : ∀ (rs : List Str) (i : Nat) (x : Str), wtL q (rs.set i x) ≤ wtL q rs + x.length + q
  | [], i, x => Nat.zero_le _
  | z :: zs, 0, x => by
    rw [List.set_cons_zero, wtL, wtL]; omega
  | z :: zs, i + 1, x => by
    have := wt_set q zs i x
    rw [List.set_cons_succ, wtL, wtL]; omega
theorem wt_mem (q : Nat) : ∀ {rs : List Str} {x : Str}, x ∈ rs → x.length + q ≤ wtL q rs
  | z :: zs, x, h => by
    rw [wtL]
    rcases List.mem_cons.mp h with rfl | h
    · omega
    · have := wt_mem q h; omega
theorem wt_len (q : Nat) (h : 1 ≤ q) : ∀ rs : List Str, rs.length ≤ wtL q rs
  | [] => Nat.zero_le _
  | z :: zs => by
    have := wt_len q h zs
    rw [wtL, List.length_cons]; omega
theorem wt_drop (q : Nat) (rs : List Str) (n : Nat) : wtL q (rs.drop (n + 1)) ≤ wtL q (rs.drop n) := by
  have := wt_cut q (rs.drop n) 1
  rw [List.drop_drop] at this
  omega
structure RsM (q m : Nat) (rs : List Str) : Prop where
  l : wtL q rs ≤ m
  a : ∀ z ∈ rs, ∀ c ∈ z.cps.toList, c < 128
theorem join_wt (sep : Str) : ∀ rs : List Str, rs ≠ [] → (Str.join sep rs).length + sep.length = wtL sep.length rs
  | [], h => absurd rfl h
  | [x], _ => by show x.length + _ = _; simp [wtL]
  | x :: y :: r, _ => by
    have := join_wt sep (y :: r) (by simp)
    show (x ++ sep ++ Str.join sep (y :: r)).length + sep.length = x.length + sep.length + wtL sep.length (y :: r)
    rw [strLen_append, strLen_append]; omega
theorem RsM.join {m : Nat} {sep : Str} {rs : List Str} (h : RsM sep.length m rs) (hs : sep.length ≤ 16) (ha : ∀ c ∈ sep.cps.toList, c < 128) (hm : m ≤ 1000000) : JoinOk sep rs = true ∧ TxM m (Txt.join sep rs) := by
  have e := wt_sum sep.length rs
  have l := h.l
  refine ⟨?_, ?_, fun c hc => ?_⟩
  · unfold JoinOk
    rw [show tooLong (rs.toArray.foldl (fun a p => a + p.length + sep.length) 0) = false from by
      rw [StrLaws.joinTotal]
      unfold tooLong sizeLine
      have : (2 : Nat) ^ 24 = 16777216 := by decide
      exact decide_eq_false (by omega)]
    rfl
  · rw [txt_join]
    by_cases hn : rs = []
    · subst hn; exact Nat.zero_le _
    · have := join_wt sep rs hn; omega
  · rw [txt_join] at hc
    rcases join_mem hc with hc | ⟨p, hp, hc⟩
    · exact ha c hc
    · exact h.a p hp c hc
theorem split_M {m : Nat} {t sep : Str} (h : TxM m t) : RsM sep.length (m + sep.length) (Txt.split t sep) := by
  have e := join_split t sep
  have l := h.l
  obtain ⟨w, ws, es⟩ := split_some (row := t) (sep := sep)
  refine ⟨?_, fun z hz c hc => h.a c (by rw [← e]; exact mem_join hz hc)⟩
  have := join_wt sep (Txt.split t sep) (by rw [es]; simp)
  rw [e] at this
  omega
theorem RsM.mem {q m : Nat} {rs : List Str} (h : RsM q m rs) {z : Str} (hz : z ∈ rs) : TxM (m - q) z := by
  have := wt_mem q hz
  have := h.l
  exact ⟨by omega, h.a z hz⟩
theorem TxM.mono {m k : Nat} {z : Str} (h : TxM m z) (hk : m ≤ k) : TxM k z := ⟨Nat.le_trans h.l hk, h.a⟩
theorem RsM.set {q m k : Nat} {rs : List Str} (h : RsM q m rs) {x : Str} (hx : TxM k x) (i : Nat) : RsM q (m + k + q) (rs.set i x) := by
  have := wt_set q rs i x
  have := h.l
  have := hx.l
  refine ⟨by omega, fun z hz => ?_⟩
  rcases List.mem_or_eq_of_mem_set hz with hz | rfl
  · exact h.a z hz
  · exact hx.a
theorem RsM.out {q m : Nat} {rs : List Str} (h : RsM q m rs) (i : Nat) : RsM q m (rs.take i ++ rs.drop (i + 1)) := by
  have h1 := wt_cut q rs i
  have h2 := wt_drop q rs i
  have := h.l
  refine ⟨by rw [wt_app]; omega, fun z hz => ?_⟩
  rcases List.mem_append.mp hz with hz | hz
  · exact h.a z (List.mem_of_mem_take hz)
  · exact h.a z (List.mem_of_mem_drop hz)
theorem RsM.put {q m k : Nat} {rs : List Str} (h : RsM q m rs) {x : Str} (hx : TxM k x) (i : Nat) : RsM q (m + k + q) (rs.take i ++ [x] ++ rs.drop i) := by
  have h1 := wt_cut q rs i
  have := h.l
  have := hx.l
  refine ⟨by rw [wt_app, wt_app]; show _ + (x.length + q + 0) + _ ≤ _; omega, fun z hz => ?_⟩
  rcases List.mem_append.mp hz with hz | hz
  · rcases List.mem_append.mp hz with hz | hz
    · exact h.a z (List.mem_of_mem_take hz)
    · rw [List.mem_singleton.mp hz]; exact hx.a
  · exact h.a z (List.mem_of_mem_drop hz)
theorem slice_to (z : Str) {n : Int} (h : 0 ≤ n ∧ n ≤ (z.length : Int)) : (Txt.slice z none (some n)).cps.toList = z.cps.toList.take n.toNat := by
  have zl := len_list z
  have e : Txt.slice z none (some n) = ⟨((z.cps.toList.drop 0).take (n - 0).toNat).toArray⟩ := StrLaws.sliceText_to (x := z) (j := n) ⟨h.1, by omega⟩
  rw [e]
  show (z.cps.toList.drop 0).take (n - 0).toNat = _
  rw [List.drop_zero, Int.sub_zero]
theorem TxM.to {m : Nat} {z : Str} (h : TxM m z) {n : Int} (hn : 0 ≤ n ∧ n ≤ (z.length : Int)) : TxM m (Txt.slice z none (some n)) := by
  refine ⟨Nat.le_trans (Txt.slice_le z _ _) h.l, fun c hc => ?_⟩
  rw [slice_to z hn] at hc
  exact h.a c (List.mem_of_mem_take hc)
theorem TxM.from {m : Nat} {z : Str} (h : TxM m z) {n : Int} (hn : 0 ≤ n) : TxM m (Txt.slice z (some n) none) := by
  obtain ⟨k, rfl⟩ := Int.eq_ofNat_of_zero_le hn
  refine ⟨Nat.le_trans (Txt.slice_le z _ _) h.l, fun c hc => ?_⟩
  rw [show (Txt.slice z (some ((k : Nat) : Int)) none).cps.toList = _ from slice_from z k] at hc
  exact h.a c (List.mem_of_mem_drop hc)
noncomputable def gsBentE : GSp := fun as n Q => ∃ m, m ≤ 200000 ∧ gsBentT m as n Q
noncomputable instance scal_bentE : Scal gsBentE := ⟨fun {as n P} h => by
  obtain ⟨m, hm, t, os, e, h1, h2, h3, q⟩ := h
  exact ⟨m, hm, t, os, e, h1, h2, h3, fun t' ht => ⟨rfl, q t' ht⟩⟩⟩
theorem one_w : ∀ w ∈ ([("0" : Str), "-1", "99", "100", "", "->", "rooms", "7", "01"]), TxM 5 w := by
  intro w hw
  have h : ([("0" : Str), "-1", "99", "100", "", "->", "rooms", "7", "01"]).all (fun z => decide (z.length ≤ 5) && plainB z) = true := by decide +kernel
  have := List.all_eq_true.mp h w hw
  simp only [Bool.and_eq_true, decide_eq_true_eq] at this
  exact ⟨this.1, fun c hc => of_decide_eq_true (List.all_eq_true.mp this.2 c hc)⟩
end My

set_option synthInstance.maxSize 100000
set_option synthInstance.maxHeartbeats 4000000
namespace My
open PySem PySem.Spec PyProof.Rows L2
noncomputable def top (i : Nat) : Stmt := PySem.Challenge.pw_fallsum_k82_whole_texts_judged.main.body.getD i (.Pass ⟨0, 0, 0, 0⟩)
noncomputable def meth (i j : Nat) : Stmt := (clsBody (top i)).getD j (.Pass ⟨0, 0, 0, 0⟩)
noncomputable abbrev s_NoRow__init : Stmt := meth 10 0
noncomputable abbrev s_is_whole : Stmt := top 16
noncomputable abbrev s_is_between : Stmt := top 17
noncomputable abbrev s_is_tuple_of : Stmt := top 18
noncomputable abbrev s_are_gains : Stmt := top 19
noncomputable abbrev s_is_way : Stmt := top 20
noncomputable abbrev s_is_number : Stmt := top 25
noncomputable abbrev s_read_numbers : Stmt := top 26
noncomputable abbrev s_read_many : Stmt := top 27
noncomputable abbrev s_read_way : Stmt := top 28
noncomputable abbrev s_read_book : Stmt := top 29
noncomputable abbrev s_law_mix : Stmt := top 31
noncomputable abbrev s_law_jar : Stmt := top 32
noncomputable abbrev s_law_pick : Stmt := top 33
noncomputable abbrev s_law_gain : Stmt := top 34
noncomputable abbrev s_law_book : Stmt := top 35
noncomputable abbrev s_law_text : Stmt := top 36
noncomputable abbrev s_law_kinds : Stmt := top 37
noncomputable abbrev s_law_word : Stmt := top 38
noncomputable abbrev s_law_alike : Stmt := top 39
noncomputable abbrev s_law_number : Stmt := top 40
noncomputable abbrev s_law_row_way : Stmt := top 41
noncomputable abbrev s_law_read : Stmt := top 42
noncomputable abbrev s_law_any_sign : Stmt := top 43
noncomputable abbrev s_law_bent : Stmt := top 44
noncomputable abbrev s_law : Stmt := top 45
structure Txt (mg : Str → Option Value) : Prop where
  b_isinstance : mg "isinstance" = none
  b_int : mg "int" = none
  b_bool : mg "bool" = none
  b_str : mg "str" = none
  b_tuple : mg "tuple" = none
  b_len : mg "len" = none
  b_all : mg "all" = none
  b_sum : mg "sum" = none
  b_range : mg "range" = none
  b_list : mg "list" = none
  b_zip : mg "zip" = none
  b_enumerate : mg "enumerate" = none
  b_max : mg "max" = none
  b_repr : mg "repr" = none
  b_ValueError : mg "ValueError" = none
  g_MOST_ROOMS : GInt mg "MOST_ROOMS" 12
  g_MOST_PURSES : GInt mg "MOST_PURSES" 6
  g_MOST_WAYS : GInt mg "MOST_WAYS" 60
  g_MOST_GAIN : GInt mg "MOST_GAIN" 99
  g_BETWEEN_ROWS : GStr mg "BETWEEN_ROWS" " / "
  g_FIGURES : GStr mg "FIGURES" "0123456789"
  g_MOST_FIGURES : GInt mg "MOST_FIGURES" 100
variable {z : Er}
section
variable {P : Program} {w : World} {K : PySem.W.Frag} {mg : Str → Option Value} {base : Heap}
theorem sc_law_mix : FnScope ["one"] ["one"] (defScope s_law_mix) := ⟨rfl, rfl, rfl, by decide +kernel, rfl, by decide +kernel, by decide +kernel⟩
theorem ok_law_mix (T : Txt mg) (D : Def K mg "_law_mix" s_law_mix ["one"]) : Cal P w K mg base "_law_mix" 1 ["one"] spMix := by
  refine D.cal fun f fd F => F.ok sc_law_mix (fun vs H Q E h => ?_) (fun cdv A outer s H vs Q E hr h => ?_)
  · obtain ⟨n, rfl, _⟩ := h
    rfl
  obtain ⟨n, rfl, h0, h1, q⟩ := h
  refine ⟨_, (@pss_cons _ _ _ _ _ (ps_set (i := 0) sc_law_mix.nd rfl (Or.inl rfl) (pe_op op_mod (pe_op op_mul (pe_op op_xor (pv 0) (pe_op op_fdivB (pv 0) pe_int)) pe_int) pe_int))
      (@pss_cons _ _ _ _ _ (ps_set (i := 0) sc_law_mix.nd rfl (Or.inl rfl) (pe_op op_mod (pe_op op_mul (pe_op op_xor (pv 0) (pe_op op_fdivB (pv 0) pe_int)) pe_int) pe_int))
      (@pss_one _ _ _ (@ps_ret _ _ _ _ (pe_op op_xor (pv 0) (pe_op op_fdivB (pv 0) pe_int)))))), ?_⟩
  have m : ∀ z : Int, 0 ≤ z % 18446744073709551616 ∧ z % 18446744073709551616 < 18446744073709551616 := fun z => ⟨Int.emod_nonneg _ (by decide), Int.emod_lt_of_pos _ (by decide)⟩
  have xb : ∀ z : Int, (0 ≤ z ∧ z < 18446744073709551616) → 0 ≤ Builtin.bitXor z (z / 2147483648) ∧ Builtin.bitXor z (z / 2147483648) < 2 ^ 64 := fun z hz => xor_bound (by omega) (by omega) (by omega) (by omega)
  refine ⟨_, rfl, _, rfl, _, _, rfl, rfl, cdivB_of (by decide) (by decide +kernel), _, _, rfl, rfl, _, _, rfl, rfl, .inr ⟨by decide, by decide⟩, _, _, rfl, rfl, (show (0 : Int) < 18446744073709551616 by decide), ?_⟩
  refine ⟨_, rfl, _, rfl, _, _, rfl, rfl, cdivB_of (by decide) (by decide +kernel), _, _, rfl, rfl, _, _, rfl, rfl, .inr ⟨by decide, by decide⟩, _, _, rfl, rfl, (show (0 : Int) < 18446744073709551616 by decide), ?_⟩
  refine ⟨_, rfl, _, rfl, _, _, rfl, rfl, cdivB_of (by decide) (by decide +kernel), _, _, rfl, rfl, ?_⟩
  exact q _ (xb _ (m _)).1 (xb _ (m _)).2
theorem sc_law_jar : FnScope ["script", "seed", "cell"] ["script"] (defScope s_law_jar) := ⟨rfl, rfl, rfl, by decide +kernel, rfl, by decide +kernel, by decide +kernel⟩
theorem ok_law_jar (T : Txt mg) (D : Def K mg "_law_jar" s_law_jar ["script"]) (c__law_mix : Cal P w K mg base "_law_mix" 1 ["one"] spMix) : Cal P w K mg base "_law_jar" 2 ["script"] (spJar K) := by
  refine D.cal fun f fd F => F.ok sc_law_jar (fun vs H Q E h => ?_) (fun cdv A outer s H vs Q E hr h => ?_)
  · obtain ⟨a, ns, rfl, _⟩ := h
    rfl
  obtain ⟨a, ns, rfl, hS, hlen, q⟩ := h
  refine ⟨_, (@pss_cons _ _ _ _ _ (ps_set (i := 1) sc_law_jar.nd rfl (Or.inl rfl) pe_int)
      (@pss_cons _ _ _ _ _ (ps_for PassesOwn.never rfl (pi_list (pe_slice sl_list (pv 0) po_none (po_some pe_int))) (pg_name (i := 2) sc_law_jar.nd rfl (Or.inl rfl) (Or.inl rfl))
      (@pss_one _ _ _ (ps_set (i := 1) sc_law_jar.nd rfl (Or.inl rfl) (pe_c c__law_mix (hr.mono (by decide)) rfl (pa_binop (pe_op op_mod (pe_op op_add (pe_op op_mul (pv 1) pe_int) (pv 2)) pe_int) pa_nil)))))
      (@pss_one _ _ _ (@ps_ret _ _ _ _ (pe_disp (pps_cons pe_str (pe_callTy call_list_of rfl T.b_list boot_list (pa_sub (pe_slice sl_list (pv 0) po_none (po_some pe_int)) pa_nil)) (pps_cons pe_str pe_int (pps_cons pe_str (pv 1) (pps_cons pe_str pe_int pps_nil)))) rfl rfl (by simp) (by simp)))))), ?_⟩
  obtain ⟨ms, ems, lms⟩ := cutV_ints ns none (some 63)
  refine seq_by (fun σ' H' => ∃ (x : Option V) (sd : Int), σ' = [some (.ref a), some (.int sd), x] ∧ Kp [] H H' ∧ 0 ≤ sd ∧ sd < 2 ^ 64) (fun N hN => hN _ _ ⟨none, 2545678901234567, rfl, .refl, by decide, by decide⟩) ?_
  rintro σ1 H1 ⟨x1, sd1, rfl, k1, b1, b2⟩
  have hS1 : SqL K H1 a (ns.map V.int) := (show Same H H1 from fun b o e => k1 b o e (by simp)).seq hS
  refine seq_by (fun σ' H' => ∃ (x : Option V) (sd : Int), σ' = [some (.ref a), some (.int sd), x] ∧ Kp [] H H' ∧ 0 ≤ sd ∧ sd < 2 ^ 64) (fun N hN => ?_) ?_
  · refine ⟨_, rfl, _, rfl, a, _, rfl, hS1, fun p hp => ?_⟩
    rw [ems]
    refine ⟨p, rfl, ⟨_, SqL.of upd_same⟩, for_list (K := K) (a := p) (xs := ms.map V.int) (fun i σ H2 => ∃ (x : Option V) (sd : Int), σ = [some (.ref a), some (.int sd), x] ∧ Kp [] (upd H1 p (.lst (ms.map V.int))) H2 ∧ 0 ≤ sd ∧ sd < 2 ^ 64)
      ⟨x1, sd1, rfl, .refl, b1, b2⟩ (fun i σ H2 _ ⟨_, _, _, k2, _⟩ => SqL.of (k2 _ _ upd_same (by simp))) ?_ ?_⟩
    · rintro i y σ H2 hi ⟨x2, sd2, rfl, k2, c1, c2⟩
      obtain ⟨z, rfl⟩ : ∃ z, y = V.int z := by
        rw [List.getElem?_map] at hi
        cases e : ms[i]? with
        | none => rw [e] at hi; cases hi
        | some z => rw [e] at hi; exact ⟨z, (Option.some.inj hi).symm⟩
      refine ⟨_, rfl, _, _, rfl, rfl, .inr ⟨by decide, by decide⟩, _, rfl, _, _, rfl, rfl, _, _, rfl, rfl, (show (0 : Int) < 18446744073709551616 by decide), _, rfl, Int.emod_nonneg _ (by decide), Int.emod_lt_of_pos _ (by decide), fun r r0 r1 => ?_⟩
      exact ⟨_, r, rfl, k2, r0, r1⟩
    · rintro σ H2 ⟨x2, sd2, rfl, k2, c1, c2⟩
      exact hN _ _ ⟨x2, sd2, rfl, k1.trans ((Kp.new hp _).trans k2), c1, c2⟩
  · rintro σ2 H2 ⟨x2, sd2, rfl, k2, c1, c2⟩
    have hS2 : SqL K H2 a (ns.map V.int) := (show Same H H2 from fun b o e => k2 b o e (by simp)).seq hS
    intro p hp
    have kp : Kp [] H2 (upd H2 p (.dK [])) := Kp.new hp _
    refine ⟨_, rfl, _, rfl, a, _, rfl, (show Same H2 _ from fun b o e => kp b o e (by simp)).seq hS2, fun l1 hl1 => ?_⟩
    rw [ems]
    refine ⟨l1, _, rfl, .inl (SqL.of upd_same), fun l2 hl2 => ?_⟩
    have n1 : l1 ≠ p := fun z => by rw [z, upd_same] at hl1; cases hl1
    have n2 : l2 ≠ p := fun z => by rw [z, upd_ne (Ne.symm n1), upd_same] at hl2; cases hl2
    refine ⟨_, rfl, ?_⟩
    refine ⟨by rw [upd_ne (Ne.symm n2), upd_ne (Ne.symm n1), upd_same], [(Sum.inr "cells", V.ref l2), (Sum.inr "rest", V.int 0), (Sum.inr "seed", V.int sd2), (Sum.inr "turn", V.int 0)], rfl, (show 4 ≤ 15 by decide), ?_⟩
    have k3 : Kp [] H2 (upd (upd (upd H2 p (.dK [])) l1 (.lst (ms.map V.int))) l2 (.lst (ms.map V.int))) := kp.trans ((Kp.new hl1 _).trans (Kp.new hl2 _))
    have hl2' : H2 l2 = none := by
      rw [upd_ne (fun z => by rw [z, upd_same] at hl2; cases hl2), upd_ne n2] at hl2; exact hl2
    refine q p l2 _ (k2.trans (fun b o e _ => ?_)) ?_ ?_ ⟨ms, 0, sd2, (0, none), ?_, ?_, by omega, c1, c2⟩
    · rw [upd_ne (ne_of_none e hp)]; exact k3 b o e (by simp)
    · exact (show Same H H2 from fun b o e => k2 b o e (by simp)).free hp
    · exact (show Same H H2 from fun b o e => k2 b o e (by simp)).free hl2'
    · rw [upd_same, ← jar_made]
    · rw [upd_ne n2, upd_same]
theorem sc_law_pick : FnScope ["jar", "many", "cell", "one", "found"] ["jar", "many"] (defScope s_law_pick) := ⟨rfl, rfl, rfl, by decide +kernel, rfl, by decide +kernel, by decide +kernel⟩
theorem ok_law_pickE (T : Txt mg) (D : Def K mg "_law_pick" s_law_pick ["jar", "many"]) (c__law_mix : Cal P w K mg base "_law_mix" 1 ["one"] spMix) : Cal P w K mg base "_law_pick" 2 ["jar", "many"] spPickE := by
  refine D.cal fun f fd F => F.ok sc_law_pick (fun vs H Q E h => ?_) (fun cdv A outer s H vs Q E hr h => ?_)
  · obtain ⟨p, c, n, e, rfl, _⟩ := h
    rfl
  obtain ⟨p, c, n, e, rfl, J, h0, h1, q⟩ := h
  refine ⟨_, (@pss_cons _ _ _ _ _ (ps_if (pt_cmpR op_lt (pe_dget (hu_of hr) (pv 0) pe_str (fun _ _ => rfl)) (pv 1) (nomark _)) (@pss_cons _ _ _ _ _ (ps_dput (hu_of hr) (pv 0) pe_str (pe_op op_add (pe_dget (hu_of hr) (pv 0) pe_str (fun _ _ => rfl)) pe_int) rfl)
      (@pss_one _ _ _ (ps_if (pt_cmpR (op_neD hr.units) (pe_dget (hu_of hr) (pv 0) pe_str (fun _ _ => rfl)) (@PEs.out _ _ _ (pes_lst pas_nil)) (nomark _)) (@pss_cons _ _ _ _ _ (ps_set (i := 2) sc_law_pick.nd rfl (Or.inl rfl) (pe_bm PySem.F.plainAttrs_list PySem.F.slot_list_pop PySem.F.type_list_pop mt_popAt (pe_dget (hu_of hr) (pv 0) pe_str (fun _ _ => rfl)) (pa_const pe_int pa_nil)))
      (@pss_cons _ _ _ _ _ (ps_dput (hu_of hr) (pv 0) pe_str (pv 2) rfl)
      (@pss_one _ _ _ (ps_if (pt_cmpR op_lt (pv 2) (pe_op op_pow pe_int pe_int) (nomark _)) (@pss_cons _ _ _ _ _ (ps_set (i := 3) sc_law_pick.nd rfl (Or.inl rfl) (pe_c c__law_mix (hr.mono (by decide)) rfl (pa_binop (pe_op op_mod (pe_op op_add (pe_op op_mul (pv 2) pe_int) (pe_dget (hu_of hr) (pv 0) pe_str (fun _ _ => rfl))) pe_int) pa_nil)))
      (@pss_one _ _ _ (ps_dput (hu_of hr) (pv 0) pe_str (pe_op op_add (pe_op op_mul (pv 3) pe_int) (pe_c c__law_mix (hr.mono (by decide)) rfl (pa_binop (pe_op op_xor (pv 3) pe_int) pa_nil))) rfl))) pss_nil)))) (@pss_cons _ _ _ _ _ (ps_dput (hu_of hr) (pv 0) pe_str (pe_c c__law_mix (hr.mono (by decide)) rfl (pa_binop (pe_op op_mod (pe_op op_add (pe_dget (hu_of hr) (pv 0) pe_str (fun _ _ => rfl)) pe_int) pe_int) pa_nil)) rfl)
      (@pss_one _ _ _ (ps_dput (hu_of hr) (pv 0) pe_str (pe_dget (hu_of hr) (pv 0) pe_str (fun _ _ => rfl)) rfl)))))) pss_nil)
      (@pss_cons _ _ _ _ _ (ps_set (i := 4) sc_law_pick.nd rfl (Or.inl rfl) (pe_op op_mod (pe_dget (hu_of hr) (pv 0) pe_str (fun _ _ => rfl)) (pv 1)))
      (@pss_cons _ _ _ _ _ (ps_dput (hu_of hr) (pv 0) pe_str (pe_op op_fdivB (pe_dget (hu_of hr) (pv 0) pe_str (fun _ _ => rfl)) (pv 1)) rfl)
      (@pss_one _ _ _ (@ps_ret _ _ _ _ (pv 4)))))), ?_⟩
  refine seq_by (fun σ' H' => ∃ x y : Option V, σ' = [some (.ref p), some (.int n), x, y, none] ∧ JarE H' p c e ∧ Kp [p, c] H H') (fun N hN => ?_) ?_
  · obtain ⟨ns, r, sd, tn, X, hl, s0, s1⟩ := J
    refine ⟨_, rfl, p, _, rfl, X.rest, _, rfl, _, _, rfl, rfl, _, rfl, ?_⟩
    refine ite_b (fun cc => ?_) (fun cc => hN _ _ ⟨none, none, rfl, ⟨ns, r, sd, tn, X, hl, s0, s1⟩, .refl⟩)
    -- turn
    refine ⟨_, rfl, p, _, rfl, X.turn, _, _, rfl, rfl, _, rfl, p, _, rfl, X.pTurn _, ?_⟩
    have X1 := X.put r sd (tn + 1, e)
    have k1 : Kp [p, c] H (upd H p (.dK (jarKV c r sd (tn + 1, e)))) := Kp.at (by simp) _
    generalize upd H p (.dK (jarKV c r sd (tn + 1, e))) = H1 at X1 k1 ⊢
    refine ⟨_, rfl, p, _, rfl, X1.cells, (by decide), fun l hl1 => ?_⟩
    have X2 : JarX (upd H1 l (.lst [])) p c ns r sd (tn + 1, e) := X1.new hl1
    have k2 : Kp [p, c] H (upd H1 l (.lst [])) := k1.trans (Kp.new hl1 _)
    refine ⟨[], .list (ns.map PyData.int), .list [], .list X2.l (by simp) (by rw [List.length_map]; exact Nat.le_trans hl (by decide)) (Reps.ints ns), .list upd_same (by simp) (by simp) .nil, canLay_ints ns, rfl, Nat.le_trans (Nat.min_le_right _ _) (by decide), _, rfl, ?_⟩
    rw [eqv_nil]
    generalize upd H1 l (.lst []) = H2 at X2 k2 ⊢
    cases ns with
    | nil =>
      refine iteF ?_
      refine ⟨_, rfl, p, _, rfl, X2.seed, _, _, rfl, rfl, _, _, rfl, rfl, (show (0 : Int) < 18446744073709551616 by decide), _, rfl, Int.emod_nonneg _ (by decide), Int.emod_lt_of_pos _ (by decide), fun m m0 m1 => ?_⟩
      refine ⟨_, rfl, p, _, rfl, X2.pSeed m, ?_⟩
      have X3 := X2.put r m (tn + 1, e)
      refine ⟨_, rfl, p, _, rfl, X3.seed, _, rfl, p, _, rfl, X3.pRest m, ?_⟩
      exact hN _ _ ⟨none, none, rfl, (X3.put m m (tn + 1, e)).jarE hl m0 m1, k2.trans ((Kp.at (by simp) _).trans (Kp.at (by simp) _))⟩
    | cons n0 ns =>
      refine iteT ?_
      refine ⟨_, rfl, p, _, rfl, X2.cells, .inl ⟨rfl, _, SqL.of X2.l⟩, c, _, 0, 0, V.int n0, rfl, rfl, X2.l, by decide, by decide, by rw [List.length_map]; exact seqIndex_0 _, rfl, ?_⟩
      have X3 : JarX (upd H2 c (.lst (List.eraseIdx ((n0 :: ns).map V.int) 0))) p c ns r sd (tn + 1, e) := X2.cut ns
      have k3 : Kp [p, c] H (upd H2 c (.lst (List.eraseIdx ((n0 :: ns).map V.int) 0))) := k2.trans (Kp.at (by simp) _)
      generalize upd H2 c (.lst (List.eraseIdx ((n0 :: ns).map V.int) 0)) = H3 at X3 k3 ⊢
      have hl' : ns.length ≤ 63 := by rw [List.length_cons] at hl; omega
      refine ⟨_, rfl, _, rfl, p, _, rfl, X3.pRest n0, ?_⟩
      have X4 := X3.put n0 sd (tn + 1, e)
      have k4 : Kp [p, c] H (upd H3 p (.dK (jarKV c n0 sd (tn + 1, e)))) := k3.trans (Kp.at (by simp) _)
      generalize upd H3 p (.dK (jarKV c n0 sd (tn + 1, e))) = H4 at X4 k4 ⊢
      refine ⟨_, rfl, _, _, rfl, rfl, ⟨by decide, by decide, by decide⟩, _, _, rfl, rfl, _, rfl, ?_⟩
      refine ite_b (fun cc => ?_) (fun cc => hN _ _ ⟨_, none, rfl, X4.jarE hl' s0 s1, k4⟩)
      refine ⟨_, rfl, _, _, rfl, rfl, .inr ⟨by decide, by decide⟩, _, rfl, p, _, rfl, X4.turn, _, _, rfl, rfl, _, _, rfl, rfl, (show (0 : Int) < 18446744073709551616 by decide), _, rfl, Int.emod_nonneg _ (by decide), Int.emod_lt_of_pos _ (by decide), fun m m0 m1 => ?_⟩
      refine ⟨_, rfl, _, _, rfl, rfl, .inl ⟨by omega, by omega⟩, _, rfl, _, _, rfl, rfl, _, rfl, (xor_bound m0 m1 (by decide) (by decide)).1, (xor_bound m0 m1 (by decide) (by decide)).2, fun m' m'0 m'1 => ?_⟩
      refine ⟨_, _, rfl, rfl, _, rfl, p, _, rfl, X4.pRest _, ?_⟩
      exact hN _ _ ⟨_, _, rfl, (X4.put _ sd (tn + 1, e)).jarE hl' s0 s1, k4.trans (Kp.at (by simp) _)⟩
  · rintro σ1 H1 ⟨x, y, rfl, J1, k1⟩
    obtain ⟨ns, r, sd, tn, X, hl, s0, s1⟩ := J1
    refine ⟨_, rfl, p, _, rfl, X.rest, _, rfl, _, _, rfl, rfl, h0, ?_⟩
    refine ⟨_, rfl, p, _, rfl, X.rest, _, rfl, _, _, rfl, rfl, cdivB_of h0 h1, _, rfl, p, _, rfl, X.pRest _, ?_⟩
    refine ⟨_, rfl, ?_⟩
    exact q _ _ (Int.emod_nonneg _ (by omega)) (Int.emod_lt_of_pos _ h0) ((X.put _ sd (tn, e)).jarE hl s0 s1) (k1.trans (Kp.at (by simp) _))
theorem sc_law_gain : FnScope ["jar", "way"] ["jar"] (defScope s_law_gain) := ⟨rfl, rfl, rfl, by decide +kernel, rfl, by decide +kernel, by decide +kernel⟩
theorem ok_law_gain (T : Txt mg) (D : Def K mg "_law_gain" s_law_gain ["jar"]) (c__law_pick : Cal P w K mg base "_law_pick" 2 ["jar", "many"] (liftV gsPick)) : Cal P w K mg base "_law_gain" 3 ["jar"] (liftV gsGain) := by
  refine D.cal fun f fd F => F.ok sc_law_gain (lift_len ?_) (fun cdv A outer s H vs Q E hr h => ?_)
  · rintro as n P ⟨rfl, _⟩
    rfl
  refine ⟨_, (@pss_cons _ _ _ _ _ (ps_set (i := 1) sc_law_gain.nd rfl (Or.inl rfl) (pe_c c__law_pick (hr.mono (by decide)) rfl (pa_name (pv 0) (pa_const pe_int pa_nil))))
      (@pss_cons _ _ _ _ _ (ps_if (pt_cmpR op_lt (pv 1) pe_int (nomark _)) (@pss_one _ _ _ (@ps_ret _ _ _ _ (pe_ix ix_list (@PEs.out _ _ _ (pes_lst (pas_const pes_int (pas_const pes_int (pas_unary (pes_of (pe_un un_neg pe_int)) (pas_const pes_int (pas_unary (pes_of (pe_un un_neg pe_int)) pas_nil))))))) (pv 1) (fun _ _ => rfl)))) pss_nil)
      (@pss_one _ _ _ (@ps_ret _ _ _ _ (pe_ifExp (pt_cmpR op_eq (pv 1) pe_int (nomark _)) (pe_op op_sub (pe_c c__law_pick (hr.mono (by decide)) rfl (pa_name (pv 0) (pa_const pe_int pa_nil))) pe_int) (pe_op op_sub (pe_c c__law_pick (hr.mono (by decide)) rfl (pa_name (pv 0) (pa_const pe_int pa_nil))) pe_int)))))), lift_body h ?_⟩
  rintro as n P ⟨rfl, q⟩
  refine ⟨rfl, 7, rfl, by decide, by decide +kernel, fun r r0 r1 => ⟨[.jar, .d (.int r)], .eq rfl, ?_⟩⟩
  refine ite_b (fun c => ?_) (fun c => ⟨_, .refl, ?_⟩)
  · have hr5 : r < 5 := of_decide_eq_true c
    refine ⟨by decide, ?_⟩
    have : r = 0 ∨ r = 1 ∨ r = 2 ∨ r = 3 ∨ r = 4 := by omega
    rcases this with rfl | rfl | rfl | rfl | rfl
    · exact ⟨_, rfl, q 0 (by decide) (by decide)⟩
    · exact ⟨_, rfl, q 1 (by decide) (by decide)⟩
    · exact ⟨_, rfl, q (-1) (by decide) (by decide)⟩
    · exact ⟨_, rfl, q 2 (by decide) (by decide)⟩
    · exact ⟨_, rfl, q (-2) (by decide) (by decide)⟩
  · refine ite_b (fun c => ?_) (fun c => ?_)
    · exact ⟨7, rfl, by decide, by decide +kernel, fun z z0 z1 => q _ (by omega) (by omega)⟩
    · exact ⟨199, rfl, by decide, by decide +kernel, fun z z0 z1 => q _ (by omega) (by omega)⟩
theorem sc_law_book : FnScope ["jar", "most_rooms", "most_ways", "rooms", "purses", "ways", "k", "first", "last"] ["jar", "most_rooms", "most_ways"] (defScope s_law_book) := ⟨rfl, rfl, rfl, by decide +kernel, rfl, by decide +kernel, by decide +kernel⟩
theorem ok_law_book (T : Txt mg) (D : Def K mg "_law_book" s_law_book ["jar", "most_rooms", "most_ways"]) (c__law_pick : Cal P w K mg base "_law_pick" 2 ["jar", "many"] (liftV gsPick)) (c__law_gain : Cal P w K mg base "_law_gain" 3 ["jar"] (liftV gsGain)) : Cal P w K mg base "_law_book" 4 ["jar", "most_rooms", "most_ways"] (liftV gsBook) := by
  refine D.cal fun f fd F => F.ok sc_law_book (lift_len ?_) (fun cdv A outer s H vs Q E hr h => ?_)
  · rintro as n P ⟨mr, mw, rfl, _⟩
    rfl
  refine ⟨_, (@pss_cons _ _ _ _ _ (ps_set (i := 3) sc_law_book.nd rfl (Or.inl rfl) (pe_op op_add pe_int (pe_c c__law_pick (hr.mono (by decide)) rfl (pa_name (pv 0) (pa_name (pv 1) pa_nil)))))
      (@pss_cons _ _ _ _ _ (ps_set (i := 4) sc_law_book.nd rfl (Or.inl rfl) (pe_ix ix_list (@PEs.out _ _ _ (pes_lst (pas_const pes_int (pas_const pes_int (pas_const pes_int (pas_const pes_int (pas_const pes_int (pas_const pes_int pas_nil)))))))) (pe_c c__law_pick (hr.mono (by decide)) rfl (pa_name (pv 0) (pa_const pe_int pa_nil))) (fun _ _ => rfl)))
      (@pss_cons _ _ _ _ _ (@ps_setD _ _ 5 _ _ _ _ sc_law_book.nd rfl (Or.inl rfl) (pes_lst pas_nil) rfl (Or.inl rfl))
      (@pss_cons _ _ _ _ _ (ps_for PassesOwn.never rfl (pi_range1 rfl T.b_range (pa_call (pe_c c__law_pick (hr.mono (by decide)) rfl (pa_name (pv 0) (pa_binop (pe_op op_add (pv 2) pe_int) pa_nil))) pa_nil)) (pg_name (i := 6) sc_law_book.nd rfl (Or.inl rfl) (Or.inl rfl))
      (@pss_cons _ _ _ _ _ (ps_set (i := 7) sc_law_book.nd rfl (Or.inl rfl) (pe_c c__law_pick (hr.mono (by decide)) rfl (pa_name (pv 0) (pa_name (pv 3) pa_nil))))
      (@pss_cons _ _ _ _ _ (ps_set (i := 8) sc_law_book.nd rfl (Or.inl rfl) (pe_c c__law_pick (hr.mono (by decide)) rfl (pa_name (pv 0) (pa_name (pv 3) pa_nil))))
      (@pss_one _ _ _ (ps_expr (pe_bm PySem.F.plainAttrs_list PySem.F.slot_list_append PySem.F.type_list_append mt_append (pv 5) (pa_tuple (@PEs.out _ _ _ (pes_tup (pas_name (pes_of (pv 7)) (pas_name (pes_of (pv 8)) (pas_call (pes_of (pe_callTy call_tuple_of rfl T.b_tuple boot_tuple (pa_comp (pe_comp (sc := (defScope s_law_book)) (N := ["jar", "most_rooms", "most_ways", "rooms", "purses", "ways", "k", "first", "last"]) (N' := ["p", "jar"]) (k := 1) (idx := [0]) rfl (by exact ⟨rfl, by decide +kernel, by decide +kernel, by decide +kernel, by decide +kernel, by decide +kernel, rfl, rfl⟩) rfl rfl (pi_range1 rfl T.b_range (pa_name (pv 4) pa_nil)) (fun _ _ _ _ => (pg_name (i := 0) (show (["p", "jar"] : List Str).Nodup by decide +kernel) rfl (Or.inl rfl) (Or.inr rfl))) (fun _ _ _ _ => pts_nil) (fun _ _ _ _ => (pe_c c__law_gain (hr.mono (by decide)) rfl (pa_name (pv 1) pa_nil)))) pa_nil))) pas_nil))))) pa_nil)))))))
      (@pss_one _ _ _ (@ps_ret _ _ _ _ (@PEs.out _ _ _ (pes_tup (pas_name (pes_of (pv 3)) (pas_name (pes_of (pv 4)) (pas_call (pes_of (pe_callTy call_tuple_of rfl T.b_tuple boot_tuple (pa_name (pv 5) pa_nil))) pas_nil))))))))))), lift_body h ?_⟩
  rintro as n P ⟨mr, mw, rfl, hr, hw, q⟩
  have hs : sizeLine = 16777216 := sizeLine_eq
  refine ⟨rfl, mr, rfl, by omega, small9000 (by omega), fun r r0 r1 => ⟨[.jar, .d (.int mr), .d (.int mw), .d (.int (1 + r)), .jnk, .jnk, .jnk, .jnk, .jnk], .eq rfl, ?_⟩⟩
  refine ⟨by decide, 6, rfl, by decide, by decide +kernel, fun u u0 u1 => ?_⟩
  obtain ⟨U, hU, hUm⟩ := at_ok (xs := [PyData.int 1, .int 2, .int 2, .int 3, .int 4, .int 6]) u0 u1
  obtain ⟨U, rfl, hU0, hU1⟩ : ∃ k : Int, U = .int k ∧ 1 ≤ k ∧ k ≤ 6 := by
    simp only [List.mem_cons, List.not_mem_nil, or_false] at hUm
    rcases hUm with rfl | rfl | rfl | rfl | rfl | rfl <;> exact ⟨_, rfl, by decide, by decide⟩
  refine ⟨_, hU, ⟨[.jar, .d (.int mr), .d (.int mw), .d (.int (1 + r)), .d (.int U), .jnk, .jnk, .jnk, .jnk], .eq rfl, ?_⟩⟩
  refine ⟨by decide, ⟨[.jar, .d (.int mr), .d (.int mw), .d (.int (1 + r)), .d (.int U), .own [], .jnk, .jnk, .jnk], .eq rfl, ?_⟩⟩
  refine ⟨mw + 1, rfl, by omega, small9000 (by omega), fun m m0 m1 => ⟨m, rfl, ⟨by omega, by omega⟩, ?_⟩⟩
  refine ⟨fun i env n' => n' = n ∧ ∃ (ws : List Way) (x y z : Vl), env = [.jar, .d (.int mr), .d (.int mw), .d (.int (1 + r)), .d (.int U), .own (ws.map wayPD), x, y, z] ∧ ws.length = i ∧ ∀ w ∈ ws, WayOk (1 + r) U w, ⟨rfl, [], _, _, _, rfl, rfl, fun w hw => by cases hw⟩, ?_, ?_⟩
  · rintro i x env n' hx ⟨rfl, ws, _, _, _, rfl, hl, hws⟩
    have hi := (List.getElem?_eq_some_iff.mp hx).1
    rw [rngD_len] at hi
    refine ⟨1 + r, rfl, by omega, small9000 (by omega), fun a a0 a1 => ⟨_, .refl, ?_⟩⟩
    refine ⟨1 + r, rfl, by omega, small9000 (by omega), fun b b0 b1 => ⟨_, .refl, ?_⟩⟩
    refine ⟨U, rfl, ⟨by omega, by omega⟩, ⟨rfl, by rw [rngD_len]; omega⟩, ?_⟩
    refine cmpW_inv (fun y => ∃ g : Int, y = .int g ∧ -99 ≤ g ∧ g ≤ 99) (fun k => k = n') (fun x _ k K hk h => ?_) rfl (fun ys k hy hg hk => ?_)
    · exact ⟨rfl, fun g g0 g1 => h _ _ ⟨g, rfl, g0, g1⟩ hk⟩
    · subst hk
      obtain ⟨gs, rfl, hgs⟩ := ints_map hg
      rw [rngD_len, List.length_map] at hy
      refine ⟨three_line, by rw [List.length_map]; omega, rfl, ws ++ [⟨a, b, gs⟩], _, _, _, by rw [List.map_append]; rfl, by simp [hl], fun w hw => ?_⟩
      rcases List.mem_append.mp hw with hw | hw
      · exact hws w hw
      · rw [List.mem_singleton.mp hw]
        exact ⟨a0, a1, b0, b1, (show (gs.length : Int) = U by omega), hgs⟩
  · rintro env n' ⟨rfl, ws, _, _, _, rfl, hl, hws⟩
    rw [rngD_len] at hl
    refine ⟨_, .fz 5 _ rfl .refl, ?_⟩
    exact ⟨three_line, q (1 + r) U ws ⟨by omega, by omega, hU0, hU1, by omega, hws⟩ (by omega)⟩

theorem sc_law_alike : FnScope ["found", "due"] ["found", "due"] (defScope s_law_alike) := ⟨rfl, rfl, rfl, by decide +kernel, rfl, by decide +kernel, by decide +kernel⟩
theorem ok_law_alike (T : Txt mg) (D : Def K mg "_law_alike" s_law_alike ["found", "due"]) : ∀ n : Nat, Cal P w K mg base "_law_alike" (n + 1) ["found", "due"] (spAlike n) := by
  intro n
  induction n with
  | zero => exact D.cal fun f fd F => F.ok sc_law_alike (fun vs H Q E h => h.elim) (fun cdv A outer s H vs Q E hr h => h.elim)
  | succ n c__law_alike =>
  refine D.cal fun f fd F => F.ok sc_law_alike (fun vs H Q E h => ?_) (fun cdv A outer s H vs Q E hr h => ?_)
  · obtain ⟨ex, da, db, x, y, rfl, _⟩ := h
    rfl
  obtain ⟨ex, da, db, x, y, rfl, ra, rb, hlv, ⟨na, nb⟩, q⟩ := h
  have na' := noD_of na
  have nb' := noD_of nb
  refine ⟨_, (@pss_cons _ _ _ _ _ (ps_if (pt_cmpR op_isN (pv 1) pe_non (nomark _)) (@pss_one _ _ _ (@ps_ret _ _ _ _ (pe_cmpR op_isN (pv 0) pe_non (nomark _)))) pss_nil)
      (@pss_cons _ _ _ _ _ (ps_if (pt_val (pe_callB call_isD rfl T.b_isinstance boot_isinstance (pa_name (pv 1) (pa_name (pe_bltn rfl T.b_bool boot_bool (v := .ty "bool") rfl) pa_nil)))) (@pss_one _ _ _ (@ps_ret _ _ _ _ (pe_and (pe_callB call_isD rfl T.b_isinstance boot_isinstance (pa_name (pv 0) (pa_name (pe_bltn rfl T.b_bool boot_bool (v := .ty "bool") rfl) pa_nil))) (pe_one (pe_cmpR op_eq (pv 0) (pv 1) (nomark _)))))) pss_nil)
      (@pss_cons _ _ _ _ _ (ps_if (pt_val (pe_callB call_isD rfl T.b_isinstance boot_isinstance (pa_name (pv 1) (pa_name (pe_bltn rfl T.b_int boot_int (v := .ty "int") rfl) pa_nil)))) (@pss_one _ _ _ (@ps_ret _ _ _ _ (pe_and (pe_callB call_isD rfl T.b_isinstance boot_isinstance (pa_name (pv 0) (pa_name (pe_bltn rfl T.b_int boot_int (v := .ty "int") rfl) pa_nil))) (pe_and (pe_not (pe_callB call_isD rfl T.b_isinstance boot_isinstance (pa_name (pv 0) (pa_name (pe_bltn rfl T.b_bool boot_bool (v := .ty "bool") rfl) pa_nil)))) (pe_one (pe_cmpR op_eq (pv 0) (pv 1) (nomark _))))))) pss_nil)
      (@pss_cons _ _ _ _ _ (ps_if (pt_val (pe_callB call_isD rfl T.b_isinstance boot_isinstance (pa_name (pv 1) (pa_name (pe_bltn rfl T.b_str boot_str (v := .ty "str") rfl) pa_nil)))) (@pss_one _ _ _ (@ps_ret _ _ _ _ (pe_and (pe_callB call_isD rfl T.b_isinstance boot_isinstance (pa_name (pv 0) (pa_name (pe_bltn rfl T.b_str boot_str (v := .ty "str") rfl) pa_nil))) (pe_one (pe_cmpR op_eq (pv 0) (pv 1) (nomark _)))))) pss_nil)
      (@pss_cons _ _ _ _ _ (ps_if (PW.pt (pw_or (pt_cmpR op_ne (pe_callB call_isD rfl T.b_isinstance boot_isinstance (pa_name (pv 1) (pa_name (pe_bltn rfl T.b_tuple boot_tuple (v := .ty "tuple") rfl) pa_nil))) (pe_callB call_isD rfl T.b_isinstance boot_isinstance (pa_name (pv 0) (pa_name (pe_bltn rfl T.b_tuple boot_tuple (v := .ty "tuple") rfl) pa_nil))) (nomark _)) (pw_or1 (pt_cmpR op_ne (pe_callB call_isD rfl T.b_isinstance boot_isinstance (pa_name (pv 1) (pa_name (pe_bltn rfl T.b_list boot_list (v := .ty "list") rfl) pa_nil))) (pe_callB call_isD rfl T.b_isinstance boot_isinstance (pa_name (pv 0) (pa_name (pe_bltn rfl T.b_list boot_list (v := .ty "list") rfl) pa_nil))) (nomark _))))) (@pss_one _ _ _ (@ps_ret _ _ _ _ pe_bl)) pss_nil)
      (@pss_cons _ _ _ _ _ (ps_if (pt_cmpR op_ne (pe_callB call_len_seq rfl T.b_len PySem.boot_len (pa_name (pv 0) pa_nil)) (pe_callB call_len_seq rfl T.b_len PySem.boot_len (pa_name (pv 1) pa_nil)) (nomark _)) (@pss_one _ _ _ (@ps_ret _ _ _ _ pe_bl)) pss_nil)
      (@pss_one _ _ _ (@ps_ret _ _ _ _ (pe_callB call_all rfl T.b_all boot_all (pa_comp (pe_comp (sc := (defScope s_law_alike)) (N := ["found", "due"]) (N' := ["one", "other"]) (k := 2) (idx := []) rfl (by exact ⟨rfl, by decide +kernel, by decide +kernel, by decide +kernel, by decide +kernel, by decide +kernel, rfl, rfl⟩) rfl rfl (pi_zip rfl T.b_zip (pa_name (pv 0) (pa_name (pv 1) pa_nil))) (fun _ _ _ _ => (pg_pair (K' := K) (i := 0) (j := 1) rfl (show (["one", "other"] : List Str).Nodup by decide +kernel) ⟨rfl, (Or.inl rfl), (Or.inr rfl)⟩ ⟨rfl, (Or.inl rfl), (Or.inr rfl)⟩ rfl)) (fun _ _ _ _ => pts_nil) (fun _ _ _ _ => (pe_c c__law_alike (hr.mono (by omega)) rfl (pa_name (pv 0) (pa_name (pv 1) pa_nil))))) pa_nil)))))))))), ?_⟩
  refine seq_by (fun σ' H' => σ' = [some x, some y] ∧ H = H' ∧ y ≠ .non) (fun N hN => ?_) ?_
  · refine ⟨_, rfl, rfl, _, rfl, ite_b (fun c => ?_) (fun c => hN _ _ ⟨rfl, rfl, of_decide_eq_false c⟩)⟩
    have hy : y = .non := of_decide_eq_true c
    subst hy
    have := q H .refl
    rw [alike_non ra rb] at this
    exact ⟨_, rfl, rfl, this⟩
  rintro _ _ ⟨rfl, rfl, hy⟩
  refine seq_by (fun σ' H' => σ' = [some x, some y] ∧ H = H' ∧ instD db "bool" = false) (fun N hN => ?_) ?_
  · refine ⟨_, rfl, ex, db, _, _, rfl, rb, nb', isT_bool, _, rfl, ite_b (fun c => ?_) (fun c => hN _ _ ⟨rfl, rfl, c⟩)⟩
    obtain ⟨b, rfl⟩ := instD_b c
    refine ⟨_, rfl, ex, da, _, _, rfl, ra, na', isT_bool, _, rfl, ite_b (fun c => ?_) (fun c => ?_)⟩
    · obtain ⟨a, rfl⟩ := instD_b c
      cases ra; cases rb
      have := q H .refl
      refine ⟨_, rfl, _, rfl, rfl, ?_⟩
      have e : decide (V.bl a = V.bl b) = alikeD (.bool a) (.bool b) := by simp [alikeD]
      rw [e]; exact this
    · have := q H .refl
      rw [alike_noB c] at this; exact this
  rintro _ _ ⟨rfl, rfl, h1⟩
  refine seq_by (fun σ' H' => σ' = [some x, some y] ∧ H = H' ∧ instD db "int" = false) (fun N hN => ?_) ?_
  · refine ⟨_, rfl, ex, db, _, _, rfl, rb, nb', isT_int, _, rfl, ite_b (fun c => ?_) (fun c => hN _ _ ⟨rfl, rfl, c⟩)⟩
    obtain ⟨b, rfl⟩ := instD_i c h1
    refine ⟨_, rfl, ex, da, _, _, rfl, ra, na', isT_int, _, rfl, ite_b (fun c => ?_) (fun c => ?_)⟩
    · refine ⟨_, rfl, ex, da, _, _, rfl, ra, na', isT_bool, _, rfl, _, rfl, ite_b (fun c' => ?_) (fun c' => ?_)⟩
      · obtain ⟨a, rfl⟩ := instD_i c (by simpa using c')
        cases ra; cases rb
        have := q H .refl
        refine ⟨_, rfl, _, rfl, rfl, ?_⟩
        have e : decide (V.int a = V.int b) = alikeD (.int a) (.int b) := by simp [alikeD]
        rw [e]; exact this
      · have := q H .refl
        rw [alike_noI (.inr (by simpa using c'))] at this; exact this
    · have := q H .refl
      rw [alike_noI (.inl c)] at this; exact this
  rintro _ _ ⟨rfl, rfl, h2⟩
  refine seq_by (fun σ' H' => σ' = [some x, some y] ∧ H = H' ∧ instD db "str" = false) (fun N hN => ?_) ?_
  · refine ⟨_, rfl, ex, db, _, _, rfl, rb, nb', isT_str, _, rfl, ite_b (fun c => ?_) (fun c => hN _ _ ⟨rfl, rfl, c⟩)⟩
    obtain ⟨b, rfl⟩ := instD_s c
    refine ⟨_, rfl, ex, da, _, _, rfl, ra, na', isT_str, _, rfl, ite_b (fun c => ?_) (fun c => ?_)⟩
    · obtain ⟨a, rfl⟩ := instD_s c
      cases ra; cases rb
      have := q H .refl
      refine ⟨_, rfl, _, rfl, rfl, ?_⟩
      have e : decide (V.str a = V.str b) = alikeD (.str a) (.str b) := by simp [alikeD]
      rw [e]; exact this
    · have := q H .refl
      rw [alike_noS c] at this; exact this
  rintro _ _ ⟨rfl, rfl, h3⟩
  obtain ⟨b, ds, hdb⟩ := instD_row nb' rb hy h1 h2 h3
  refine seq_by (fun σ' H' => σ' = [some x, some y] ∧ H = H' ∧ ∃ es, rowD da = some (b, es)) (fun N hN => ?_) ?_
  · have no : (instD db "tuple" ≠ instD da "tuple" ∨ instD db "list" ≠ instD da "list") → Q (.bl false) H := fun hh => by
      have := q H .refl
      rw [alike_kinds hh] at this; exact this
    refine ⟨_, rfl, ex, db, _, _, rfl, rb, nb', isT_tuple, _, rfl, ex, da, _, _, rfl, ra, na', isT_tuple, rfl, _, rfl, ite_b (fun c => ?_) (fun c => ?_)⟩
    · exact no (.inl (by simpa using c))
    · refine ⟨_, rfl, ex, db, _, _, rfl, rb, nb', isT_list, _, rfl, ex, da, _, _, rfl, ra, na', isT_list, rfl, _, rfl, ite_b (fun c' => ?_) (fun c' => ?_)⟩
      · exact no (.inr (by simpa using c'))
      · exact hN _ _ ⟨rfl, rfl, instD_same ra hdb (by simpa using c) (by simpa using c')⟩
  rintro _ _ ⟨rfl, rfl, es, hda⟩
  obtain ⟨a1, vs, rfl, k1, s1, z1, r1⟩ := My.Rep.row (K := K) ra hda
  obtain ⟨a2, us, rfl, k2, s2, z2, r2⟩ := My.Rep.row (K := K) rb hdb
  have l1 := r1.length
  have l2 := r2.length
  have eal := alike_row hda hdb rfl
  refine seq_by (fun σ' H' => σ' = [some (.ref a1), some (.ref a2)] ∧ H = H' ∧ es.length = ds.length) (fun N hN => ?_) ?_
  · refine ⟨_, rfl, _, _, rfl, s1, _, rfl, _, _, rfl, s2, rfl, _, rfl, ite_b (fun c => ?_) (fun c => ?_)⟩
    · have := q H .refl
      have hne : es.length ≠ ds.length := by
        rw [l1, l2]
        intro z
        rw [z] at c
        simp at c
      rw [eal, alikeL_len hne] at this; exact this
    · refine hN _ _ ⟨rfl, rfl, ?_⟩
      have : (vs.length : Int) = us.length := by simpa using c
      omega
  rintro _ _ ⟨rfl, rfl, hlen⟩
  refine ⟨_, rfl, _, rfl, b, b, a1, a2, vs, us, rfl, k1, k2, fun l hl => ?_⟩
  have hmin : min vs.length us.length = es.length := by omega
  refine comp2_zip (fun i => .bl (alikeD (es.getD i .none) (ds.getD i .none))) k1 k2 es.length hmin (by omega) hl ?_ ?_
  · intro i u v H1 M hi hu hv kk hM
    obtain ⟨d1, e1, rd1⟩ := r1.getV hu
    obtain ⟨d2, e2, rd2⟩ := r2.getV hv
    have g1 : es.getD i .none = d1 := by rw [List.getD_eq_getElem?_getD, e1]; rfl
    have g2 : ds.getD i .none = d2 := by rw [List.getD_eq_getElem?_getD, e2]; rfl
    have hlv2 : lvD d2 ≤ lvL ds := lvL_mem (List.mem_of_getElem? e2)
    have hlv3 := rowD_lv hdb
    cases n with
    | zero => omega
    | succ n =>
      refine ⟨_, rfl, _, rfl, ex, d1, d2, u, v, rfl, rd1.keep (kk.of), rd2.keep (kk.of), by omega, ⟨noDict_mem (noDict_row na hda) (List.mem_of_getElem? e1), noDict_mem (noDict_row nb hdb) (List.mem_of_getElem? e2)⟩, fun H4 k4 => ?_⟩
      have := hM H4 k4
      rw [g1, g2] at this
      exact this
  · intro H1 kk hl1
    rw [map_bl] at hl1
    refine ⟨rfl, l, _, rfl, SqL.of hl1, ?_⟩
    have := q H1 kk
    rw [eal, ← alikeL_range hlen] at this
    exact this

theorem sc_is_whole : FnScope ["thing"] ["thing"] (defScope s_is_whole) := ⟨rfl, rfl, rfl, by decide +kernel, rfl, by decide +kernel, by decide +kernel⟩
theorem ok_is_whole (T : Txt mg) (D : Def K mg "is_whole" s_is_whole ["thing"]) : Cal P w K mg base "is_whole" 1 ["thing"] (liftV gsWholeB) := by
  refine D.cal fun f fd F => F.ok sc_is_whole (lift_len ?_) (fun cdv A outer s H vs Q E hr h => ?_)
  · rintro as n P ⟨x, rfl, _⟩
    rfl
  refine ⟨_, (@pss_one _ _ _ (@ps_ret _ _ _ _ (pe_and (pe_callB call_isD rfl T.b_isinstance boot_isinstance (pa_name (pv 0) (pa_name (pe_bltn rfl T.b_int boot_int (v := .ty "int") rfl) pa_nil))) (pe_one (pe_not (pe_callB call_isD rfl T.b_isinstance boot_isinstance (pa_name (pv 0) (pa_name (pe_bltn rfl T.b_bool boot_bool (v := .ty "bool") rfl) pa_nil)))))))), lift_body h ?_⟩
  rintro as n P ⟨x, rfl, nx, q⟩
  refine ⟨rfl, nx, ?_⟩
  refine ite_b (fun c => ⟨nx, ?_⟩) (fun c => ?_)
  · have e : (!instD x "bool") = wholeD x := by cases x <;> simp_all [instD, tyName, wholeD]
    show P (.bool (!instD x "bool")) n
    rw [e]; exact q
  · have e : wholeD x = false := by cases x <;> simp_all [instD, tyName, wholeD]
    rw [e] at q; exact q
theorem sc_is_between : FnScope ["thing", "least", "most"] ["thing", "least", "most"] (defScope s_is_between) := ⟨rfl, rfl, rfl, by decide +kernel, rfl, by decide +kernel, by decide +kernel⟩
theorem ok_is_between (T : Txt mg) (D : Def K mg "is_between" s_is_between ["thing", "least", "most"]) (c_is_whole : Cal P w K mg base "is_whole" 1 ["thing"] (liftV gsWholeB)) : Cal P w K mg base "is_between" 2 ["thing", "least", "most"] (liftV gsBetwB) := by
  refine D.cal fun f fd F => F.ok sc_is_between (lift_len ?_) (fun cdv A outer s H vs Q E hr h => ?_)
  · rintro as n P ⟨x, lo, hi, rfl, _⟩
    rfl
  refine ⟨_, (@pss_one _ _ _ (@ps_ret _ _ _ _ (pe_and (pe_c c_is_whole (hr.mono (by decide)) rfl (pa_name (pv 0) pa_nil)) (pe_one (pe_chain op_le op_le (pv 1) (pv 0) (pv 2)))))), lift_body h ?_⟩
  rintro as n P ⟨x, lo, hi, rfl, nx, q⟩
  refine ⟨rfl, x, rfl, nx, ?_⟩
  refine ite_b (fun c => ?_) (fun c => ?_)
  · obtain ⟨i, rfl⟩ := wholeD_int c
    have e : betwD (.int i) lo hi = (decide (lo ≤ i) && decide (i ≤ hi)) := rfl
    rw [e] at q
    show match PyData.bool (decide (lo ≤ i)) with | .bool true => _ | .bool false => _ | _ => _
    by_cases h1 : lo ≤ i
    · rw [decide_eq_true h1] at q ⊢
      exact q
    · rw [decide_eq_false h1] at q ⊢
      exact q
  · have e : betwD x lo hi = false := by cases x <;> first | rfl | cases c
    rw [e] at q; exact q
theorem sc_is_tuple_of : FnScope ["thing", "many"] ["thing", "many"] (defScope s_is_tuple_of) := ⟨rfl, rfl, rfl, by decide +kernel, rfl, by decide +kernel, by decide +kernel⟩
theorem ok_is_tuple_of (T : Txt mg) (D : Def K mg "is_tuple_of" s_is_tuple_of ["thing", "many"]) : Cal P w K mg base "is_tuple_of" 1 ["thing", "many"] (liftV gsTupB) := by
  refine D.cal fun f fd F => F.ok sc_is_tuple_of (lift_len ?_) (fun cdv A outer s H vs Q E hr h => ?_)
  · rintro as n P ⟨x, m, rfl, _⟩
    rfl
  refine ⟨_, (@pss_one _ _ _ (@ps_ret _ _ _ _ (pe_and (pe_callB call_isD rfl T.b_isinstance boot_isinstance (pa_name (pv 0) (pa_name (pe_bltn rfl T.b_tuple boot_tuple (v := .ty "tuple") rfl) pa_nil))) (pe_one (pe_cmpR op_eq (pe_callB call_len_seq rfl T.b_len PySem.boot_len (pa_name (pv 0) pa_nil)) (pv 1) (nomark _)))))), lift_body h ?_⟩
  rintro as n P ⟨x, m, rfl, nx, q⟩
  refine ⟨rfl, nx, ?_⟩
  refine ite_b (fun c => ?_) (fun c => ?_)
  · obtain ⟨xs, rfl⟩ := instD_tuple c
    exact fEq_i q
  · have e : tupD x m = false := by cases x <;> first | rfl | exact absurd rfl (instD_notuple c _)
    rw [e] at q; exact q
theorem sc_are_gains : FnScope ["thing", "purses"] ["thing", "purses"] (defScope s_are_gains) := ⟨rfl, rfl, rfl, by decide +kernel, rfl, by decide +kernel, by decide +kernel⟩
theorem ok_are_gains (T : Txt mg) (D : Def K mg "are_gains" s_are_gains ["thing", "purses"]) (c_is_tuple_of : Cal P w K mg base "is_tuple_of" 1 ["thing", "many"] (liftV gsTupB)) (c_is_between : Cal P w K mg base "is_between" 2 ["thing", "least", "most"] (liftV gsBetwB)) : Cal P w K mg base "are_gains" 3 ["thing", "purses"] (liftV gsGainsB) := by
  refine D.cal fun f fd F => F.ok sc_are_gains (lift_len ?_) (fun cdv A outer s H vs Q E hr h => ?_)
  · rintro as n P ⟨gs, U, rfl, _⟩
    rfl
  refine ⟨_, (@pss_one _ _ _ (@ps_ret _ _ _ _ (pe_and (pe_c c_is_tuple_of (hr.mono (by decide)) rfl (pa_name (pv 0) (pa_name (pv 1) pa_nil))) (pe_one (pe_callB call_all rfl T.b_all boot_all (pa_comp (pe_comp (sc := (defScope s_are_gains)) (N := ["thing", "purses"]) (N' := ["part"]) (k := 1) (idx := []) rfl (by exact ⟨rfl, by decide +kernel, by decide +kernel, by decide +kernel, by decide +kernel, by decide +kernel, rfl, rfl⟩) rfl rfl (pi_tup (pv 0)) (fun _ _ _ _ => (pg_name (i := 0) (show (["part"] : List Str).Nodup by decide +kernel) rfl (Or.inl rfl) (Or.inr rfl))) (fun _ _ _ _ => pts_nil) (fun _ _ _ _ => (pe_c c_is_between (hr.mono (by decide)) rfl (pa_name (pv 0) (pa_unary (pe_un un_neg (pe_gint T.g_MOST_GAIN rfl)) (pa_name (pe_gint T.g_MOST_GAIN rfl) pa_nil)))))) pa_nil)))))), lift_body h ?_⟩
  rintro as n P ⟨gs, U, rfl, hU, q⟩
  refine ⟨rfl, _, U, rfl, rfl, ?_⟩
  refine ite_b (fun c => ?_) (fun c => ?_)
  · have hx : ((gs.map PyData.int).length : Int) = U := by
      have c : decide (((gs.map PyData.int).length : Int) = U) = true := c
      exact of_decide_eq_true c
    have hs : sizeLine = 16777216 := sizeLine_eq
    refine ⟨⟨rfl, by omega⟩, cmpW_mapG (f := PyData.int) (fun x => .bool (betwD (.int x) (-99) 99)) (fun x hx n K hK => iteT ⟨.int x, -99, 99, rfl, rfl, hK⟩) ⟨gs.map fun x => betwD (.int x) (-99) 99, by rw [List.map_map]; rfl, rfl, ?_⟩⟩
    have e : gainsD (.tuple (gs.map PyData.int)) U = (gs.map fun x => betwD (.int x) (-99) 99).all id := by
      show (decide (((gs.map PyData.int).length : Int) = U) && (gs.map PyData.int).all fun x => betwD x (-99) 99) = _
      rw [decide_eq_true hx, Bool.true_and, List.all_map, List.all_map]; rfl
    rw [e] at q
    exact q
  · have e : gainsD (.tuple (gs.map PyData.int)) U = false := by
      have c : decide (((gs.map PyData.int).length : Int) = U) = false := c
      show (decide (((gs.map PyData.int).length : Int) = U) && (gs.map PyData.int).all fun x => betwD x (-99) 99) = false
      rw [c]; rfl
    rw [e] at q
    exact q

theorem sc_is_number : FnScope ["text", "figures"] ["text"] (defScope s_is_number) := ⟨rfl, rfl, rfl, by decide +kernel, rfl, by decide +kernel, by decide +kernel⟩
theorem ok_is_number (T : Txt mg) (D : Def K mg "is_number" s_is_number ["text"]) (c_is_between : Cal P w K mg base "is_between" 2 ["thing", "least", "most"] (liftV gsBetwB)) : Cal P w K mg base "is_number" 3 ["text"] (liftV gsIsNumA) := by
  refine D.cal fun f fd F => F.ok sc_is_number (lift_len ?_) (fun cdv A outer s H vs Q E hr h => ?_)
  · rintro as n P ⟨z, rfl, _⟩
    rfl
  refine ⟨_, (@pss_cons _ _ _ _ _ (ps_set (i := 1) sc_is_number.nd rfl (Or.inl rfl) (pe_ifExp (pt_val (pe_bm PySem.F.plainAttrs_str PySem.F.slot_str_startswith PySem.F.type_str_startswith mt_starts (pv 0) (pa_const pe_str pa_nil))) (pe_slice sl_str (pv 0) (po_some pe_int) po_none) (pv 0)))
      (@pss_cons _ _ _ _ _ (ps_if (PW.pt (pw_or (pt_not (pt_val (pe_c c_is_between (hr.mono (by decide)) rfl (pa_call (pe_callB call_len_str rfl T.b_len PySem.boot_len (pa_name (pv 1) pa_nil)) (pa_const pe_int (pa_name (pe_gint T.g_MOST_FIGURES rfl) pa_nil)))))) (pw_or1 (pt_not (pt_val (pe_callB call_all rfl T.b_all boot_all (pa_comp (pe_comp (sc := (defScope s_is_number)) (N := ["text", "figures"]) (N' := ["sign"]) (k := 1) (idx := []) rfl (by exact ⟨rfl, by decide +kernel, by decide +kernel, by decide +kernel, by decide +kernel, by decide +kernel, rfl, rfl⟩) rfl rfl (pi_str (pv 1)) (fun _ _ _ _ => (pg_name (i := 0) (show (["sign"] : List Str).Nodup by decide +kernel) rfl (Or.inl rfl) (Or.inr rfl))) (fun _ _ _ _ => pts_nil) (fun _ _ _ _ => (pe_cmpR op_in_str (pv 0) (pe_gstr T.g_FIGURES rfl) (by with_unfolding_all rfl)))) pa_nil))))))) (@pss_one _ _ _ (@ps_ret _ _ _ _ pe_bl)) pss_nil)
      (@pss_one _ _ _ (@ps_ret _ _ _ _ (pe_or (pe_cmpR op_ne (pe_ix ix_str (pv 1) pe_int (fun _ _ => rfl)) pe_str (nomark _)) (pe_one (pe_cmpR op_eq (pv 0) pe_str (nomark _)))))))), lift_body h ?_⟩
  rintro as n P ⟨z, rfl, hz, q⟩
  have hs : sizeLine = 16777216 := sizeLine_eq
  have hl := hz.l
  refine ⟨rfl, ?_⟩
  refine vseq (fun env k => k = n ∧ env = [.d (.str z), .d (.str (figS z))]) (fun M hM => ?_) ?_
  · refine ⟨_, rfl, ite_b (fun c => ⟨1, rfl, rfl, by omega, hM _ _ ⟨rfl, ?_⟩⟩) (fun c => hM _ _ ⟨rfl, ?_⟩)⟩
    · unfold figS
      rw [if_pos c]; rfl
    · unfold figS
      rw [if_neg (by rw [c]; decide)]; rfl
  rintro _ _ ⟨rfl, rfl⟩
  have fl : (figS z).length ≤ z.length := by
    unfold figS
    split
    · exact Txt.slice_le _ _ _
    · exact Nat.le_refl _
  refine ⟨_, .refl, by omega, _, 1, 100, rfl, rfl, ?_⟩
  have eb : betwD (.int ((figS z).length : Int)) 1 100 = (decide (1 ≤ (figS z).length) && decide ((figS z).length ≤ 100)) := by
    show (decide ((1 : Int) ≤ ((figS z).length : Int)) && decide (((figS z).length : Int) ≤ 100)) = _
    rw [decide_eq_decide.mpr (show ((1 : Int) ≤ ((figS z).length : Int)) ↔ 1 ≤ (figS z).length by omega), decide_eq_decide.mpr (show (((figS z).length : Int) ≤ 100) ↔ (figS z).length ≤ 100 by omega)]
  rw [eb]
  cases hb : (decide (1 ≤ (figS z).length) && decide ((figS z).length ≤ 100)) with
  | false =>
    have e : isNumB z = false := by unfold isNumB; rw [hb]; rfl
    rw [e] at q
    exact iteT (iteT q)
  | true =>
    have hb2 := hb
    rw [Bool.and_eq_true, decide_eq_true_eq, decide_eq_true_eq] at hb2
    have hsz : (signsD (figS z)).length = (figS z).length := by unfold signsD; rw [List.length_map, Array.length_toList]; rfl
    refine iteF ⟨Array.all_eq_true_iff_forall_mem.mpr fun c hc => decide_eq_true (hz.a c (fig_sub (Array.mem_toList_iff.mpr hc))), ⟨rfl, by omega⟩, ?_⟩
    unfold signsD
    refine cmpW_mapG (f := fun (c : Nat) => PyData.str ⟨#[c]⟩) (fun c => .bool (figB c)) (fun c hc m K hK => ?_) ?_
    · refine iteT ?_
      show K (some (.bool (!(Builtin.Str.occurrences _ _ _ _ _).isEmpty))) _
      rw [show (!(Builtin.Str.occurrences (Str.ofString "0123456789") ⟨#[c]⟩ 0 (Str.ofString "0123456789").length 1).isEmpty) = figB c from fig_occ (hz.a c (fig_sub hc))]
      exact hK
    refine ⟨(figS z).cps.toList.map figB, by rw [List.map_map]; rfl, rfl, ?_⟩
    rw [List.all_map]
    cases hf : (figS z).cps.toList.all (id ∘ figB) with
    | false =>
      have e : isNumB z = false := by unfold isNumB; rw [hb, show (figS z).cps.toList.all figB = false from hf]; rfl
      rw [e] at q
      exact iteT q
    | true =>
      obtain ⟨c0, rest, ec⟩ : ∃ c0 rest, (figS z).cps.toList = c0 :: rest := by
        cases e : (figS z).cps.toList with
        | nil =>
          have : (figS z).cps.toList.length = 0 := by rw [e]; rfl
          rw [len_list] at this
          omega
        | cons a b => exact ⟨a, b, rfl⟩
      have eq1 : isNumB z = (!decide (c0 = 48) || decide (z = "0")) := by unfold isNumB; rw [hb, show (figS z).cps.toList.all figB = true from hf, ec]; rfl
      rw [eq1] at q
      refine iteF ⟨_, .refl, by omega, c0, by rw [ec]; exact at_zero, ?_⟩
      have e48 : decide ((⟨#[c0]⟩ : Str) = "0") = decide (c0 = 48) := decide_eq_decide.mpr one_zero
      show fEq true (.str ⟨#[c0]⟩) (.str "0") _
      refine fNe_ss ?_
      rw [e48]
      cases h48 : decide (c0 = 48) with
      | false =>
        rw [h48] at q
        exact iteT q
      | true =>
        rw [h48] at q
        refine iteF ?_
        exact fEq_ss q
theorem sc_read_numbers : FnScope ["words"] ["words"] (defScope s_read_numbers) := ⟨rfl, rfl, rfl, by decide +kernel, rfl, by decide +kernel, by decide +kernel⟩
theorem ok_read_numbers (T : Txt mg) (D : Def K mg "read_numbers" s_read_numbers ["words"]) (c_is_number : Cal P w K mg base "is_number" 3 ["text"] (liftV gsIsNumA)) : Cal P w K mg base "read_numbers" 4 ["words"] (liftV gsReadNumsA) := by
  refine D.cal fun f fd F => F.ok sc_read_numbers (lift_len ?_) (fun cdv A outer s H vs Q E hr h => ?_)
  · rintro as n P ⟨zs, rfl, _⟩
    rfl
  refine ⟨_, (@pss_cons _ _ _ _ _ (ps_if (pt_not (pt_val (pe_callB call_all rfl T.b_all boot_all (pa_comp (pe_comp (sc := (defScope s_read_numbers)) (N := ["words"]) (N' := ["word"]) (k := 1) (idx := []) rfl (by exact ⟨rfl, by decide +kernel, by decide +kernel, by decide +kernel, by decide +kernel, by decide +kernel, rfl, rfl⟩) rfl rfl (pi_list (pv 0)) (fun _ _ _ _ => (pg_name (i := 0) (show (["word"] : List Str).Nodup by decide +kernel) rfl (Or.inl rfl) (Or.inr rfl))) (fun _ _ _ _ => pts_nil) (fun _ _ _ _ => (pe_c c_is_number (hr.mono (by decide)) rfl (pa_name (pv 0) pa_nil)))) pa_nil)))) (@pss_one _ _ _ (@ps_ret _ _ _ _ pe_non)) pss_nil)
      (@pss_one _ _ _ (@ps_ret _ _ _ _ (pe_comp (sc := (defScope s_read_numbers)) (N := ["words"]) (N' := ["word"]) (k := 1) (idx := []) rfl (by exact ⟨rfl, by decide +kernel, by decide +kernel, by decide +kernel, by decide +kernel, by decide +kernel, rfl, rfl⟩) rfl rfl (pi_list (pv 0)) (fun _ _ _ _ => (pg_name (i := 0) (show (["word"] : List Str).Nodup by decide +kernel) rfl (Or.inl rfl) (Or.inr rfl))) (fun _ _ _ _ => pts_nil) (fun _ _ _ _ => (pe_callTy call_intS rfl T.b_int boot_int (pa_name (pv 0) pa_nil))))))), lift_body h ?_⟩
  rintro as n P ⟨zs, rfl, hl, hz, q⟩
  have hs : sizeLine = 16777216 := sizeLine_eq
  refine ⟨rfl, ⟨rfl, by rw [List.length_map]; omega⟩, ?_⟩
  refine cmpW_mapG (f := PyData.str) (fun z => .bool (isNumB z)) (fun z hm m K hK => iteT ⟨z, rfl, hz z hm, hK⟩) ?_
  refine ⟨zs.map isNumB, by rw [List.map_map]; rfl, rfl, ?_⟩
  rw [List.all_map]
  unfold numsR at q
  cases hf : zs.all (id ∘ isNumB) with
  | false =>
    rw [if_neg (by rw [show zs.all isNumB = false from hf]; decide)] at q
    exact iteT q
  | true =>
    rw [if_pos (show zs.all isNumB = true from hf)] at q
    refine iteF ⟨_, .refl, ⟨rfl, by rw [List.length_map]; omega⟩, ?_⟩
    refine cmpW_mapG (f := PyData.str) (fun z => .int (numV z)) (fun z hm m K hK => ?_) q
    obtain ⟨e1, _, e3⟩ := num_int (List.all_eq_true.mp hf z hm)
    exact iteT ⟨by omega, _, e1, hK⟩
theorem sc_is_way : FnScope ["thing", "rooms", "purses", "a", "b", "gains"] ["thing", "rooms", "purses"] (defScope s_is_way) := ⟨rfl, rfl, rfl, by decide +kernel, rfl, by decide +kernel, by decide +kernel⟩
theorem ok_is_way (T : Txt mg) (D : Def K mg "is_way" s_is_way ["thing", "rooms", "purses"]) (c_is_tuple_of : Cal P w K mg base "is_tuple_of" 1 ["thing", "many"] (liftV gsTupB)) (c_is_between : Cal P w K mg base "is_between" 2 ["thing", "least", "most"] (liftV gsBetwB)) (c_are_gains : Cal P w K mg base "are_gains" 3 ["thing", "purses"] (liftV gsGainsB)) : Cal P w K mg base "is_way" 4 ["thing", "rooms", "purses"] (liftV gsIsWayO) := by
  refine D.cal fun f fd F => F.ok sc_is_way (lift_len ?_) (fun cdv A outer s H vs Q E hr h => ?_)
  · rintro as n P ⟨o, R, U, rfl, _⟩
    rfl
  refine ⟨_, (@pss_cons _ _ _ _ _ (ps_if (pt_not (pt_val (pe_c c_is_tuple_of (hr.mono (by decide)) rfl (pa_name (pv 0) (pa_const pe_int pa_nil))))) (@pss_one _ _ _ (@ps_ret _ _ _ _ pe_bl)) pss_nil)
      (@pss_cons _ _ _ _ _ (ps_asg (pv 0) (pg_trio (K' := K) (i := 3) (j := 4) (m := 5) rfl sc_is_way.nd ⟨rfl, (Or.inl rfl), (Or.inl rfl)⟩ ⟨rfl, (Or.inl rfl), (Or.inl rfl)⟩ ⟨rfl, (Or.inl rfl), (Or.inl rfl)⟩ rfl))
      (@pss_one _ _ _ (@ps_ret _ _ _ _ (pe_and (pe_c c_is_between (hr.mono (by decide)) rfl (pa_name (pv 3) (pa_const pe_int (pa_binop (pe_op op_sub (pv 1) pe_int) pa_nil)))) (pe_and (pe_c c_is_between (hr.mono (by decide)) rfl (pa_name (pv 4) (pa_const pe_int (pa_binop (pe_op op_sub (pv 1) pe_int) pa_nil)))) (pe_one (pe_c c_are_gains (hr.mono (by decide)) rfl (pa_name (pv 5) (pa_name (pv 2) pa_nil)))))))))), lift_body h ?_⟩
  rintro as n P ⟨o, R, U, rfl, hw, hU, q⟩
  cases o with
  | none => exact ⟨rfl, _, 3, rfl, rfl, iteT q⟩
  | some w =>
    have q : P (.bool (wayOkB R U w)) n := q
    unfold wayOkB at q
    refine ⟨rfl, _, 3, rfl, rfl, iteF ⟨_, .refl, rfl, rfl, _, .refl, _, 0, R - 1, rfl, rfl, ?_⟩⟩
    cases h1 : betwD (.int w.a) 0 (R - 1) with
    | false => rw [h1] at q; exact iteF q
    | true =>
      rw [h1] at q
      refine iteT ⟨_, 0, R - 1, rfl, rfl, ?_⟩
      cases h2 : betwD (.int w.b) 0 (R - 1) with
      | false => rw [h2] at q; exact iteF q
      | true =>
        rw [h2] at q
        exact iteT ⟨w.g, U, rfl, by omega, q⟩
theorem sc_read_many : FnScope ["rows", "at", "word", "most", "words", "numbers"] ["rows", "at", "word", "most"] (defScope s_read_many) := ⟨rfl, rfl, rfl, by decide +kernel, rfl, by decide +kernel, by decide +kernel⟩
theorem ok_read_many (T : Txt mg) (RW : RowC K mg "NoRow" "row" z.row) (D : Def K mg "read_many" s_read_many ["rows", "at", "word", "most"]) (c_read_numbers : Cal P w K mg base "read_numbers" 4 ["words"] (liftV gsReadNumsA)) (c_is_between : Cal P w K mg base "is_between" 2 ["thing", "least", "most"] (liftV gsBetwB)) : CalF P w K mg base "read_many" 5 ["rows", "at", "word", "most"] (liftF z.row gsReadManyA) := by
  refine D.calF fun f fd F => F.okF sc_read_many (lift_lenF ?_) (fun cdv A outer s H vs Q E hr h => ?_)
  · rintro as n P X ⟨rows, i, word, most, rfl, _⟩
    rfl
  refine ⟨_, (@pss_cons _ _ _ _ _ (ps_set (i := 4) sc_read_many.nd rfl (Or.inl rfl) (pe_ifExp (pt_cmpR op_lt (pv 1) (pe_callB call_len_seq rfl T.b_len PySem.boot_len (pa_name (pv 0) pa_nil)) (nomark _)) (pe_bm PySem.F.plainAttrs_str PySem.F.slot_str_split PySem.F.type_str_split mt_split (pe_ix ix_list (pv 0) (pv 1) (fun _ _ => rfl)) (pa_const pe_str pa_nil)) (@PEs.out _ _ _ (pes_lst pas_nil))))
      (@pss_cons _ _ _ _ _ (ps_set (i := 5) sc_read_many.nd rfl (Or.inl rfl) (pe_c c_read_numbers (hr.mono (by decide)) rfl (pa_sub (pe_slice sl_list (pv 4) (po_some pe_int) po_none) pa_nil)))
      (@pss_cons _ _ _ _ _ (ps_if (PW.pt (pw_or (pt_cmpR (op_neD hr.units) (pe_slice sl_list (pv 4) po_none (po_some pe_int)) (@PEs.out _ _ _ (pes_lst (pas_name (pes_of (pv 2)) pas_nil))) (nomark _)) (pw_or (pt_cmpR op_isN (pv 5) pe_non (nomark _)) (pw_or (pt_cmpR op_ne (pe_callB call_len_seq rfl T.b_len PySem.boot_len (pa_name (pv 5) pa_nil)) pe_int (nomark _)) (pw_or1 (pt_not (pt_val (pe_c c_is_between (hr.mono (by decide)) rfl (pa_sub (pe_ix ix_list (pv 5) pe_int (fun _ _ => rfl)) (pa_const pe_int (pa_name (pv 3) pa_nil))))))))))) (@pss_one _ _ _ (ps_raiseF (k := 0) RW (hr.mono (by decide)) rfl (pv 1))) pss_nil)
      (@pss_one _ _ _ (@ps_ret _ _ _ _ (pe_ix ix_list (pv 5) pe_int (fun _ _ => rfl))))))), lift_bodyF h ?_⟩
  rintro as n P X ⟨rows, i, word, most, rfl, h1, h2, ⟨h3, hw⟩, h6, q⟩
  have hs : sizeLine = 16777216 := sizeLine_eq
  refine ⟨rfl, ?_⟩
  have wok : ∀ z ∈ wordsAt rows i, TxOk z := fun z hz => by
    unfold wordsAt at hz
    split at hz
    · cases hz
    · rename_i row e
      exact (split_ok (by decide) (h2 row (List.mem_of_getElem? e))).2 z hz
  have wll : (wordsAt rows i).length ≤ 1000001 := by
    unfold wordsAt
    split
    · exact Nat.zero_le _
    · rename_i row e
      exact (split_ok (by decide) (h2 row (List.mem_of_getElem? e))).1
  refine vseq (fun env k => k = n ∧ env = [.d (.list (rows.map .str)), .d (.int i), .d (.str word), .d (.int most), .d (.list ((wordsAt rows i).map .str)), .jnk]) (fun M hM => ?_) ?_
  · refine ite_b (fun c => ?_) (fun c => ?_)
    · have c : ((i : Nat) : Int) < ((rows.map PyData.str).length : Int) := of_decide_eq_true c
      rw [List.length_map] at c
      have hi : i < rows.length := by omega
      have e : rows[i]? = some rows[i] := List.getElem?_eq_getElem hi
      have ok := h2 rows[i] (List.getElem_mem hi)
      have := ok.l
      have ew : wordsAt rows i = Txt.split rows[i] " " := by unfold wordsAt; rw [e]
      have hat : atI (rows.map PyData.str) (i : Int) = some (.str rows[i]) := at_getD (by omega) (by rw [Int.toNat_natCast, List.getElem?_map, e]; rfl)
      refine ⟨_, hat, _, rfl, rfl, by omega, by rw [← ew]; omega, hM _ _ ⟨rfl, ?_⟩⟩
      rw [← ew]; rfl
    · have c : ¬ ((i : Nat) : Int) < ((rows.map PyData.str).length : Int) := of_decide_eq_false c
      rw [List.length_map] at c
      have ew : wordsAt rows i = [] := by unfold wordsAt; rw [List.getElem?_eq_none (by omega)]
      refine ⟨Nat.zero_le _, hM _ _ ⟨rfl, ?_⟩⟩
      rw [ew]; rfl
  rintro _ n ⟨rfl, rfl⟩
  have q : match many1 (wordsAt rows i) word most with | some k => P (.int k) n | none => X (i : Int) n := q
  generalize wordsAt rows i = W at wok wll q
  have hx : many1 W word most = none → (endsF E z.row P X).xc (atE E (i : Int)) z.row n := fun e => ⟨_, rfl, rfl, by rw [e] at q; exact q⟩
  refine ⟨_, .refl, W.drop 1, by rw [show (some (1 : Int)) = some ((1 : Nat) : Int) from rfl, cutD_drop, List.map_drop], by rw [List.length_drop]; omega, fun z hz => wok z (List.mem_of_mem_drop hz), ?_⟩
  refine ⟨[.d (.list (rows.map .str)), .d (.int i), .d (.str word), .d (.int most), .d (.list (W.map .str)), .d (numsR (W.drop 1))], .eq rfl, by rw [hs]; exact Nat.le_of_ble_eq_true rfl, ?_⟩
  show fEqD true (.list (cutD (W.map .str) none (some 1))) (.list [.str word]) _
  rw [show (some (1 : Int)) = some ((1 : Nat) : Int) from rfl, cutD_take, ← List.map_take]
  refine neOne wok hw ?_
  cases W with
  | nil => exact iteT (hx rfl)
  | cons w zs =>
    by_cases ew : w = word
    · subst ew
      rw [show (!decide ((w :: zs).head? = some w)) = false by rw [decide_eq_true (show (w :: zs).head? = some w from rfl)]; rfl]
      refine iteF ?_
      rw [show (w :: zs).drop 1 = zs from rfl]
      cases hf : zs.all isNumB with
      | false =>
        have en : numsR zs = .none := by unfold numsR; rw [if_neg (by rw [hf]; decide)]
        have em : many1 (w :: zs) w most = none := by
          unfold many1
          split
          · rename_i a b e
            cases e
            rw [List.all_cons, List.all_nil, Bool.and_true] at hf
            rw [hf, if_neg (by simp)]
          · rfl
        rw [en]
        exact ⟨rfl, iteT (iteT (hx em))⟩
      | true =>
        have en : numsR zs = .list (zs.map fun z => .int (numV z)) := by unfold numsR; rw [if_pos hf]
        rw [en]
        refine ⟨rfl, iteF ?_⟩
        refine fNe_i ?_
        rw [List.length_map]
        by_cases el : zs.length = 1
        · obtain ⟨y, rfl⟩ : ∃ y, zs = [y] := by
            match zs, el with
            | [y], _ => exact ⟨y, rfl⟩
          rw [List.all_cons, List.all_nil, Bool.and_true] at hf
          refine iteF ⟨_, at_zero, _, 1, most, rfl, rfl, ?_⟩
          cases hb : betwD (.int (numV y)) 1 most with
          | false =>
            refine iteT (hx ?_)
            have hb : (decide ((1 : Int) ≤ numV y) && decide (numV y ≤ most)) = false := hb
            show (if decide (w = w) && isNumB y && decide (1 ≤ numV y) && decide (numV y ≤ most) then some (numV y) else none) = none
            rw [Bool.and_assoc, hb, Bool.and_false]
            rfl
          | true =>
            have hb : (decide ((1 : Int) ≤ numV y) && decide (numV y ≤ most)) = true := hb
            have em : many1 [w, y] w most = some (numV y) := by
              show (if decide (w = w) && isNumB y && decide (1 ≤ numV y) && decide (numV y ≤ most) then some (numV y) else none) = _
              rw [Bool.and_assoc, hb, hf, decide_eq_true (rfl : w = w)]
              rfl
            rw [em] at q
            exact iteF ⟨_, .refl, _, at_zero, q⟩
        · refine ite_t (show (!decide ((zs.length : Int) = 1)) = true by rw [decide_eq_false (by omega)]; rfl) (iteT (hx ?_))
          unfold many1
          split
          · rename_i a b e
            cases e
            exact absurd rfl el
          · rfl
    · rw [show (!decide ((w :: zs).head? = some word)) = true by rw [decide_eq_false (show ¬ (w :: zs).head? = some word from fun e => ew (Option.some.inj e))]; rfl]
      refine iteT (hx ?_)
      unfold many1
      split
      · rename_i a b e
        cases e
        rw [if_neg (by rw [decide_eq_false ew]; simp)]
      · rfl
theorem sc_read_way : FnScope ["row", "words", "numbers"] ["row"] (defScope s_read_way) := ⟨rfl, rfl, rfl, by decide +kernel, rfl, by decide +kernel, by decide +kernel⟩
theorem ok_read_way (T : Txt mg) (D : Def K mg "read_way" s_read_way ["row"]) (c_read_numbers : Cal P w K mg base "read_numbers" 4 ["words"] (liftV gsReadNumsA)) : Cal P w K mg base "read_way" 5 ["row"] (liftV gsReadWayA) := by
  refine D.cal fun f fd F => F.ok sc_read_way (lift_len ?_) (fun cdv A outer s H vs Q E hr h => ?_)
  · rintro as n P ⟨row, rfl, _⟩
    rfl
  refine ⟨_, (@pss_cons _ _ _ _ _ (ps_set (i := 1) sc_read_way.nd rfl (Or.inl rfl) (pe_bm PySem.F.plainAttrs_str PySem.F.slot_str_split PySem.F.type_str_split mt_split (pv 0) (pa_const pe_str pa_nil)))
      (@pss_cons _ _ _ _ _ (ps_if (PW.pt (pw_or (pt_cmpR op_lt (pe_callB call_len_seq rfl T.b_len PySem.boot_len (pa_name (pv 1) pa_nil)) pe_int (nomark _)) (pw_or (pt_cmpR op_ne (pe_ix ix_list (pv 1) pe_int (fun _ _ => rfl)) pe_str (nomark _)) (pw_or1 (pt_cmpR op_ne (pe_ix ix_list (pv 1) pe_int (fun _ _ => rfl)) pe_str (nomark _)))))) (@pss_one _ _ _ (@ps_ret _ _ _ _ pe_non)) pss_nil)
      (@pss_cons _ _ _ _ _ (ps_set (i := 2) sc_read_way.nd rfl (Or.inl rfl) (pe_c c_read_numbers (hr.mono (by decide)) rfl (pa_binop (pe_op op_cat (pe_op op_cat (pe_slice sl_list (pv 1) po_none (po_some pe_int)) (pe_slice sl_list (pv 1) (po_some pe_int) (po_some pe_int))) (pe_slice sl_list (pv 1) (po_some pe_int) po_none)) pa_nil)))
      (@pss_cons _ _ _ _ _ (ps_if (pt_cmpR op_isN (pv 2) pe_non (nomark _)) (@pss_one _ _ _ (@ps_ret _ _ _ _ pe_non)) pss_nil)
      (@pss_one _ _ _ (@ps_ret _ _ _ _ (@PEs.out _ _ _ (pes_tup (pas_sub (pes_of (pe_ix ix_list (pv 2) pe_int (fun _ _ => rfl))) (pas_sub (pes_of (pe_ix ix_list (pv 2) pe_int (fun _ _ => rfl))) (pas_call (pes_of (pe_callTy call_tuple_of rfl T.b_tuple boot_tuple (pa_sub (pe_slice sl_list (pv 2) (po_some pe_int) po_none) pa_nil))) pas_nil))))))))))), lift_body h ?_⟩
  rintro as n P ⟨row, rfl, ok, q⟩
  have hs : sizeLine = 16777216 := sizeLine_eq
  have hl := ok.l
  obtain ⟨wll, wok⟩ := split_ok (sep := " ") (by decide) ok
  refine ⟨rfl, _, rfl, rfl, by omega, by omega, ?_⟩
  unfold wayO at q
  generalize Txt.split row " " = W at wll wok q
  refine ⟨[.d (.str row), .d (.list (W.map .str)), .jnk], .fz 1 _ rfl .refl, ?_⟩
  by_cases h4 : W.length < 4
  · rw [way1_short h4] at q
    exact ite_t (decide_eq_true (by rw [List.length_map]; omega)) (iteT q)
  · obtain ⟨a, ar, b, co, gs, rfl⟩ : ∃ a ar b co gs, W = a :: ar :: b :: co :: gs := by
      match W, h4 with
      | a :: ar :: b :: co :: gs, _ => exact ⟨a, ar, b, co, gs, rfl⟩
      | [], h => exact absurd (by decide) h
      | [_], h => exact absurd (by simp) h
      | [_, _], h => exact absurd (by simp) h
      | [_, _, _], h => exact absurd (by simp) h
    simp only [List.length_cons] at wll
    refine ite_f (decide_eq_false (by simp only [List.length_map, List.length_cons]; omega)) ⟨_, at_one, fNe_ss ?_⟩
    by_cases e1 : ar = "->"
    · subst e1
      rw [decide_eq_true (rfl : ("->" : Str) = "->")]
      refine iteF ⟨_, at_getD (by decide) rfl, fNe_ss ?_⟩
      by_cases e2 : co = ":"
      · subst e2
        rw [decide_eq_true (rfl : (":" : Str) = ":")]
        have ew : (a :: "->" :: b :: ":" :: gs).map PyData.str = .str a :: .str "->" :: .str b :: .str ":" :: gs.map PyData.str := rfl
        have c1 : cutD (.str a :: .str "->" :: .str b :: .str ":" :: gs.map PyData.str) none (some 1) = [.str a] := cutD_take _ 1
        have c2 : cutD (.str a :: .str "->" :: .str b :: .str ":" :: gs.map PyData.str) (some 2) (some 3) = [.str b] := cut_mid
        have c3 : cutD (.str a :: .str "->" :: .str b :: .str ":" :: gs.map PyData.str) (some 4) none = gs.map PyData.str := cutD_drop _ 4
        have hW : ∀ x ∈ a :: b :: gs, TxOk x := fun x hx => wok x (by
          simp only [List.mem_cons] at hx ⊢
          rcases hx with h | h | h
          · exact .inl h
          · exact .inr (.inr (.inl h))
          · exact .inr (.inr (.inr (.inr h))))
        rw [ew]
        refine iteF ⟨_, .refl, ?_, ?_, a :: b :: gs, ?_, ?_, hW, ?_⟩
        · rw [c1, c2, hs]; exact Nat.le_of_ble_eq_true rfl
        · rw [c1, c2, c3, hs, List.length_map]
          show 2 + _ ≤ _
          omega
        · rw [c1, c2, c3]; rfl
        · simp only [List.length_cons]; omega
        have q : P (wayOD (if decide ((("->" : Str) = "->")) && decide ((":" : Str) = ":") && (a :: b :: gs).all isNumB then some ⟨numV a, numV b, gs.map numV⟩ else none)) n := q
        rw [decide_eq_true (rfl : ("->" : Str) = "->"), decide_eq_true (rfl : (":" : Str) = ":"), Bool.true_and, Bool.true_and] at q
        refine ⟨[.d (.str row), .d (.list (.str a :: .str "->" :: .str b :: .str ":" :: gs.map PyData.str)), .d (numsR (a :: b :: gs))], .eq rfl, ?_⟩
        unfold numsR
        cases hf : (a :: b :: gs).all isNumB with
        | false =>
          rw [hf] at q
          exact ⟨rfl, iteT q⟩
        | true =>
          rw [hf] at q
          have c4 : cutD ((a :: b :: gs).map fun z => PyData.int (numV z)) (some 2) none = gs.map fun z => PyData.int (numV z) := cutD_drop _ 2
          refine ⟨rfl, iteF ⟨_, .refl, _, at_zero, _, at_one, ?_, ?_⟩⟩
          · exact three_line
          · rw [c4]
            have e : (gs.map fun z => PyData.int (numV z)) = (gs.map numV).map PyData.int := by rw [List.map_map]; rfl
            rw [e]
            exact q
      · rw [decide_eq_false e2]
        have e : way1 (a :: "->" :: b :: co :: gs) = none := by
          show (if decide ((("->" : Str) = "->")) && decide (co = ":") && (a :: b :: gs).all isNumB then some (⟨numV a, numV b, gs.map numV⟩ : Way) else none) = none
          rw [decide_eq_false e2, Bool.and_false, Bool.false_and]; rfl
        rw [e] at q
        exact iteT q
    · rw [decide_eq_false e1]
      have e : way1 (a :: ar :: b :: co :: gs) = none := by
        show (if decide (ar = "->") && decide (co = ":") && (a :: b :: gs).all isNumB then some (⟨numV a, numV b, gs.map numV⟩ : Way) else none) = none
        rw [decide_eq_false e1, Bool.false_and, Bool.false_and]; rfl
      rw [e] at q
      exact iteT (iteT q)
theorem sc_read_book : FnScope ["text", "rows", "rooms", "purses", "ways", "at", "row", "way"] ["text"] (defScope s_read_book) := ⟨rfl, rfl, rfl, by decide +kernel, rfl, by decide +kernel, by decide +kernel⟩
theorem ok_read_book (T : Txt mg) (RW : RowC K mg "NoRow" "row" z.row) (D : Def K mg "read_book" s_read_book ["text"]) (c_read_many : CalF P w K mg base "read_many" 5 ["rows", "at", "word", "most"] (liftF z.row gsReadManyA)) (c_read_way : Cal P w K mg base "read_way" 5 ["row"] (liftV gsReadWayA)) (c_is_way : Cal P w K mg base "is_way" 4 ["thing", "rooms", "purses"] (liftV gsIsWayO)) : CalF P w K mg base "read_book" 6 ["text"] (liftF z.row gsReadBookA) := by
  refine D.calF fun f fd F => F.okF sc_read_book (lift_lenF ?_) (fun cdv A outer s H vs Q E hr h => ?_)
  · rintro as n P X ⟨t, rfl, _⟩
    rfl
  refine ⟨_, (@pss_cons _ _ _ _ _ (ps_set (i := 1) sc_read_book.nd rfl (Or.inl rfl) (pe_bm PySem.F.plainAttrs_str PySem.F.slot_str_split PySem.F.type_str_split mt_split (pv 0) (pa_name (pe_gstr T.g_BETWEEN_ROWS rfl) pa_nil)))
      (@pss_cons _ _ _ _ _ (ps_set (i := 2) sc_read_book.nd rfl (Or.inl rfl) (pe_cf c_read_many (hr.mono (by decide)) rfl pass2 (pa_name (pv 1) (pa_const pe_int (pa_const pe_str (pa_name (pe_gint T.g_MOST_ROOMS rfl) pa_nil))))))
      (@pss_cons _ _ _ _ _ (ps_set (i := 3) sc_read_book.nd rfl (Or.inl rfl) (pe_cf c_read_many (hr.mono (by decide)) rfl pass2 (pa_name (pv 1) (pa_const pe_int (pa_const pe_str (pa_name (pe_gint T.g_MOST_PURSES rfl) pa_nil))))))
      (@pss_cons _ _ _ _ _ (@ps_setD _ _ 4 _ _ _ _ sc_read_book.nd rfl (Or.inl rfl) (pes_lst pas_nil) rfl (Or.inl rfl))
      (@pss_cons _ _ _ _ _ (ps_for PassesOwn.leaving rfl (pi_enumS rfl T.b_enumerate (pa_sub (pe_slice sl_list (pv 1) (po_some pe_int) po_none) pa_nil)) (pg_pair (K' := K) (i := 5) (j := 6) rfl sc_read_book.nd ⟨rfl, (Or.inl rfl), (Or.inl rfl)⟩ ⟨rfl, (Or.inl rfl), (Or.inl rfl)⟩ rfl)
      (@pss_cons _ _ _ _ _ (ps_set (i := 7) sc_read_book.nd rfl (Or.inl rfl) (pe_c c_read_way (hr.mono (by decide)) rfl (pa_name (pv 6) pa_nil)))
      (@pss_cons _ _ _ _ _ (ps_if (PW.pt (pw_or (pt_cmpR op_eq (pe_callB call_len_seq rfl T.b_len PySem.boot_len (pa_name (pv 4) pa_nil)) (pe_gint T.g_MOST_WAYS rfl) (nomark _)) (pw_or1 (pt_not (pt_val (pe_c c_is_way (hr.mono (by decide)) rfl (pa_name (pv 7) (pa_name (pv 2) (pa_name (pv 3) pa_nil))))))))) (@pss_one _ _ _ (ps_raiseF (k := 0) RW (hr.mono (by decide)) rfl (pv 5))) pss_nil)
      (@pss_one _ _ _ (ps_expr (pe_bm PySem.F.plainAttrs_list PySem.F.slot_list_append PySem.F.type_list_append mt_append (pv 4) (pa_name (pv 7) pa_nil)))))))
      (@pss_one _ _ _ (@ps_ret _ _ _ _ (@PEs.out _ _ _ (pes_tup (pas_name (pes_of (pv 2)) (pas_name (pes_of (pv 3)) (pas_call (pes_of (pe_callTy call_tuple_of rfl T.b_tuple boot_tuple (pa_name (pv 4) pa_nil))) pas_nil)))))))))))), lift_bodyF h ?_⟩
  rintro as n P X ⟨t, rfl, ok, q⟩
  have hs : sizeLine = 16777216 := sizeLine_eq
  have hl := ok.l
  obtain ⟨rll, rok⟩ := split_ok (sep := " / ") (by decide) ok
  refine ⟨rfl, _, rfl, rfl, by omega, by omega, ?_⟩
  unfold readR at q
  generalize Txt.split t " / " = rows at rll rok q
  refine ⟨[.d (.str t), .d (.list (rows.map .str)), .jnk, .jnk, .jnk, .jnk, .jnk, .jnk], .fz 1 _ rfl .refl, rows, 0, "rooms", 12, rfl, by omega, rok, ⟨by decide, ⟨by decide, by decide⟩⟩, by decide, ?_⟩
  cases m0 : manyR rows 0 "rooms" 12 with
  | none =>
    rw [m0] at q
    exact ⟨_, rfl, rfl, q⟩
  | some R =>
    rw [m0] at q
    have hR := many_b m0
    refine ⟨[.d (.str t), .d (.list (rows.map .str)), .d (.int R), .jnk, .jnk, .jnk, .jnk, .jnk], .eq rfl, rows, 1, "purses", 6, rfl, by omega, rok, ⟨by decide, ⟨by decide, by decide⟩⟩, by decide, ?_⟩
    cases m1 : manyR rows 1 "purses" 6 with
    | none =>
      rw [m1] at q
      exact ⟨_, rfl, rfl, q⟩
    | some U =>
      rw [m1] at q
      have hU := many_b m1
      have q : match waysR R U (rows.drop 2) 2 [] with | .inl r => X r n | .inr (R, U, ws) => P (bookPD R U ws) n := q
      have ec : cutD (rows.map PyData.str) (some 2) none = (rows.drop 2).map PyData.str := by
        rw [show (some (2 : Int)) = some ((2 : Nat) : Int) from rfl, cutD_drop, List.map_drop]
      have dok : ∀ x ∈ rows.drop 2, TxOk x := fun x hx => rok x (List.mem_of_mem_drop hx)
      have dll : (rows.drop 2).length ≤ 1000001 := by rw [List.length_drop]; omega
      generalize rows.drop 2 = rs at q ec dok dll
      refine ⟨[.d (.str t), .d (.list (rows.map .str)), .d (.int R), .d (.int U), .jnk, .jnk, .jnk, .jnk], .eq rfl, Nat.zero_le _, ⟨[.d (.str t), .d (.list (rows.map .str)), .d (.int R), .d (.int U), .own [], .jnk, .jnk, .jnk], .eq rfl, ?_⟩⟩
      refine ⟨_, rfl, fun i env m => m = n ∧ ∃ (ws : List Way) (x5 x6 x7 : Vl), ws.length ≤ 60 ∧ waysR R U rs 2 [] = waysR R U (rs.drop i) (i + 2) ws ∧ env = [.d (.str t), .d (.list (rows.map .str)), .d (.int R), .d (.int U), .own (ws.map wayPD), x5, x6, x7], ⟨rfl, [], _, _, _, Nat.zero_le _, rfl, rfl⟩, ?_, ?_⟩
      · rintro i y env j hy ⟨rfl, ws, x5, x6, x7, hl, hw, rfl⟩
        rw [ec] at hy
        unfold enumS at hy
        rw [List.getElem?_mapIdx, List.getElem?_map] at hy
        obtain ⟨d, hd, rfl⟩ := Option.map_eq_some_iff.mp hy
        obtain ⟨row, hrow, rfl⟩ := Option.map_eq_some_iff.mp hd
        obtain ⟨hi, ei⟩ := List.getElem?_eq_some_iff.mp hrow
        have ok1 := dok row (List.mem_of_getElem? hrow)
        rw [List.drop_eq_getElem_cons hi, ei] at hw
        have hw : waysR R U rs 2 [] = if ws.length = 60 then .inl ((i + 2 : Nat) : Int) else match okRow R U row with
          | some w => waysR R U (rs.drop (i + 1)) (i + 2 + 1) (ws ++ [w])
          | none => .inl ((i + 2 : Nat) : Int) := hw
        refine ⟨rfl, rfl, row, rfl, ok1, ⟨[.d (.str t), .d (.list (rows.map .str)), .d (.int R), .d (.int U), .own (ws.map wayPD), .d (.int ((i + 2 : Nat) : Int)), .d (.str row), .d (wayOD (wayO row))], .eq rfl, fEq_i ?_⟩⟩
        rw [List.length_map]
        by_cases h60 : ws.length = 60
        · rw [if_pos h60] at hw
          rw [hw] at q
          exact ite_t (decide_eq_true (by omega)) (iteT ⟨_, rfl, rfl, q⟩)
        · rw [if_neg h60] at hw
          refine ite_f (decide_eq_false (by omega)) ⟨wayO row, R, U, rfl, fun w hw => wayO_len ok1 hw, hU.2, ?_⟩
          have bad : okRow R U row = none → (endsF E z.row P X).xc (atE E ((i + 2 : Nat) : Int)) z.row j := fun e => by
            rw [e] at hw
            rw [hw] at q
            exact ⟨_, rfl, rfl, q⟩
          cases ho : wayO row with
          | none => exact iteT (bad (by unfold okRow; rw [ho]))
          | some w =>
            cases hb : wayOkB R U w with
            | false => exact ite_t (show (!wayOkB R U w) = true by rw [hb]; rfl) (bad (by unfold okRow; rw [ho]; show (if wayOkB R U w then some w else none) = none; rw [hb]; rfl))
            | true =>
              have er : okRow R U row = some w := by unfold okRow; rw [ho]; show (if wayOkB R U w then some w else none) = some w; rw [hb]; rfl
              rw [er] at hw
              refine ite_f (show (!wayOkB R U w) = false by rw [hb]; rfl) ⟨_, .refl, by rw [List.length_map]; omega, rfl, ws ++ [w], .d (.int ((i + 2 : Nat) : Int)), .d (.str row), .d (wayPD w), by rw [List.length_append, List.length_singleton]; omega, hw, ?_⟩
              rw [List.map_append]
              rfl
      · rintro env j ⟨rfl, ws, x5, x6, x7, hl, hw, rfl⟩
        have el : (enumS (cutD (rows.map PyData.str) (some 2) none)).length = rs.length := by
          unfold enumS
          rw [ec, List.length_mapIdx, List.length_map]
        rw [el, List.drop_length] at hw
        have hw : waysR R U rs 2 [] = .inr (R, U, ws) := hw
        rw [hw] at q
        exact ⟨_, .refl, three_line, q⟩

theorem sc_law_kinds : FnScope ["e", "found"] ["e"] (defScope s_law_kinds) := ⟨rfl, rfl, rfl, by decide +kernel, rfl, by decide +kernel, by decide +kernel⟩
theorem ok_law_kinds (T : Txt mg) (Z : ErOk K mg z) (D : Def K mg "_law_kinds" s_law_kinds ["e"]) : CalH P w K mg base "_law_kinds" 1 ["e"] (spKindsF z) := by
  refine D.calH fun f fd F => F.okH sc_law_kinds (fun vs H Q E h => ?_) (fun cdv A outer s H vs Q hr h => ?_)
  · obtain ⟨ea, rfl, _⟩ := h
    rfl
  obtain ⟨ea, rfl, ⟨dd, he⟩, q⟩ := h
  refine ⟨_, (@pss_cons _ _ _ _ _ (@ps_setD _ _ 1 _ _ _ _ sc_law_kinds.nd rfl (Or.inl rfl) (pes_lst (pas_call (pes_of (pe_callB call_isF rfl T.b_isinstance boot_isinstance (pa_name (pv 0) (pa_name (pe_glob (v := .ref z.way) rfl Z.way rfl) pa_nil)))) (pas_call (pes_of (pe_callB call_isF rfl T.b_isinstance boot_isinstance (pa_name (pv 0) (pa_name (pe_glob (v := .ref z.round) rfl Z.round rfl) pa_nil)))) (pas_call (pes_of (pe_callB call_isF rfl T.b_isinstance boot_isinstance (pa_name (pv 0) (pa_name (pe_glob (v := .ref z.ring) rfl Z.ring rfl) pa_nil)))) (pas_call (pes_of (pe_callB call_isF rfl T.b_isinstance boot_isinstance (pa_name (pv 0) (pa_name (pe_glob (v := .ref z.purse) rfl Z.purse rfl) pa_nil)))) pas_nil))))) rfl (Or.inl rfl))
      (@pss_cons _ _ _ _ _ (ps_set (i := 1) sc_law_kinds.nd rfl (Or.inl rfl) (pe_op op_cat (pv 1) (@PEs.out _ _ _ (pes_lst (pas_call (pes_of (pe_callB call_isF rfl T.b_isinstance boot_isinstance (pa_name (pv 0) (pa_name (pe_glob (v := .ref z.end_) rfl Z.end_ rfl) pa_nil)))) (pas_call (pes_of (pe_callB call_isF rfl T.b_isinstance boot_isinstance (pa_name (pv 0) (pa_name (pe_glob (v := .ref z.stand) rfl Z.stand rfl) pa_nil)))) (pas_call (pes_of (pe_callB call_isF rfl T.b_isinstance boot_isinstance (pa_name (pv 0) (pa_name (pe_glob (v := .ref z.many) rfl Z.many rfl) pa_nil)))) (pas_call (pes_of (pe_callB call_isF rfl T.b_isinstance boot_isinstance (pa_name (pv 0) (pa_name (pe_glob (v := .ref z.line) rfl Z.line rfl) pa_nil)))) pas_nil))))))))
      (@pss_one _ _ _ (@ps_ret _ _ _ _ (pe_op op_cat (pv 1) (@PEs.out _ _ _ (pes_lst (pas_call (pes_of (pe_callB call_isF rfl T.b_isinstance boot_isinstance (pa_name (pv 0) (pa_name (pe_glob (v := .ref z.row) rfl Z.row rfl) pa_nil)))) (pas_call (pes_of (pe_callB call_isF rfl T.b_isinstance boot_isinstance (pa_name (pv 0) (pa_name (pe_bltn rfl T.b_ValueError PyProof.Rows.Boot.«ValueError» (v := .ty "ValueError") rfl) pa_nil)))) pas_nil))))))))), ?_⟩
  have hs : sizeLine = 16777216 := sizeLine_eq
  have nd := Z.nd
  have m8 : z.row ∈ z.all := by simp [Er.all]
  have ne : ∀ c ∈ z.able, z.row ≠ c := fun c hc e => by
    have : z.all = z.able ++ [z.row] := rfl
    rw [this, List.nodup_append] at nd
    exact nd.2.2 c hc z.row (List.mem_singleton.mpr rfl) e.symm
  have mem : ∀ c ∈ z.able, c ∈ z.all := fun c hc => by
    have : z.all = z.able ++ [z.row] := rfl
    rw [this]; exact List.mem_append_left _ hc
  have ec := Z.ex _ m8
  obtain ⟨cd, hcd⟩ := Z.cl _ m8
  have kn : ∀ c ∈ z.able, PySem.W.kitOne K (.ref z.row) (.ref c) = some false := fun c hc => kno Z m8 (mem c hc) (ne c hc)
  have k0 := kn z.way (by simp [Er.able])
  have k1 := kn z.round (by simp [Er.able])
  have k2 := kn z.ring (by simp [Er.able])
  have k3 := kn z.purse (by simp [Er.able])
  have k4 := kn z.end_ (by simp [Er.able])
  have k5 := kn z.stand (by simp [Er.able])
  have k6 := kn z.many (by simp [Er.able])
  have k7 := kn z.line (by simp [Er.able])
  refine seq_by (fun σ' H' => ∃ l, σ' = [some (.ref ea), some (.ref l)] ∧ Kp [] H H' ∧ H' l = some (.lst ([false, false, false, false].map V.bl))) (fun N hN => ?_) ?_
  · exact ⟨_, rfl, ea, _, _, _, cd, _, rfl, ⟨dd, he⟩, ec, hcd, .inl ⟨_, rfl, rfl⟩, k0, _, rfl, ea, _, _, _, cd, _, rfl, ⟨dd, he⟩, ec, hcd, .inl ⟨_, rfl, rfl⟩, k1, _, rfl, ea, _, _, _, cd, _, rfl, ⟨dd, he⟩, ec, hcd, .inl ⟨_, rfl, rfl⟩, k2, _, rfl, ea, _, _, _, cd, _, rfl, ⟨dd, he⟩, ec, hcd, .inl ⟨_, rfl, rfl⟩, k3, small4 (Nat.le_of_ble_eq_true rfl), fun l hl => hN _ _ ⟨l, rfl, Kp.new hl _, upd_same⟩⟩
  rintro _ H1 ⟨l, rfl, p1, h1⟩
  have he1 := p1 _ _ he (by simp)
  refine seq_by (fun σ' H' => ∃ l, σ' = [some (.ref ea), some (.ref l)] ∧ Kp [] H H' ∧ H' l = some (.lst ([false, false, false, false, false, false, false, false].map V.bl))) (fun N hN => ?_) ?_
  · refine ⟨_, rfl, _, rfl, ea, _, _, _, cd, _, rfl, ⟨dd, he1⟩, ec, hcd, .inl ⟨_, rfl, rfl⟩, k4, _, rfl, ea, _, _, _, cd, _, rfl, ⟨dd, he1⟩, ec, hcd, .inl ⟨_, rfl, rfl⟩, k5, _, rfl, ea, _, _, _, cd, _, rfl, ⟨dd, he1⟩, ec, hcd, .inl ⟨_, rfl, rfl⟩, k6, _, rfl, ea, _, _, _, cd, _, rfl, ⟨dd, he1⟩, ec, hcd, .inl ⟨_, rfl, rfl⟩, k7, small4 (Nat.le_of_ble_eq_true rfl), fun l2 hl2 => ?_⟩
    exact ⟨l, l2, _, _, rfl, rfl, Kp.new (ex := []) hl2 _ _ _ h1 (by simp), upd_same, by simp; omega, fun l3 hl3 => hN _ _ ⟨l3, rfl, (p1.trans (Kp.new hl2 _)).trans (Kp.new hl3 _), by rw [upd_same]; rfl⟩⟩
  clear h1 he1 p1
  rintro _ H2 ⟨l, rfl, p2, h2⟩
  have he2 := p2 _ _ he (by simp)
  refine ⟨_, rfl, _, rfl, ea, _, _, _, cd, _, rfl, ⟨dd, he2⟩, ec, hcd, .inl ⟨_, rfl, rfl⟩, kyes Z m8, _, rfl, ea, _, _, _, cd, _, rfl, ⟨dd, he2⟩, ec, hcd, .inr ⟨_, rfl, rfl⟩, Z.va _ m8, small4 (Nat.le_of_ble_eq_true rfl), fun l2 hl2 => ?_⟩
  have p3 : Kp [] H (upd H2 l2 (.lst [.bl true, .bl true])) := p2.trans (Kp.new hl2 _)
  exact ⟨l, l2, _, _, rfl, rfl, Kp.new (ex := []) hl2 _ _ _ h2 (by simp), upd_same, by simp; omega, fun l3 hl3 => q _ _ (p3.trans (Kp.new hl3 _)) (Kp.free p3 hl3 (by simp)) (by rw [upd_same]; rfl)⟩
theorem sc_law_word : FnScope ["flags", "words"] ["flags"] (defScope s_law_word) := ⟨rfl, rfl, rfl, by decide +kernel, rfl, by decide +kernel, by decide +kernel⟩
theorem ok_law_word (T : Txt mg) (D : Def K mg "_law_word" s_law_word ["flags"]) : Cal P w K mg base "_law_word" 1 ["flags"] spWordF := by
  refine D.cal fun f fd F => F.ok sc_law_word (fun vs H Q E h => ?_) (fun cdv A outer s H vs Q E hr h => ?_)
  · obtain ⟨l, rfl, _⟩ := h
    rfl
  obtain ⟨l, rfl, hl, q⟩ := h
  refine ⟨_, (@pss_cons _ _ _ _ _ (@ps_setD _ _ 1 _ _ _ _ sc_law_word.nd rfl (Or.inl rfl) (pes_lst (pas_const pes_str (pas_const pes_str (pas_const pes_str (pas_const pes_str (pas_const pes_str (pas_const pes_str (pas_const pes_str (pas_const pes_str (pas_const pes_str pas_nil)))))))))) rfl (Or.inl rfl))
      (@pss_cons _ _ _ _ _ (ps_if (PW.pt (pw_or (pt_cmpR op_ne (pe_callB call_len_seq rfl T.b_len PySem.boot_len (pa_name (pv 0) pa_nil)) pe_int (nomark _)) (pw_or (pt_cmpR op_ne (pe_bm PySem.F.plainAttrs_list PySem.F.slot_list_count PySem.F.type_list_count mt_countT (pe_slice sl_list (pv 0) po_none (po_some pe_int)) (pa_const pe_bl pa_nil)) pe_int (nomark _)) (pw_or1 (pt_not (pt_val (pe_ix ix_list (pv 0) pe_int (fun _ _ => rfl)))))))) (@pss_one _ _ _ (@ps_ret _ _ _ _ pe_str)) pss_nil)
      (@pss_one _ _ _ (@ps_ret _ _ _ _ (pe_ix ix_list (pv 1) (pe_bm PySem.F.plainAttrs_list PySem.F.slot_list_index PySem.F.type_list_index mt_indexT (pv 0) (pa_const pe_bl pa_nil)) (fun _ _ => rfl)))))), ?_⟩
  refine seq_by (fun σ' H' => ∃ ws, σ' = [some (.ref l), some (.ref ws)] ∧ Kp [] H H' ∧ H' ws = some (.lst [.str "way", .str "round", .str "ring", .str "purse", .str "end", .str "stand", .str "many", .str "line", .str "row"])) (fun N hN => ?_) ?_
  · exact ⟨small4 (Nat.le_of_ble_eq_true rfl), fun l hl => hN _ _ ⟨l, rfl, Kp.new hl _, upd_same⟩⟩
  rintro _ H1 ⟨ws, rfl, k1, hw⟩
  have hl1 := k1 _ _ hl (by simp)
  refine seq_by (fun σ' H' => σ' = [some (.ref l), some (.ref ws)] ∧ Kp [] H1 H') (fun N hN => ?_) ?_
  · refine ⟨_, rfl, l, _, rfl, .inl (SqL.of hl1), rfl, _, rfl, ?_⟩
    refine iteF ?_
    refine ⟨_, rfl, _, rfl, l, _, rfl, SqL.of hl1, fun p hp => ?_⟩
    refine ⟨.inl ⟨rfl, _, SqL.of upd_same⟩, p, [false, false, false, false, false, false, false, false, true], rfl, rfl, upd_same, rfl, _, rfl, ?_⟩
    refine iteF ?_
    have k2 : Kp [] H1 (upd H1 p (.lst (cutV (rowFl.map V.bl) none (some 9)))) := Kp.new hp _
    refine ⟨_, rfl, l, _, _, _, rfl, rfl, SqL.of (k2 _ _ hl1 (by simp)), rfl, _, rfl, ?_⟩
    exact ite_nt (hN _ _ ⟨rfl, k2⟩)
  rintro _ H2 ⟨rfl, k2⟩
  exact ⟨_, rfl, _, rfl, .inl ⟨rfl, _, SqL.of (k2 _ _ hl1 (by simp))⟩, l, rowFl, 8, rfl, rfl, k2 _ _ hl1 (by simp), rfl, fun m hm => by
    have hm : m < 8 := by omega
    have : ∀ m < 8, rowFl[m]? = some false := by decide
    exact this m hm, ws, _, _, _, rfl, rfl, SqL.of (k2 _ _ hw (by simp)), rfl, q _ (k1.trans k2)⟩

theorem sc_law_text : FnScope ["book", "rows", "first", "last", "gains"] ["book"] (defScope s_law_text) := ⟨rfl, rfl, rfl, by decide +kernel, rfl, by decide +kernel, by decide +kernel⟩
theorem ok_law_text (T : Txt mg) (D : Def K mg "_law_text" s_law_text ["book"]) : Cal P w K mg base "_law_text" 1 ["book"] (liftV gsLawText) := by
  refine D.cal fun f fd F => F.ok sc_law_text (lift_len ?_) (fun cdv A outer s H vs Q E hr h => ?_)
  · rintro as n P ⟨R, U, ws, rfl, _⟩
    rfl
  refine ⟨_, (@pss_cons _ _ _ _ _ (@ps_setD _ _ 1 _ _ _ _ sc_law_text.nd rfl (Or.inl rfl) (pes_lst (pas_binop (pes_of (pe_op op_add_str pe_str (pe_callTy call_str_int rfl T.b_str boot_str (pa_sub (pe_ix ix_tup (pv 0) pe_int (fun _ _ => rfl)) pa_nil)))) (pas_binop (pes_of (pe_op op_add_str pe_str (pe_callTy call_str_int rfl T.b_str boot_str (pa_sub (pe_ix ix_tup (pv 0) pe_int (fun _ _ => rfl)) pa_nil)))) pas_nil))) rfl (Or.inl rfl))
      (@pss_cons _ _ _ _ _ (ps_for PassesOwn.never rfl (pi_tup (pe_ix ix_tup (pv 0) pe_int (fun _ _ => rfl))) (pg_trio (K' := K) (i := 2) (j := 3) (m := 4) rfl sc_law_text.nd ⟨rfl, (Or.inl rfl), (Or.inl rfl)⟩ ⟨rfl, (Or.inl rfl), (Or.inl rfl)⟩ ⟨rfl, (Or.inl rfl), (Or.inl rfl)⟩ rfl)
      (@pss_one _ _ _ (ps_expr (pe_bm PySem.F.plainAttrs_list PySem.F.slot_list_append PySem.F.type_list_append mt_append (pv 1) (pa_call (pe_bm PySem.F.plainAttrs_str PySem.F.slot_str_join PySem.F.type_str_join mt_join pe_str (pa_binop (pe_op op_cat (@PEs.out _ _ _ (pes_lst (pas_call (pes_of (pe_callTy call_str_int rfl T.b_str boot_str (pa_name (pv 2) pa_nil))) (pas_const pes_str (pas_call (pes_of (pe_callTy call_str_int rfl T.b_str boot_str (pa_name (pv 3) pa_nil))) (pas_const pes_str pas_nil)))))) (pe_comp (sc := (defScope s_law_text)) (N := ["book", "rows", "first", "last", "gains"]) (N' := ["one"]) (k := 1) (idx := []) rfl (by exact ⟨rfl, by decide +kernel, by decide +kernel, by decide +kernel, by decide +kernel, by decide +kernel, rfl, rfl⟩) rfl rfl (pi_tup (pv 4)) (fun _ _ _ _ => (pg_name (i := 0) (show (["one"] : List Str).Nodup by decide +kernel) rfl (Or.inl rfl) (Or.inr rfl))) (fun _ _ _ _ => pts_nil) (fun _ _ _ _ => (pe_callTy call_str_int rfl T.b_str boot_str (pa_name (pv 0) pa_nil))))) pa_nil)) pa_nil)))))
      (@pss_one _ _ _ (@ps_ret _ _ _ _ (pv 1))))), lift_body h ?_⟩
  rintro as n P ⟨R, U, ws, rfl, ok, q⟩
  have hs : sizeLine = 16777216 := sizeLine_eq
  have r0 := ok.r0
  have r1 := ok.r1
  have p0 := ok.p0
  have p1 := ok.p1
  have wl := ok.len
  have NR := num_of (i := R) (by omega) (by omega)
  have NU := num_of (i := U) (by omega) (by omega)
  have l1 : ("rooms " : Str).length = 6 := rfl
  have l2 : ("purses " : Str).length = 7 := rfl
  have n1 : (Str.ofString (toString R)).length ≤ 3 := NR.l3
  have n2 : (Str.ofString (toString U)).length ≤ 3 := NU.l3
  refine ⟨rfl, _, at_zero, NR.log, by omega, _, at_one, NU.log, by omega, two_line, _, .refl, _, at_getD (by decide) rfl, ?_⟩
  refine ⟨fun i env m => m = n ∧ ∃ a b c, env = [.d (bookPD R U ws), .own ((("rooms " ++ numS R) :: ("purses " ++ numS U) :: (ws.take i).map rowS).map PyData.str), a, b, c], ⟨rfl, _, _, _, rfl⟩, ?_, ?_⟩
  · rintro i y env j hy ⟨rfl, a, b, c, rfl⟩
    rw [List.getElem?_map] at hy
    obtain ⟨w, hw, rfl⟩ := Option.map_eq_some_iff.mp hy
    have kw := ok.ways w (List.mem_of_getElem? hw)
    obtain ⟨ha, hb, hg⟩ := num_small kw r1
    have hl := kw.len
    refine ⟨rfl, rfl, (num_of ha.1 ha.2).log, (num_of hb.1 hb.2).log, by rw [hs]; exact Nat.le_of_ble_eq_true rfl, ⟨rfl, by rw [List.length_map]; omega⟩, ?_⟩
    refine cmpW_mapG (f := PyData.int) (fun i => PyData.str (numS i)) (fun i hm m K hK => iteT ⟨(num_of (hg i hm).1 (hg i hm).2).log, hK⟩) ?_
    refine ⟨by rw [List.length_map]; show 4 + _ ≤ _; omega, wayW w, ?_, row_join kw r1 p1, ?_, rfl, .d (.int w.a), .d (.int w.b), .d (.tuple (w.g.map PyData.int)), ?_⟩
    · unfold wayW
      rw [List.map_append, List.map_map]
      rfl
    · simp only [List.map_cons, List.length_cons, List.length_map, List.length_take]; omega
    · rw [List.take_add_one, hw, List.map_append]
      simp only [List.map_cons, List.map_append]
      rfl
  · rintro env j ⟨rfl, a, b, c, rfl⟩
    rw [List.length_map, List.take_length]
    exact ⟨_, .refl, q⟩

theorem sc_law_number : FnScope ["word", "low", "high", "one"] ["word", "low", "high"] (defScope s_law_number) := ⟨rfl, rfl, rfl, by decide +kernel, rfl, by decide +kernel, by decide +kernel⟩
theorem ok_law_number (T : Txt mg) (D : Def K mg "_law_number" s_law_number ["word", "low", "high"]) : Cal P w K mg base "_law_number" 1 ["word", "low", "high"] (liftV gsNumL) := by
  refine D.cal fun f fd F => F.ok sc_law_number (lift_len ?_) (fun cdv A outer s H vs Q E hr h => ?_)
  · rintro as n P ⟨z, lo, hi, rfl, _⟩
    rfl
  refine ⟨_, (@pss_cons _ _ _ _ _ (ps_for PassesOwn.never rfl (pi_range2 rfl T.b_range (pa_name (pv 1) (pa_binop (pe_op op_add (pv 2) pe_int) pa_nil))) (pg_name (i := 3) sc_law_number.nd rfl (Or.inl rfl) (Or.inl rfl))
      (@pss_one _ _ _ (ps_if (pt_cmpR op_eq (pv 0) (pe_callTy call_str_int rfl T.b_str boot_str (pa_name (pv 3) pa_nil)) (nomark _)) (@pss_one _ _ _ (@ps_ret _ _ _ _ (pv 3))) pss_nil)))
      (@pss_one _ _ _ (@ps_ret _ _ _ _ pe_non))), lift_body h ?_⟩
  rintro as n P ⟨z, lo, hi, rfl, ⟨h1, h2⟩, ⟨h3, h4⟩, q⟩
  refine ⟨rfl, lo, hi + 1, rfl, ⟨by omega, by omega, by omega, by omega⟩, ?_⟩
  refine ⟨fun i env m => m = n ∧ (∀ j : Int, lo ≤ j → j < lo + i → z ≠ numS j) ∧ ∃ a, env = [.d (.str z), .d (.int lo), .d (.int hi), a], ⟨rfl, fun j a b => by omega, _, rfl⟩, ?_, ?_⟩
  · rintro i y env j hy ⟨rfl, hno, a, rfl⟩
    unfold rngD at hy
    rw [List.getElem?_map] at hy
    obtain ⟨k, hk, rfl⟩ := Option.map_eq_some_iff.mp hy
    obtain ⟨hi1, rfl⟩ : i < (hi + 1 - lo).toNat ∧ k = i := by
      obtain ⟨hlt, e⟩ := List.getElem?_eq_some_iff.mp hk
      rw [List.length_range] at hlt
      rw [List.getElem_range] at e
      exact ⟨hlt, e.symm⟩
    refine ⟨(num_of (i := lo + (k : Int)) (by omega) (by omega)).log, ?_⟩
    refine fEq_ss (ite_b (fun c => ?_) (fun c => ?_))
    · have e := numAt_hit (z := z) (lo := lo) (hi := hi) (i := lo + (k : Int)) (of_decide_eq_true c) h1 h4 (by omega) (by omega)
      rw [e] at q
      exact q
    · refine ⟨rfl, fun j a b => ?_, _, rfl⟩
      by_cases hj : j < lo + (k : Int)
      · exact hno j a hj
      · have : j = lo + (k : Int) := by omega
        subst this
        exact of_decide_eq_false c
  · rintro env j ⟨rfl, hno, a, rfl⟩
    rw [rngD_len] at hno
    rw [numAt_no fun i a b => hno i a (by omega)] at q
    exact ⟨_, .refl, q⟩
theorem sc_law_row_way : FnScope ["row", "rooms", "purses", "words", "both", "gains"] ["row", "rooms", "purses"] (defScope s_law_row_way) := ⟨rfl, rfl, rfl, by decide +kernel, rfl, by decide +kernel, by decide +kernel⟩
theorem ok_law_row_way (T : Txt mg) (D : Def K mg "_law_row_way" s_law_row_way ["row", "rooms", "purses"]) (c__law_number : Cal P w K mg base "_law_number" 1 ["word", "low", "high"] (liftV gsNumL)) : Cal P w K mg base "_law_row_way" 2 ["row", "rooms", "purses"] (liftV gsRowWay) := by
  refine D.cal fun f fd F => F.ok sc_law_row_way (lift_len ?_) (fun cdv A outer s H vs Q E hr h => ?_)
  · rintro as n P ⟨row, R, U, rfl, _⟩
    rfl
  refine ⟨_, (@pss_cons _ _ _ _ _ (ps_set (i := 3) sc_law_row_way.nd rfl (Or.inl rfl) (pe_bm PySem.F.plainAttrs_str PySem.F.slot_str_split PySem.F.type_str_split mt_split (pv 0) (pa_const pe_str pa_nil)))
      (@pss_cons _ _ _ _ _ (ps_if (PW.pt (pw_or (pt_cmpR op_ne (pe_callB call_len_seq rfl T.b_len PySem.boot_len (pa_name (pv 3) pa_nil)) (pe_op op_add (pv 2) pe_int) (nomark _)) (pw_or (pt_cmpR op_ne (pe_ix ix_list (pv 3) pe_int (fun _ _ => rfl)) pe_str (nomark _)) (pw_or1 (pt_cmpR op_ne (pe_ix ix_list (pv 3) pe_int (fun _ _ => rfl)) pe_str (nomark _)))))) (@pss_one _ _ _ (@ps_ret _ _ _ _ pe_non)) pss_nil)
      (@pss_cons _ _ _ _ _ (ps_setcomp (i := 4) (sc := (defScope s_law_row_way)) (N := ["row", "rooms", "purses", "words", "both", "gains"]) (N' := ["word", "rooms"]) (k := 1) (idx := [1]) rfl sc_law_row_way.nd rfl rfl (by exact ⟨rfl, by decide +kernel, by decide +kernel, by decide +kernel, by decide +kernel, by decide +kernel, rfl, rfl⟩) rfl rfl (pi_list (@PEs.out _ _ _ (pes_lst (pas_sub (pes_of (pe_ix ix_list (pv 3) pe_int (fun _ _ => rfl))) (pas_sub (pes_of (pe_ix ix_list (pv 3) pe_int (fun _ _ => rfl))) pas_nil))))) (fun _ _ _ _ => (pg_name (i := 0) (show (["word", "rooms"] : List Str).Nodup by decide +kernel) rfl (Or.inl rfl) (Or.inr rfl))) (fun _ _ _ _ => pts_nil) (fun _ _ _ _ => (pe_c c__law_number (hr.mono (by decide)) rfl (pa_name (pv 0) (pa_const pe_int (pa_binop (pe_op op_sub (pv 1) pe_int) pa_nil))))))
      (@pss_cons _ _ _ _ _ (ps_setcomp (i := 5) (sc := (defScope s_law_row_way)) (N := ["row", "rooms", "purses", "words", "both", "gains"]) (N' := ["word"]) (k := 1) (idx := []) rfl sc_law_row_way.nd rfl rfl (by exact ⟨rfl, by decide +kernel, by decide +kernel, by decide +kernel, by decide +kernel, by decide +kernel, rfl, rfl⟩) rfl rfl (pi_list (pe_slice sl_list (pv 3) (po_some pe_int) po_none)) (fun _ _ _ _ => (pg_name (i := 0) (show (["word"] : List Str).Nodup by decide +kernel) rfl (Or.inl rfl) (Or.inr rfl))) (fun _ _ _ _ => pts_nil) (fun _ _ _ _ => (pe_c c__law_number (hr.mono (by decide)) rfl (pa_name (pv 0) (pa_unary (pe_un un_neg pe_int) (pa_const pe_int pa_nil))))))
      (@pss_one _ _ _ (@ps_ret _ _ _ _ (pe_ifExp (pt_cmpR op_in_seq pe_non (pe_op op_cat (pv 4) (pv 5)) (by with_unfolding_all rfl)) pe_non (@PEs.out _ _ _ (pes_tup (pas_sub (pes_of (pe_ix ix_list (pv 4) pe_int (fun _ _ => rfl))) (pas_sub (pes_of (pe_ix ix_list (pv 4) pe_int (fun _ _ => rfl))) (pas_call (pes_of (pe_callTy call_tuple_of rfl T.b_tuple boot_tuple (pa_name (pv 5) pa_nil))) pas_nil)))))))))))), lift_body h ?_⟩
  rintro as n P ⟨row, R, U, rfl, hz, ⟨h1, h2⟩, ⟨h3, h4⟩, q⟩
  have hs : sizeLine = 16777216 := sizeLine_eq
  have hl := hz.l
  obtain ⟨wl, wok⟩ := split_ok (sep := " ") (by decide) hz
  rw [okRow_eq] at q
  refine ⟨rfl, _, rfl, rfl, by omega, by omega, ?_⟩
  generalize Txt.split row " " = W at wl wok q
  refine ⟨[.d (.str row), .d (.int R), .d (.int U), .d (.list (W.map .str)), .jnk, .jnk], .fz 3 _ rfl .refl, fNe_i ?_⟩
  rw [List.length_map]
  by_cases el : (W.length : Int) = U + 4
  · rw [show (!decide ((W.length : Int) = U + 4)) = false by rw [decide_eq_true el]; rfl]
    obtain ⟨a, ar, b, co, gs, rfl⟩ : ∃ a ar b co gs, W = a :: ar :: b :: co :: gs := by
      match W, el with
      | a :: ar :: b :: co :: gs, _ => exact ⟨a, ar, b, co, gs, rfl⟩
      | [], e => simp at e; omega
      | [_], e => simp at e; omega
      | [_, _], e => simp at e; omega
      | [_, _, _], e => simp at e; omega
    simp only [List.length_cons] at el wl
    rw [okW1_all (R := R) (show (gs.length : Int) = U by omega)] at q
    refine iteF ⟨_, at_one, fNe_ss ?_⟩
    by_cases e1 : ar = "->"
    · subst e1
      rw [decide_eq_true (rfl : ("->" : Str) = "->")] at q ⊢
      refine iteF ⟨_, at_getD (by decide) rfl, fNe_ss ?_⟩
      by_cases e2 : co = ":"
      · subst e2
        rw [decide_eq_true (rfl : (":" : Str) = ":")] at q ⊢
        refine iteF ⟨_, .refl, ?_⟩
        have f1 : ∀ x ∈ gs, TxOk x := fun x hx => wok x (by simp [hx])
        refine ⟨_, at_zero, _, at_getD (by decide) rfl, by rw [hs]; exact Nat.le_of_ble_eq_true rfl, ⟨rfl, by rw [hs]; exact Nat.le_of_ble_eq_true rfl⟩, ?_⟩
        show cmpW _ ([a, b].map PyData.str) _ _
        refine cmpW_mapG (f := PyData.str) (fun z => optJ (numAt z 0 (R - 1))) (fun z hm m K hK => iteT ⟨z, 0, R - 1, rfl, ⟨by decide, by decide⟩, ⟨by omega, by omega⟩, hK⟩) ?_
        refine ⟨[.d (.str row), .d (.int R), .d (.int U), .d (.list ((a :: "->" :: b :: ":" :: gs).map .str)), .own ([optJ (numAt a 0 (R - 1)), optJ (numAt b 0 (R - 1))]), .jnk], .eq rfl, ?_⟩
        have c3 : cutD ((a :: "->" :: b :: ":" :: gs).map PyData.str) (some 4) none = gs.map PyData.str := cutD_drop _ 4
        have lx : (cutD ((a :: "->" :: b :: ":" :: gs).map PyData.str) (some 4) none).length ≤ sizeLine := by rw [c3, List.length_map]; omega
        refine ⟨⟨rfl, lx⟩, ?_⟩
        rw [c3]
        refine cmpW_mapG (f := PyData.str) (fun z => optJ (numAt z (-99) 99)) (fun z hm m K hK => iteT ⟨z, -99, 99, rfl, ⟨by decide, by decide⟩, ⟨by decide, by decide⟩, hK⟩) ?_
        refine ⟨[.d (.str row), .d (.int R), .d (.int U), .d (.list ((a :: "->" :: b :: ":" :: gs).map .str)), .own ([optJ (numAt a 0 (R - 1)), optJ (numAt b 0 (R - 1))]), .own (gs.map fun z => optJ (numAt z (-99) 99))], .eq rfl, ?_⟩
        have eo : [optJ (numAt a 0 (R - 1)), optJ (numAt b 0 (R - 1))] ++ (gs.map fun z => optJ (numAt z (-99) 99)) = (numAt a 0 (R - 1) :: numAt b 0 (R - 1) :: gs.map fun z => numAt z (-99) 99).map optJ := by
          rw [List.map_cons, List.map_cons, List.map_map]; rfl
        have ea : optAll (numAt a 0 (R - 1) :: numAt b 0 (R - 1) :: gs.map fun z => numAt z (-99) 99) = (numIn a 0 (R - 1) && numIn b 0 (R - 1) && gs.all fun x => numIn x (-99) 99) := by
          unfold optAll
          rw [List.all_cons, List.all_cons, List.all_map, numAt_some, numAt_some, Bool.and_assoc]
          congr 2
          exact List.all_congr rfl fun z => numAt_some
        have lo : ([optJ (numAt a 0 (R - 1)), optJ (numAt b 0 (R - 1))] ++ (gs.map fun z => optJ (numAt z (-99) 99))).length ≤ sizeLine := by rw [List.length_append, List.length_map]; show 2 + _ ≤ _; omega
        have so : ([optJ (numAt a 0 (R - 1)), optJ (numAt b 0 (R - 1))] ++ (gs.map fun z => optJ (numAt z (-99) 99))).all scalD = true := by
          rw [eo, List.all_map]
          exact List.all_eq_true.mpr fun o _ => by cases o <;> rfl
        have ei : inD .none ([optJ (numAt a 0 (R - 1)), optJ (numAt b 0 (R - 1))] ++ (gs.map fun z => optJ (numAt z (-99) 99))) = !(numIn a 0 (R - 1) && numIn b 0 (R - 1) && gs.all fun x => numIn x (-99) 99) := by rw [eo, none_in, ea]
        refine ⟨by rw [← List.length_append]; exact lo, rfl, so, ?_⟩
        have e0 : (if false = true then !inD PyData.none ([optJ (numAt a 0 (R - 1)), optJ (numAt b 0 (R - 1))] ++ (gs.map fun z => optJ (numAt z (-99) 99))) else inD PyData.none ([optJ (numAt a 0 (R - 1)), optJ (numAt b 0 (R - 1))] ++ (gs.map fun z => optJ (numAt z (-99) 99)))) = !(numIn a 0 (R - 1) && numIn b 0 (R - 1) && gs.all fun x => numIn x (-99) 99) := by rw [if_neg (by decide)]; exact ei
        rw [e0]
        cases hb : (numIn a 0 (R - 1) && numIn b 0 (R - 1) && gs.all fun x => numIn x (-99) 99) with
        | false =>
          rw [hb] at q
          exact iteT q
        | true =>
          rw [hb] at q
          simp only [Bool.and_eq_true] at hb
          have eg : (gs.map fun z => optJ (numAt z (-99) 99)) = (gs.map numV).map PyData.int := by
            rw [List.map_map]
            exact List.map_congr_left fun z hz => numAt_v (List.all_eq_true.mp hb.2 z hz)
          rw [eg, numAt_v hb.1.1, numAt_v hb.1.2]
          exact iteF ⟨_, at_zero, _, at_one, three_line, q⟩
      · rw [decide_eq_false e2] at q ⊢
        exact iteT q
    · rw [decide_eq_false e1] at q ⊢
      exact iteT q
  · rw [show (!decide ((W.length : Int) = U + 4)) = true by rw [decide_eq_false el]; rfl]
    rw [okW1_len el] at q
    exact iteT q
theorem sc_law_read : FnScope ["text", "rows", "heads", "at", "head", "most", "words", "number", "ways", "way"] ["text"] (defScope s_law_read) := ⟨rfl, rfl, rfl, by decide +kernel, rfl, by decide +kernel, by decide +kernel⟩
theorem ok_law_read (T : Txt mg) (D : Def K mg "_law_read" s_law_read ["text"]) (c__law_number : Cal P w K mg base "_law_number" 1 ["word", "low", "high"] (liftV gsNumL)) (c__law_row_way : Cal P w K mg base "_law_row_way" 2 ["row", "rooms", "purses"] (liftV gsRowWay)) : Cal P w K mg base "_law_read" 3 ["text"] (liftV gsLawRead) := by
  refine D.cal fun f fd F => F.ok sc_law_read (lift_len ?_) (fun cdv A outer s H vs Q E hr h => ?_)
  · rintro as n P ⟨t, rfl, _⟩
    rfl
  refine ⟨_, (@pss_cons _ _ _ _ _ (ps_set (i := 1) sc_law_read.nd rfl (Or.inl rfl) (pe_bm PySem.F.plainAttrs_str PySem.F.slot_str_split PySem.F.type_str_split mt_split (pv 0) (pa_const pe_str pa_nil)))
      (@pss_cons _ _ _ _ _ (@ps_setD _ _ 2 _ _ _ _ sc_law_read.nd rfl (Or.inl rfl) (pes_lst pas_nil) rfl (Or.inl rfl))
      (@pss_cons _ _ _ _ _ (ps_for PassesOwn.never rfl (pi_list (@PEs.out _ _ _ (pes_lst (pas_tuple (pes_tup (pas_const pes_int (pas_const pes_str (pas_const pes_int pas_nil)))) (pas_tuple (pes_tup (pas_const pes_int (pas_const pes_str (pas_const pes_int pas_nil)))) pas_nil))))) (pg_trio (K' := K) (i := 3) (j := 4) (m := 5) rfl sc_law_read.nd ⟨rfl, (Or.inl rfl), (Or.inl rfl)⟩ ⟨rfl, (Or.inl rfl), (Or.inl rfl)⟩ ⟨rfl, (Or.inl rfl), (Or.inl rfl)⟩ rfl)
      (@pss_cons _ _ _ _ _ (ps_if (pt_cmpR op_eq (pv 3) (pe_callB call_len_seq rfl T.b_len PySem.boot_len (pa_name (pv 1) pa_nil)) (nomark _)) (@pss_one _ _ _ (@ps_ret _ _ _ _ (pv 3))) pss_nil)
      (@pss_cons _ _ _ _ _ (ps_set (i := 6) sc_law_read.nd rfl (Or.inl rfl) (pe_bm PySem.F.plainAttrs_str PySem.F.slot_str_split PySem.F.type_str_split mt_split (pe_ix ix_list (pv 1) (pv 3) (fun _ _ => rfl)) (pa_const pe_str pa_nil)))
      (@pss_cons _ _ _ _ _ (ps_set (i := 7) sc_law_read.nd rfl (Or.inl rfl) (pe_ifExp (pt_cmpR op_eq (pe_callB call_len_seq rfl T.b_len PySem.boot_len (pa_name (pv 6) pa_nil)) pe_int (nomark _)) (pe_c c__law_number (hr.mono (by decide)) rfl (pa_sub (pe_ix ix_list (pv 6) pe_int (fun _ _ => rfl)) (pa_const pe_int (pa_name (pv 5) pa_nil)))) pe_non))
      (@pss_cons _ _ _ _ _ (ps_if (PW.pt (pw_or (pt_cmpR op_ne (pe_ix ix_list (pv 6) pe_int (fun _ _ => rfl)) (pv 4) (nomark _)) (pw_or1 (pt_cmpR op_isN (pv 7) pe_non (nomark _))))) (@pss_one _ _ _ (@ps_ret _ _ _ _ (pv 3))) pss_nil)
      (@pss_one _ _ _ (ps_expr (pe_bm PySem.F.plainAttrs_list PySem.F.slot_list_append PySem.F.type_list_append mt_append (pv 2) (pa_name (pv 7) pa_nil)))))))))
      (@pss_cons _ _ _ _ _ (@ps_setD _ _ 8 _ _ _ _ sc_law_read.nd rfl (Or.inl rfl) (pes_lst pas_nil) rfl (Or.inl rfl))
      (@pss_cons _ _ _ _ _ (ps_for PassesOwn.never rfl (pi_range2 rfl T.b_range (pa_const pe_int (pa_call (pe_callB call_len_seq rfl T.b_len PySem.boot_len (pa_name (pv 1) pa_nil)) pa_nil))) (pg_name (i := 3) sc_law_read.nd rfl (Or.inl rfl) (Or.inl rfl))
      (@pss_cons _ _ _ _ _ (ps_set (i := 9) sc_law_read.nd rfl (Or.inl rfl) (pe_c c__law_row_way (hr.mono (by decide)) rfl (pa_sub (pe_ix ix_list (pv 1) (pv 3) (fun _ _ => rfl)) (pa_sub (pe_ix ix_list (pv 2) pe_int (fun _ _ => rfl)) (pa_sub (pe_ix ix_list (pv 2) pe_int (fun _ _ => rfl)) pa_nil)))))
      (@pss_cons _ _ _ _ _ (ps_if (PW.pt (pw_or (pt_cmpR op_isN (pv 9) pe_non (nomark _)) (pw_or1 (pt_cmpR op_eq (pv 3) pe_int (nomark _))))) (@pss_one _ _ _ (@ps_ret _ _ _ _ (pv 3))) pss_nil)
      (@pss_one _ _ _ (ps_expr (pe_bm PySem.F.plainAttrs_list PySem.F.slot_list_append PySem.F.type_list_append mt_append (pv 8) (pa_name (pv 9) pa_nil)))))))
      (@pss_one _ _ _ (@ps_ret _ _ _ _ (@PEs.out _ _ _ (pes_tup (pas_sub (pes_of (pe_ix ix_list (pv 2) pe_int (fun _ _ => rfl))) (pas_sub (pes_of (pe_ix ix_list (pv 2) pe_int (fun _ _ => rfl))) (pas_call (pes_of (pe_callTy call_tuple_of rfl T.b_tuple boot_tuple (pa_name (pv 8) pa_nil))) pas_nil)))))))))))), lift_body h ?_⟩
  rintro as n P ⟨t, rfl, hz, q⟩
  have hs : sizeLine = 16777216 := sizeLine_eq
  have hl := hz.l
  obtain ⟨rll, rok⟩ := split_ok (sep := " / ") (by decide) hz
  have rl1 : 1 ≤ (Txt.split t " / ").length := by
    obtain ⟨w, ws, e⟩ := split_some (row := t) (sep := " / ")
    rw [e, List.length_cons]; omega
  refine ⟨rfl, _, rfl, rfl, by omega, by omega, ?_⟩
  generalize Txt.split t " / " = rows at rll rok rl1 q
  refine ⟨_, .fz 1 _ rfl .refl, Nat.zero_le _, ?_⟩
  refine ⟨[.d (.str t), .d (.list (rows.map .str)), .own [], .jnk, .jnk, .jnk, .jnk, .jnk, .jnk, .jnk], .eq rfl, ?_⟩
  refine vseq (fun env k => k = n ∧ ∃ (R U : Int) (x3 x4 x5 x6 x7 : Vl), manyR rows 0 "rooms" 12 = some R ∧ manyR rows 1 "purses" 6 = some U ∧ env = [.d (.str t), .d (.list (rows.map .str)), .own [.int R, .int U], x3, x4, x5, x6, x7, .jnk, .jnk]) (fun M hM => ?_) ?_
  · refine ⟨three_line, three_line, two_line, fun i env m => m = n ∧ ∃ (l : List Int) (x3 x4 x5 x6 x7 : Vl), hdSt rows i l ∧ env = [.d (.str t), .d (.list (rows.map .str)), .own (l.map .int), x3, x4, x5, x6, x7, .jnk, .jnk], ⟨rfl, [], _, _, _, _, _, rfl, rfl⟩, ?_, ?_⟩
    · rintro i y env j hy ⟨rfl, l, x3, x4, x5, x6, x7, st, rfl⟩
      obtain ⟨at', head, most, rfl, ha, ⟨hm0, hm1⟩, hll, hno, hyes⟩ := hd_turn hy st
      refine ⟨rfl, rfl, fEq_i ?_⟩
      rw [List.length_map]
      have out : manyR rows at' head most = none → P (.int (at' : Int)) j := fun e => by
        rw [hno e] at q
        exact q
      refine ite_b (fun c => ?_) (fun c => ?_)
      · have c : ((at' : Nat) : Int) = (rows.length : Int) := of_decide_eq_true c
        refine out ?_
        unfold manyR wordsAt
        rw [List.getElem?_eq_none (by omega)]
        rfl
      have c : ¬ ((at' : Nat) : Int) = (rows.length : Int) := of_decide_eq_false c
      have hi : at' < rows.length := by omega
      have e : rows[at']? = some rows[at'] := List.getElem?_eq_getElem hi
      have ok := rok rows[at'] (List.getElem_mem hi)
      have := ok.l
      obtain ⟨wl, wok⟩ := split_ok (sep := " ") (by decide) ok
      have hat : atI (rows.map PyData.str) (at' : Int) = some (.str rows[at']) := at_getD (by omega) (by rw [Int.toNat_natCast, List.getElem?_map, e]; rfl)
      have em : manyR rows at' head most = many1 (Txt.split rows[at'] " ") head most := by unfold manyR wordsAt; rw [e]
      refine ⟨_, .refl, _, hat, _, rfl, rfl, by omega, by omega, ?_⟩
      obtain ⟨w0, ws, es⟩ := split_some (row := rows[at']) (sep := " ")
      rw [es] at wl wok em ⊢
      rw [many1_cons] at em
      refine ⟨[.d (.str t), .d (.list (rows.map .str)), .own (l.map .int), .d (.int at'), .d (.str head), .d (.int most), .d (.list ((w0 :: ws).map .str)), x7, .jnk, .jnk], .fz 6 _ rfl .refl, ?_⟩
      generalize en : oneNum ws most = num at em
      refine vseq (fun env k => k = j ∧ env = [.d (.str t), .d (.list (rows.map .str)), .own (l.map .int), .d (.int at'), .d (.str head), .d (.int most), .d (.list ((w0 :: ws).map .str)), .d (optJ num), .jnk, .jnk]) (fun N hN => ?_) ?_
      · refine fEq_i ?_
        rw [List.length_map]
        match ws, en with
        | [], en => exact ite_f (decide_eq_false (by simp)) (hN _ _ ⟨rfl, by rw [← en]; rfl⟩)
        | [z], en => exact ite_t (decide_eq_true (by simp)) ⟨_, at_one, z, 1, most, rfl, ⟨by decide, by decide⟩, ⟨by omega, by omega⟩, hN _ _ ⟨rfl, by rw [← en]; rfl⟩⟩
        | z1 :: z2 :: zs, en => exact ite_f (decide_eq_false (by simp only [List.length_cons]; omega)) (hN _ _ ⟨rfl, by rw [← en]; rfl⟩)
      rintro _ _ ⟨rfl, rfl⟩
      refine ⟨_, .refl, _, at_zero, fNe_ss ?_⟩
      by_cases ew : w0 = head
      · rw [if_pos ew] at em
        rw [decide_eq_true ew]
        refine iteF ?_
        cases num with
        | none => exact ⟨rfl, iteT (out em)⟩
        | some k => exact ⟨rfl, iteF ⟨_, .refl, by rw [List.length_map]; omega, rfl, l ++ [k], _, _, _, _, _, hyes k em, by rw [List.map_append]; rfl⟩⟩
      · rw [if_neg ew] at em
        rw [decide_eq_false ew]
        exact iteT (out em)
    · rintro env j ⟨rfl, l, x3, x4, x5, x6, x7, ⟨R, U, rfl, m0, m1⟩, rfl⟩
      exact hM _ _ ⟨rfl, R, U, _, _, _, _, _, m0, m1, rfl⟩
  rintro _ k ⟨rfl, R, U, x3, x4, x5, x6, x7, m0, m1, rfl⟩
  have hR := many_b m0
  have hU := many_b m1
  have eq1 : readR rows = waysR R U (rows.drop 2) 2 [] := by
    unfold readR
    rw [m0]
    show (match manyR rows 1 "purses" 6 with | none => Sum.inl 1 | some U => waysR R U (rows.drop 2) 2 []) = _
    rw [m1]
  rw [eq1] at q
  refine ⟨_, .refl, Nat.zero_le _, ⟨[.d (.str t), .d (.list (rows.map .str)), .own [.int R, .int U], x3, x4, x5, x6, x7, .own [], .jnk], .eq rfl, 2, (rows.length : Int), by rw [List.length_map], ⟨by decide, by decide, by omega, by omega⟩, ?_⟩⟩
  refine ⟨fun i env m => m = k ∧ ∃ (ws : List Way) (x3 x9 : Vl), ws.length = i ∧ ws.length ≤ 60 ∧ waysR R U (rows.drop 2) 2 [] = waysR R U (rows.drop (i + 2)) (i + 2) ws ∧ env = [.d (.str t), .d (.list (rows.map .str)), .own [.int R, .int U], x3, x4, x5, x6, x7, .own (ws.map wayPD), x9], ⟨rfl, [], _, _, rfl, Nat.zero_le _, rfl, rfl⟩, ?_, ?_⟩
  · rintro i y env j hy ⟨rfl, ws, x3, x9, hwl, hl60, hw, rfl⟩
    unfold rngD at hy
    rw [List.getElem?_map] at hy
    obtain ⟨k, hk, rfl⟩ := Option.map_eq_some_iff.mp hy
    obtain ⟨hi1, rfl⟩ : i < ((rows.length : Int) - 2).toNat ∧ k = i := by
      obtain ⟨hlt, e⟩ := List.getElem?_eq_some_iff.mp hk
      rw [List.length_range] at hlt
      rw [List.getElem_range] at e
      exact ⟨hlt, e.symm⟩
    have hi : k + 2 < rows.length := by omega
    have e : rows[k + 2]? = some rows[k + 2] := List.getElem?_eq_getElem hi
    have ok1 := rok rows[k + 2] (List.getElem_mem hi)
    have hat : atI (rows.map PyData.str) (2 + (k : Int)) = some (.str rows[k + 2]) := at_getD (by omega) (by rw [show (2 + (k : Int)).toNat = k + 2 by omega, List.getElem?_map, e]; rfl)
    rw [List.drop_eq_getElem_cons hi] at hw
    generalize rows[k + 2] = row at ok1 hat hw
    have hw : waysR R U (rows.drop 2) 2 [] = if ws.length = 60 then .inl ((k + 2 : Nat) : Int) else match okRow R U row with
      | some w => waysR R U (rows.drop (k + 2 + 1)) (k + 2 + 1) (ws ++ [w])
      | none => .inl ((k + 2 : Nat) : Int) := hw
    have out : waysR R U (rows.drop 2) 2 [] = .inl ((k + 2 : Nat) : Int) → P (.int (2 + (k : Int))) j := fun e => by
      rw [e] at q
      have q : P (.int ((k + 2 : Nat) : Int)) j := q
      rw [show ((k + 2 : Nat) : Int) = 2 + (k : Int) by omega] at q
      exact q
    refine ⟨_, hat, _, at_zero, _, at_one, row, R, U, rfl, ok1, hR, hU, ⟨[.d (.str t), .d (.list (rows.map .str)), .own [.int R, .int U], .d (.int (2 + (k : Int))), x4, x5, x6, x7, .own (ws.map wayPD), .d (wayOD (okRow R U row))], .eq rfl, ?_⟩⟩
    cases ho : okRow R U row with
    | none =>
      rw [ho] at hw
      exact ⟨rfl, iteT (iteT (out (by rw [hw]; split <;> rfl)))⟩
    | some w =>
      rw [ho] at hw
      refine ⟨rfl, iteF (fEq_i ?_)⟩
      by_cases h60 : ws.length = 60
      · rw [if_pos h60] at hw
        exact ite_t (decide_eq_true (by omega)) (out hw)
      · rw [if_neg h60] at hw
        refine ite_f (decide_eq_false (by omega)) ⟨_, .refl, by rw [List.length_map]; omega, rfl, ws ++ [w], _, _, by rw [List.length_append, hwl]; rfl, by rw [List.length_append]; show _ + 1 ≤ _; omega, hw, by rw [List.map_append]; rfl⟩
  · rintro env j ⟨rfl, ws, x3, x9, hwl, hl60, hw, rfl⟩
    rw [rngD_len] at hwl hw
    have ed : rows.drop (((rows.length : Int) - 2).toNat + 2) = [] := List.drop_eq_nil_of_le (by omega)
    rw [ed] at hw
    have hw : waysR R U (rows.drop 2) 2 [] = .inr (R, U, ws) := hw
    rw [hw] at q
    exact ⟨_, .refl, _, at_zero, _, at_one, three_line, q⟩

theorem sc_law_any_sign : FnScope ["jar", "some"] ["jar"] (defScope s_law_any_sign) := ⟨rfl, rfl, rfl, by decide +kernel, rfl, by decide +kernel, by decide +kernel⟩
theorem ok_law_any_sign (T : Txt mg) (D : Def K mg "_law_any_sign" s_law_any_sign ["jar"]) (c__law_pick : Cal P w K mg base "_law_pick" 2 ["jar", "many"] (liftV gsPick)) : Cal P w K mg base "_law_any_sign" 3 ["jar"] (liftV gsAnySign) := by
  refine D.cal fun f fd F => F.ok sc_law_any_sign (lift_len ?_) (fun cdv A outer s H vs Q E hr h => ?_)
  · rintro as n P ⟨rfl, _⟩
    rfl
  refine ⟨_, (@pss_cons _ _ _ _ _ (ps_set (i := 1) sc_law_any_sign.nd rfl (Or.inl rfl) pe_str)
      (@pss_one _ _ _ (@ps_ret _ _ _ _ (pe_ix ix_str (pe_op op_add_str (pv 1) pe_str) (pe_c c__law_pick (hr.mono (by decide)) rfl (pa_name (pv 0) (pa_const pe_int pa_nil))) (fun _ _ => rfl))))), lift_body h ?_⟩
  rintro as n P ⟨rfl, q⟩
  have hs : sizeLine = 16777216 := sizeLine_eq
  refine ⟨rfl, ⟨_, .refl, by rw [hs]; exact Nat.le_of_ble_eq_true rfl, 94, rfl, by decide, by decide +kernel, fun r r0 r1 => ?_⟩⟩
  obtain ⟨c, hc, h1⟩ := sign_at (z := Str.ofString " !\"#$&'()*+,-./0123456789:;<=>?@ABCDEFGHIJKLMNOPQRSTUVWXYZ[\\]^_`" ++ Str.ofString "abcdefghijklmnopqrstuvwxyz{|}~") (by decide) r0 (Int.lt_of_lt_of_le r1 (by decide))
  exact ⟨by rw [hs]; exact Nat.le_of_ble_eq_true rfl, c, hc, q c h1⟩

theorem sc_law_bent : FnScope ["jar", "text", "others", "rows", "at", "to", "way", "spot", "sign", "words"] ["jar", "text", "others"] (defScope s_law_bent) := ⟨rfl, rfl, rfl, by decide +kernel, rfl, by decide +kernel, by decide +kernel⟩
theorem ok_law_bent (T : Txt mg) (D : Def K mg "_law_bent" s_law_bent ["jar", "text", "others"]) (c__law_pick : Cal P w K mg base "_law_pick" 2 ["jar", "many"] (liftV gsPick)) (c__law_any_sign : Cal P w K mg base "_law_any_sign" 3 ["jar"] (liftV gsAnySign)) : Cal P w K mg base "_law_bent" 4 ["jar", "text", "others"] (liftV gsBentE) := by
  refine D.cal fun f fd F => F.ok sc_law_bent (lift_len ?_) (fun cdv A outer s H vs Q E hr h => ?_)
  · rintro as n P ⟨m, hm, t, os, rfl, _⟩
    rfl
  refine ⟨_, (@pss_cons _ _ _ _ _ (ps_set (i := 3) sc_law_bent.nd rfl (Or.inl rfl) (@pe_bm _ _ _ _ _ _ _ _ _ _ _ _ PySem.F.plainAttrs_str PySem.F.slot_str_split PySem.F.type_str_split mt_split (pv 1) (pa_const pe_str pa_nil) (by rfl) (by rfl) (by rfl) (by rfl) (by rfl)))
      (@pss_cons _ _ _ _ _ (ps_set (i := 4) sc_law_bent.nd rfl (Or.inl rfl) (pe_c c__law_pick (hr.mono (by decide)) rfl (pa_name (pv 0) (pa_call (pe_callB call_len_seq rfl T.b_len PySem.boot_len (pa_name (pv 3) pa_nil)) pa_nil))))
      (@pss_cons _ _ _ _ _ (ps_set (i := 5) sc_law_bent.nd rfl (Or.inl rfl) (pe_c c__law_pick (hr.mono (by decide)) rfl (pa_name (pv 0) (pa_binop (pe_op op_add (pe_callB call_len_seq rfl T.b_len PySem.boot_len (pa_name (pv 3) pa_nil)) pe_int) pa_nil))))
      (@pss_cons _ _ _ _ _ (ps_set (i := 6) sc_law_bent.nd rfl (Or.inl rfl) (pe_c c__law_pick (hr.mono (by decide)) rfl (pa_name (pv 0) (pa_const pe_int pa_nil))))
      (@pss_cons _ _ _ _ _ (ps_set (i := 7) sc_law_bent.nd rfl (Or.inl rfl) (pe_c c__law_pick (hr.mono (by decide)) rfl (pa_name (pv 0) (pa_binop (pe_op op_add (pe_callB call_len_str rfl T.b_len PySem.boot_len (pa_name (pv 1) pa_nil)) pe_int) pa_nil))))
      (@pss_cons _ _ _ _ _ (ps_set (i := 8) sc_law_bent.nd rfl (Or.inl rfl) (pe_ix ix_list (@PEs.out _ _ _ (pes_lst (pas_sub (pes_of (pe_ix ix_str pe_str (pe_c c__law_pick (hr.mono (by decide)) rfl (pa_name (pv 0) (pa_const pe_int pa_nil))) (fun _ _ => rfl))) (pas_call (pes_of (pe_c c__law_any_sign (hr.mono (by decide)) rfl (pa_name (pv 0) pa_nil))) pas_nil)))) (pe_c c__law_pick (hr.mono (by decide)) rfl (pa_name (pv 0) (pa_const pe_int pa_nil))) (fun _ _ => rfl)))
      (@pss_cons _ _ _ _ _ (ps_if (pt_cmpR op_lt (pv 6) pe_int (nomark _)) (@pss_one _ _ _ (@ps_ret _ _ _ _ (pe_op op_add_str (pe_op op_add_str (pe_slice sl_strH (pv 1) po_none (po_some (pv 7))) (pe_ix ix_list (@PEs.out _ _ _ (pes_lst (pas_name (pes_of (pv 8)) (pas_const pes_str (pas_name (pes_of (pv 8)) pas_nil))))) (pv 6) (fun _ _ => rfl))) (pe_slice sl_str (pv 1) (po_some (pe_op op_add (pv 7) (pe_callTy call_int1 rfl T.b_int boot_int (pa_cmp (pe_cmpR op_gt (pv 6) pe_int (nomark _)) pa_nil)))) po_none)))) pss_nil)
      (@pss_cons _ _ _ _ _ (ps_if (pt_cmpR op_eq (pv 6) pe_int (nomark _)) (@pss_one _ _ _ (@ps_ret _ _ _ _ (@pe_bm _ _ _ _ _ _ _ _ _ _ _ _ PySem.F.plainAttrs_str PySem.F.slot_str_join PySem.F.type_str_join mt_join pe_str (pa_binop (pe_op op_cat (pe_slice sl_list (pv 3) po_none (po_some (pv 4))) (pe_slice sl_list (pv 3) (po_some (pe_op op_add (pv 4) pe_int)) po_none)) pa_nil) (by rfl) (by rfl) (by rfl) (by rfl) (by rfl)))) pss_nil)
      (@pss_cons _ _ _ _ _ (ps_if (pt_cmpR op_eq (pv 6) pe_int (nomark _)) (@pss_one _ _ _ (@ps_ret _ _ _ _ (@pe_bm _ _ _ _ _ _ _ _ _ _ _ _ PySem.F.plainAttrs_str PySem.F.slot_str_join PySem.F.type_str_join mt_join pe_str (pa_binop (pe_op op_cat (pe_op op_cat (pe_slice sl_list (pv 3) po_none (po_some (pv 5))) (@PEs.out _ _ _ (pes_lst (pas_sub (pes_of (pe_ix ix_list (pv 3) (pv 4) (fun _ _ => rfl))) pas_nil)))) (pe_slice sl_list (pv 3) (po_some (pv 5)) po_none)) pa_nil) (by rfl) (by rfl) (by rfl) (by rfl) (by rfl)))) pss_nil)
      (@pss_cons _ _ _ _ _ (ps_if (pt_cmpR op_eq (pv 6) pe_int (nomark _)) (@pss_one _ _ _ (@ps_asg _ _ _ _ _ _ (pe_ix ix_list (pv 2) (pe_c c__law_pick (hr.mono (by decide)) rfl (pa_name (pv 0) (pa_call (pe_callB call_len_seq rfl T.b_len PySem.boot_len (pa_name (pv 2) pa_nil)) pa_nil))) (fun _ _ => rfl)) (pg_sub (pv 3) (pv 4) set_list (fun v => assign_sub_name _ _ _ _ _ v)) (by rfl) (by rfl) (by rfl))) pss_nil)
      (@pss_cons _ _ _ _ _ (ps_if (pt_cmpR op_gt (pv 6) pe_int (nomark _)) (@pss_cons _ _ _ _ _ (ps_set (i := 9) sc_law_bent.nd rfl (Or.inl rfl) (@pe_bm _ _ _ _ _ _ _ _ _ _ _ _ PySem.F.plainAttrs_str PySem.F.slot_str_split PySem.F.type_str_split mt_split (pe_ix ix_list (pv 3) (pv 4) (fun _ _ => rfl)) (pa_const pe_str pa_nil) (by rfl) (by rfl) (by rfl) (by rfl) (by rfl)))
      (@pss_cons _ _ _ _ _ (@ps_asg _ _ _ _ _ _ (@PEs.out _ _ _ (pes_ix ix_list (pes_lst (pas_const pes_str (pas_const pes_str (pas_const pes_str (pas_const pes_str (pas_const pes_str (pas_const pes_str (pas_const pes_str (pas_const pes_str (pas_const pes_str pas_nil)))))))))) (pe_c c__law_pick (hr.mono (by decide)) rfl (pa_name (pv 0) (pa_const pe_int pa_nil))) (fun _ _ => rfl))) (pg_sub (pv 9) (pe_c c__law_pick (hr.mono (by decide)) rfl (pa_name (pv 0) (pa_call (pe_callB call_len_seq rfl T.b_len PySem.boot_len (pa_name (pv 9) pa_nil)) pa_nil))) set_list (fun v => assign_sub_call _ _ _ _ _ _ _ v)) (by rfl) (by rfl) (by rfl))
      (@pss_one _ _ _ (@ps_asg _ _ _ _ _ _ (@pe_bm _ _ _ _ _ _ _ _ _ _ _ _ PySem.F.plainAttrs_str PySem.F.slot_str_join PySem.F.type_str_join mt_join pe_str (pa_name (pv 9) pa_nil) (by rfl) (by rfl) (by rfl) (by rfl) (by rfl)) (pg_sub (pv 3) (pv 4) set_list (fun v => assign_sub_name _ _ _ _ _ v)) (by rfl) (by rfl) (by rfl))))) pss_nil)
      (@pss_one _ _ _ (@ps_ret _ _ _ _ (@pe_bm _ _ _ _ _ _ _ _ _ _ _ _ PySem.F.plainAttrs_str PySem.F.slot_str_join PySem.F.type_str_join mt_join pe_str (pa_name (pv 3) pa_nil) (by rfl) (by rfl) (by rfl) (by rfl) (by rfl))))))))))))))), lift_body h ?_⟩
  rintro as n P ⟨m, hm, t, os, rfl, ht, ho, ⟨o1, o2⟩, q⟩
  have hs : sizeLine = 16777216 := sizeLine_eq
  have hl := ht.l
  have S3 : RsM 3 (m + 3) (Txt.split t " / ") := split_M (sep := " / ") ht
  have rl1 : 1 ≤ (Txt.split t " / ").length := by
    obtain ⟨w, ws, e⟩ := split_some (row := t) (sep := " / ")
    rw [e, List.length_cons]; omega
  have rll := wt_len 3 (by decide) (Txt.split t " / ")
  have rlm := S3.l
  refine ⟨rfl, _, rfl, rfl, by omega, by omega, ?_⟩
  generalize Txt.split t " / " = rows at S3 rl1 rll rlm
  have lm : (rows.map PyData.str).length = rows.length := List.length_map _
  have j3 : ∀ {k : Nat} {rs : List Str}, RsM 3 k rs → k ≤ 2 * m + 1010 → JoinOk " / " rs = true ∧ TxM (2 * m + 1010) (Txt.join " / " rs) := fun {k rs} h hk => by
    obtain ⟨a, b⟩ := RsM.join (sep := " / ") h (by decide) (by decide) (by omega)
    exact ⟨a, b.mono hk⟩
  refine ⟨[.jar, .d (.str t), .d (.list (os.map .str)), .own (rows.map .str), .jnk, .jnk, .jnk, .jnk, .jnk, .jnk], .eq rfl, ?_⟩
  refine ⟨((rows.map PyData.str).length : Int), rfl, by omega, Int.lt_of_le_of_lt (show _ ≤ (1000000 : Int) by omega) (by decide +kernel), fun a a0 a1 => ⟨[.jar, .d (.str t), .d (.list (os.map .str)), .own (rows.map .str), .d (.int a), .jnk, .jnk, .jnk, .jnk, .jnk], .eq rfl, ?_⟩⟩
  refine ⟨((rows.map PyData.str).length : Int) + 1, rfl, by omega, Int.lt_of_le_of_lt (show _ ≤ (1000000 : Int) by omega) (by decide +kernel), fun b b0 b1 => ⟨[.jar, .d (.str t), .d (.list (os.map .str)), .own (rows.map .str), .d (.int a), .d (.int b), .jnk, .jnk, .jnk, .jnk], .eq rfl, ?_⟩⟩
  refine ⟨9, rfl, by decide, by decide +kernel, fun way w0 w1 => ⟨[.jar, .d (.str t), .d (.list (os.map .str)), .own (rows.map .str), .d (.int a), .d (.int b), .d (.int way), .jnk, .jnk, .jnk], .eq rfl, ?_⟩⟩
  refine ⟨by omega, (t.length : Int) + 1, rfl, by omega, Int.lt_of_le_of_lt (show _ ≤ (1000000 : Int) by omega) (by decide +kernel), fun sp p0 p1 => ⟨[.jar, .d (.str t), .d (.list (os.map .str)), .own (rows.map .str), .d (.int a), .d (.int b), .d (.int way), .d (.int sp), .jnk, .jnk], .eq rfl, ?_⟩⟩
  obtain ⟨an, rfl⟩ := Int.eq_ofNat_of_zero_le a0
  obtain ⟨bn, rfl⟩ := Int.eq_ofNat_of_zero_le b0
  have al : an < rows.length := by omega
  have aR := S3.mem (List.getElem_mem al)
  have hat : atI (rows.map PyData.str) (an : Int) = some (.str rows[an]) := at_getD (by omega) (by rw [Int.toNat_natCast, List.getElem?_map, List.getElem?_eq_getElem al]; rfl)
  refine vseq (fun env k => k = n ∧ ∃ c : Nat, c < 128 ∧ env = [.jar, .d (.str t), .d (.list (os.map .str)), .own (rows.map .str), .d (.int an), .d (.int bn), .d (.int way), .d (.int sp), .d (.str ⟨#[c]⟩), .jnk]) (fun M hM => ?_) ?_
  · refine ⟨12, rfl, by decide, by decide +kernel, fun r r0 r1 => ?_⟩
    obtain ⟨c, hc, h1⟩ := sign_at (z := Str.ofString " -0129:>/rap") (by decide) r0 (Int.lt_of_lt_of_le r1 (by decide))
    refine ⟨by rw [hs]; exact Nat.le_of_ble_eq_true rfl, c, hc, rfl, fun c2 h2 => ⟨by rw [hs]; exact Nat.le_of_ble_eq_true rfl, 2, rfl, by decide, by decide +kernel, fun y y0 y1 => ?_⟩⟩
    have : y = 0 ∨ y = 1 := by omega
    rcases this with rfl | rfl
    · exact ⟨_, rfl, hM _ _ ⟨rfl, c, h1, rfl⟩⟩
    · exact ⟨_, rfl, hM _ _ ⟨rfl, c2, h2, rfl⟩⟩
  rintro _ kk ⟨rfl, c, hc, rfl⟩
  have ix : ∀ {xs : List PyData} {k : Nat}, k < xs.length → ixN xs.length (k : Int) = some k := fun {xs k} h => by
    unfold ixN
    rw [if_pos (by omega), if_pos (by omega), Int.toNat_natCast]
  refine ⟨_, .refl, ite_b (fun c1 => ?_) (fun c1 => ⟨_, .refl, ?_⟩)⟩
  · have c1 := of_decide_eq_true c1
    obtain ⟨z, hz, zo⟩ : ∃ z : Str, atI [PyData.str ⟨#[c]⟩, .str "", .str ⟨#[c]⟩] way = some (.str z) ∧ TxM 1 z := by
      have : way = 0 ∨ way = 1 ∨ way = 2 := by omega
      rcases this with rfl | rfl | rfl
      · exact ⟨_, rfl, one_ok hc⟩
      · exact ⟨_, rfl, nil_ok⟩
      · exact ⟨_, rfl, one_ok hc⟩
    have t1 := ht.to (n := sp) ⟨p0, by omega⟩
    have t2 : TxM m (Txt.slice t (some (sp + if decide (0 < way) = true then 1 else 0)) none) := ht.from (by split <;> omega)
    have t3 := t1.cat zo
    have l1 := t1.l
    have l2 := t2.l
    have l3 := zo.l
    have l4 := t3.l
    exact ⟨sp, rfl, rfl, by omega, three_line, _, hz, by omega, _, rfl, rfl, by omega, by omega, q _ ((t3.cat t2).mono (by omega))⟩
  refine fEq_i (ite_b (fun c2 => ?_) (fun c2 => ⟨_, .refl, ?_⟩))
  · obtain ⟨jo, tx⟩ := j3 (S3.out an) (by omega)
    have h1 := (cut_sub (xs := rows.map PyData.str) (lo := none) (hi := some (an : Int))).2
    have h2 := (cut_sub (xs := rows.map PyData.str) (lo := some ((an : Int) + 1)) (hi := none)).2
    refine ⟨by omega, rows.take an ++ rows.drop (an + 1), ?_, jo, q _ tx⟩
    rw [cutD_take, show (some ((an : Int) + 1)) = some ((an + 1 : Nat) : Int) from rfl, cutD_drop, ← List.map_take, ← List.map_drop, ← List.map_append]
  refine fEq_i (ite_b (fun c3 => ?_) (fun c3 => ⟨_, .refl, ?_⟩))
  · obtain ⟨jo, tx⟩ := j3 (S3.put aR bn) (by omega)
    have h1 := (cut_sub (xs := rows.map PyData.str) (lo := none) (hi := some (bn : Int))).2
    have h2 := (cut_sub (xs := rows.map PyData.str) (lo := some (bn : Int)) (hi := none)).2
    refine ⟨_, hat, by rw [hs]; exact Nat.le_of_ble_eq_true rfl, by show _ + 1 ≤ _; omega, by rw [List.length_append]; show _ + 1 + _ ≤ _; omega, rows.take bn ++ [rows[an]] ++ rows.drop bn, ?_, jo, q _ tx⟩
    rw [cutD_take, cutD_drop, ← List.map_take, ← List.map_drop, List.map_append, List.map_append]
    rfl
  refine vseq (fun env k => k = kk ∧ ∃ (rs : List Str) (b : Nat), RsM 3 b rs ∧ rs.length = rows.length ∧ b ≤ m + 1006 ∧ (way ≠ 5 → b ≤ m + 3) ∧ env = [.jar, .d (.str t), .d (.list (os.map .str)), .own (rs.map .str), .d (.int an), .d (.int bn), .d (.int way), .d (.int sp), .d (.str ⟨#[c]⟩), .jnk]) (fun M hM => ?_) ?_
  · refine fEq_i (ite_b (fun c4 => ?_) (fun c4 => hM _ _ ⟨rfl, rows, m + 3, S3, rfl, by omega, fun _ => Nat.le_refl _, rfl⟩))
    have c4 := of_decide_eq_true c4
    have om : (os.map PyData.str).length = os.length := List.length_map _
    refine ⟨((os.map PyData.str).length : Int), rfl, by omega, Int.lt_of_le_of_lt (show _ ≤ (1000000 : Int) by omega) (by decide +kernel), fun r r0 r1 => ?_⟩
    have rl : r.toNat < os.length := by omega
    refine ⟨.str os[r.toNat], at_getD r0 (by rw [List.getElem?_map, List.getElem?_eq_getElem rl]; rfl), an, ix (by omega), hM _ _ ⟨rfl, rows.set an os[r.toNat], m + 3 + 1000 + 3, S3.set (ho _ (List.getElem_mem rl)) an, List.length_set, by omega, fun h => absurd c4 h, ?_⟩⟩
    rw [List.map_set]
    rfl
  rintro _ kk ⟨rfl, rs, b, SR, rsl, hb1, hb2, rfl⟩
  refine ⟨_, .refl, ?_⟩
  have rm : (rs.map PyData.str).length = rs.length := List.length_map _
  refine vseq (fun env k => k = kk ∧ ∃ (rs : List Str) (x9 : Vl), RsM 3 (2 * m + 1010) rs ∧ env = [.jar, .d (.str t), .d (.list (os.map .str)), .own (rs.map .str), .d (.int an), .d (.int bn), .d (.int way), .d (.int sp), .d (.str ⟨#[c]⟩), x9]) (fun M hM => ?_) ?_
  · refine ite_b (fun c5 => ?_) (fun c5 => hM _ _ ⟨rfl, rs, _, ⟨by have := SR.l; omega, SR.a⟩, rfl⟩)
    have c5 := of_decide_eq_true c5
    have b3 := hb2 (by omega)
    have al' : an < rs.length := by omega
    have hat' : atI (rs.map PyData.str) (an : Int) = some (.str rs[an]) := at_getD (by omega) (by rw [Int.toNat_natCast, List.getElem?_map, List.getElem?_eq_getElem al']; rfl)
    have aR' := SR.mem (List.getElem_mem al')
    have W1 : RsM 1 (b - 3 + 1) (Txt.split rs[an] " ") := split_M (sep := " ") aR'
    have wl1 : 1 ≤ (Txt.split rs[an] " ").length := by
      obtain ⟨w, ws, e⟩ := split_some (row := rs[an]) (sep := " ")
      rw [e, List.length_cons]; omega
    have wll := wt_len 1 (by decide) (Txt.split rs[an] " ")
    have wlm := W1.l
    have := aR'.l
    refine ⟨_, hat', _, rfl, rfl, by omega, by omega, ?_⟩
    generalize Txt.split rs[an] " " = W at W1 wl1 wll wlm
    have Wm : (W.map PyData.str).length = W.length := List.length_map _
    refine ⟨[.jar, .d (.str t), .d (.list (os.map .str)), .own (rs.map .str), .d (.int an), .d (.int bn), .d (.int way), .d (.int sp), .d (.str ⟨#[c]⟩), .own (W.map .str)], .eq rfl, ?_⟩
    refine ⟨by rw [hs]; exact Nat.le_of_ble_eq_true rfl, 9, rfl, by decide, by decide +kernel, fun y y0 y1 => ?_⟩
    obtain ⟨x, hx, xo⟩ : ∃ x : Str, atI (([("0" : Str), "-1", "99", "100", "", "->", "rooms", "7", "01"]).map PyData.str) y = some (.str x) ∧ TxM 5 x := by
      have yl : y.toNat < ([("0" : Str), "-1", "99", "100", "", "->", "rooms", "7", "01"]).length := by show y.toNat < 9; omega
      exact ⟨_, at_getD y0 (by rw [List.getElem?_map, List.getElem?_eq_getElem yl]; rfl), one_w _ (List.getElem_mem yl)⟩
    refine ⟨_, hx, ((W.map PyData.str).length : Int), rfl, by omega, Int.lt_of_le_of_lt (show _ ≤ (1000000 : Int) by omega) (by decide +kernel), fun i i0 i1 => ?_⟩
    obtain ⟨j, rfl⟩ := Int.eq_ofNat_of_zero_le i0
    have W2 := W1.set xo j
    obtain ⟨jo, tx⟩ := RsM.join (sep := " ") W2 (by decide) (by decide) (by omega)
    refine ⟨j, ix (by omega), ⟨[.jar, .d (.str t), .d (.list (os.map .str)), .own (rs.map .str), .d (.int an), .d (.int bn), .d (.int way), .d (.int sp), .d (.str ⟨#[c]⟩), .own ((W.set j x).map .str)], .eq (by rw [List.map_set]; rfl), ?_⟩⟩
    refine ⟨W.set j x, rfl, jo, an, ix (by omega), hM _ _ ⟨rfl, rs.set an (Txt.join " " (W.set j x)), .own ((W.set j x).map .str), ?_, ?_⟩⟩
    · have s2 := SR.set tx an
      have := s2.l
      exact ⟨by omega, s2.a⟩
    · simp only [List.map_set]
      rfl
  rintro _ kk ⟨rfl, rs, x9, SR, rfl⟩
  obtain ⟨jo, tx⟩ := j3 SR (Nat.le_refl _)
  exact ⟨_, .refl, rs, rfl, jo, q _ tx⟩

noncomputable def bndT : Nat → Nat
  | 0 => 4000
  | n + 1 => 2 * bndT n + 1010
theorem bnd_le : ∀ {i : Nat}, i ≤ 4 → bndT i ≤ 200000
  | 0, _ => by decide
  | 1, _ => by decide
  | 2, _ => by decide
  | 3, _ => by decide
  | 4, _ => by decide
theorem book_TxM {R U : Int} {ws : List Way} (ok : BookOk R U ws) : TxM 4000 (Txt.join " / " (bookRows R U ws)) ∧ (∀ z ∈ bookRows R U ws, TxM 1000 z) ∧ (1 ≤ (bookRows R U ws).length ∧ (bookRows R U ws).length ≤ 100) := by
  have h2 := bookRows_len ok
  refine ⟨⟨book_len ok, (text_ok (by omega) fun z hz => row_pl ok hz).2.a⟩, fun z hz => ⟨?_, (row_pl ok hz).2.1⟩, ?_, by omega⟩
  · have := (rows_ok ok hz).1; omega
  · unfold bookRows; rw [List.length_append]; show 1 ≤ 2 + _; omega
theorem sc_law : FnScope ["script", "jar", "text", "others", "turn", "due", "found", "kinds", "e"] ["script"] (defScope s_law) := ⟨rfl, rfl, rfl, by decide +kernel, rfl, by decide +kernel, by decide +kernel⟩
theorem ok_law {f : Addr} {fd : FuncData} (T : Txt mg) (Z : ErOk K mg z) (RW : RowC K mg "NoRow" "row" z.row) (F : Fun K "law" "law" s_law f fd) (c__law_jar : Cal P w K mg base "_law_jar" 2 ["script"] (spJar K)) (c__law_pick : Cal P w K mg base "_law_pick" 2 ["jar", "many"] (liftV gsPick)) (c__law_book : Cal P w K mg base "_law_book" 4 ["jar", "most_rooms", "most_ways"] (liftV gsBook)) (c__law_text : Cal P w K mg base "_law_text" 1 ["book"] (liftV gsLawText)) (c__law_read : Cal P w K mg base "_law_read" 3 ["text"] (liftV gsLawRead)) (c_read_book : CalF P w K mg base "read_book" 6 ["text"] (liftF z.row gsReadBookA)) (c__law_kinds : CalH P w K mg base "_law_kinds" 1 ["e"] (spKindsF z)) (c__law_word : Cal P w K mg base "_law_word" 1 ["flags"] (liftV gsWordF)) (c__law_alike : Cal P w K mg base "_law_alike" 9 ["found", "due"] (liftV (gsAlike 7))) (c__law_bent : Cal P w K mg base "_law_bent" 4 ["jar", "text", "others"] (liftV gsBentE)) : FnOk P w K mg base CX0 13 f fd ["script"] (spLaw K) := by
  refine F.ok sc_law (fun vs H Q E h => ?_) (fun cdv A outer s H vs Q E hr h => ?_)
  · obtain ⟨a, ns, rfl, _⟩ := h
    rfl
  refine ⟨_, (@pss_cons _ _ _ _ _ (ps_set (i := 1) sc_law.nd rfl (Or.inl rfl) (pe_c c__law_jar (hr.mono (by decide)) rfl (pa_name (pv 0) pa_nil)))
      (@pss_cons _ _ _ _ _ (ps_set (i := 2) sc_law.nd rfl (Or.inl rfl) (pe_bm PySem.F.plainAttrs_str PySem.F.slot_str_join PySem.F.type_str_join mt_join pe_str (pa_call (pe_c c__law_text (hr.mono (by decide)) rfl (pa_call (pe_c c__law_book (hr.mono (by decide)) rfl (pa_name (pv 1) (pa_const pe_int (pa_sub (pe_ix ix_list (@PEs.out _ _ _ (pes_lst (pas_const pes_int (pas_const pes_int pas_nil)))) (pe_c c__law_pick (hr.mono (by decide)) rfl (pa_name (pv 1) (pa_const pe_int pa_nil))) (fun _ _ => rfl)) pa_nil)))) pa_nil)) pa_nil)))
      (@pss_cons _ _ _ _ _ (ps_set (i := 3) sc_law.nd rfl (Or.inl rfl) (pe_c c__law_text (hr.mono (by decide)) rfl (pa_call (pe_c c__law_book (hr.mono (by decide)) rfl (pa_name (pv 1) (pa_const pe_int (pa_const pe_int pa_nil)))) pa_nil)))
      (@pss_cons _ _ _ _ _ (ps_for PassesOwn.never rfl (pi_range1 rfl T.b_range (pa_const pe_int pa_nil)) (pg_name (i := 4) sc_law.nd rfl (Or.inl rfl) (Or.inl rfl))
      (@pss_cons _ _ _ _ _ (ps_set (i := 5) sc_law.nd rfl (Or.inl rfl) (pe_c c__law_read (hr.mono (by decide)) rfl (pa_name (pv 2) pa_nil)))
      (@pss_cons _ _ _ _ _ (ps_set (i := 6) sc_law.nd rfl (Or.inl rfl) pe_non)
      (@pss_cons _ _ _ _ _ (@ps_setD _ _ 7 _ _ _ _ sc_law.nd rfl (Or.inl rfl) (pes_lst pas_nil) rfl (Or.inl rfl))
      (@pss_cons _ _ _ _ _ (ps_tryF (i := 8) rfl rfl rfl (fun _ => rfl) rfl (fun _ => rfl) sc_law.nd rfl rfl rfl Z.row (psf_set (i := 6) c_read_book (hr.mono (by decide)) rfl (pa_name (pv 2) pa_nil) sc_law.nd rfl (Or.inl rfl))
      (fun ea => (@pss_cons _ _ _ _ _ (ps_set (i := 7) sc_law.nd rfl (Or.inl rfl) (pe_cH c__law_kinds ((hr.mono (by decide)).h.mark _) rfl (pa_name (pv 8) pa_nil)))
      (@pss_one _ _ _ (ps_set (i := 6) sc_law.nd rfl (Or.inl rfl) (pe_xfld (K' := K) rfl (pv 8)))))))
      (@pss_cons _ _ _ _ _ (ps_if (PW.pt (pw_or (pt_cmpR op_ne (pe_callB call_isD rfl T.b_isinstance boot_isinstance (pa_name (pv 5) (pa_name (pe_bltn rfl T.b_int boot_int (v := .ty "int") rfl) pa_nil))) (pe_cmpR (op_neD hr.units) (pv 7) (@PEs.out _ _ _ (pes_lst pas_nil)) (nomark _)) (nomark _)) (pw_or1 (pt_not (pt_val (pe_c c__law_alike (hr.mono (by decide)) rfl (pa_name (pv 6) (pa_name (pv 5) pa_nil)))))))) (@pss_one _ _ _ (@ps_ret _ _ _ _ pe_bl)) pss_nil)
      (@pss_cons _ _ _ _ _ (ps_if (PW.pt (pw_and (pt_cmpR (op_neD hr.units) (pv 7) (@PEs.out _ _ _ (pes_lst pas_nil)) (nomark _)) (pw_and1 (pt_cmpR op_ne (pe_c c__law_word (hr.mono (by decide)) rfl (pa_name (pv 7) pa_nil)) pe_str (nomark _))))) (@pss_one _ _ _ (@ps_ret _ _ _ _ pe_bl)) pss_nil)
      (@pss_one _ _ _ (ps_set (i := 2) sc_law.nd rfl (Or.inl rfl) (pe_c c__law_bent (hr.mono (by decide)) rfl (pa_name (pv 1) (pa_name (pv 2) (pa_name (pv 3) pa_nil)))))))))))))
      (@pss_one _ _ _ (@ps_ret _ _ _ _ pe_bl)))))), law_start (by decide) h ?_⟩
  have hs : sizeLine = 16777216 := sizeLine_eq
  show gSeq _ _ endsL [.jnk, .jar, .jnk, .jnk, .jnk, .jnk, .jnk, .jnk, .jnk] 0
  refine ⟨two_line, 2, rfl, by decide, by decide +kernel, fun t t0 t1 => ?_⟩
  obtain ⟨mw, hat, w0, w1⟩ : ∃ mw : Int, atI [PyData.int 4, .int 30] t = some (.int mw) ∧ 0 ≤ mw ∧ mw ≤ 30 := by
    have : t = 0 ∨ t = 1 := by omega
    rcases this with rfl | rfl <;> exact ⟨_, rfl, by decide, by decide⟩
  refine ⟨_, hat, 12, mw, rfl, ⟨by decide, by decide⟩, ⟨w0, by omega⟩, fun R U ws ok _ => ?_⟩
  obtain ⟨tx0, _⟩ := book_TxM ok
  refine ⟨R, U, ws, rfl, ok, bookRows R U ws, rfl, book_join ok, ?_⟩
  generalize Txt.join " / " (bookRows R U ws) = t0 at tx0 ⊢
  clear hat w0 w1
  refine ⟨[.jnk, .jar, .d (.str t0), .jnk, .jnk, .jnk, .jnk, .jnk, .jnk], .eq rfl, ?_⟩
  refine ⟨12, 6, rfl, ⟨by decide, by decide⟩, ⟨by decide, by decide⟩, fun R2 U2 ws2 ok2 _ => ?_⟩
  obtain ⟨_, ho, ol⟩ := book_TxM ok2
  refine ⟨R2, U2, ws2, rfl, ok2, ?_⟩
  generalize bookRows R2 U2 ws2 = os at ho ol ⊢
  refine ⟨[.jnk, .jar, .d (.str t0), .d (.list (os.map .str)), .jnk, .jnk, .jnk, .jnk, .jnk], .eq rfl, ?_⟩
  refine ⟨5, rfl, ⟨by decide, by decide⟩, ?_⟩
  refine ⟨fun i env n => ∃ (t : Str) (a b c d e : Vl), env = [.jnk, .jar, .d (.str t), .d (.list (os.map .str)), a, b, c, d, e] ∧ TxM (bndT i) t, ⟨t0, _, _, _, _, _, rfl, tx0⟩, ?_, fun env n ⟨_, _, _, _, _, _, he, _⟩ => by subst he; exact ⟨_, .refl, rfl⟩⟩
  rintro i x env n hx ⟨t, xa, xb, xc, xd, xe, rfl, ht⟩
  have i4 : i ≤ 4 := by
    have := (List.getElem?_eq_some_iff.mp hx).1
    rw [rngD_len] at this
    have h5 : (5 : Int).toNat = 5 := rfl
    omega
  have b4 := bnd_le i4
  have tok : TxOk t := ht.ok (by omega)
  have m8 : z.row ∈ z.all := by simp [Er.all]
  generalize hrd : readR (Txt.split t " / ") = rd
  have lvd : noD (readD rd) = true ∧ noDict (readD rd) = true ∧ lvD (readD rd) ≤ 7 := by
    rcases rd with r | ⟨R, U, ws⟩
    · exact ⟨rfl, rfl, by simp [readD, lvD]⟩
    · exact ⟨rfl, (book_lv R U ws).1, (book_lv R U ws).2⟩

  refine ⟨t, rfl, tok, ?_⟩
  rw [hrd]
  refine ⟨[.jnk, .jar, .d (.str t), .d (.list (os.map .str)), .d x, .d (readD rd), xc, xd, xe], .eq rfl, ⟨[.jnk, .jar, .d (.str t), .d (.list (os.map .str)), .d x, .d (readD rd), .d .none, xd, xe], .eq rfl, Nat.zero_le _, ⟨[.jnk, .jar, .d (.str t), .d (.list (os.map .str)), .d x, .d (readD rd), .d .none, .own [], xe], .eq rfl, ?_⟩⟩⟩
  refine ⟨rfl, Z.xs _ m8, Z.ex _ m8, RW.ef0, t, rfl, tok, ?_⟩
  rw [hrd]
  rcases rd with r | ⟨R, U, ws⟩
  · refine ⟨[.jnk, .jar, .d (.str t), .d (.list (os.map .str)), .d x, .d (.int r), .d (.int r), .own (rowFl.map .bool), .jnk], .eq rfl, ?_⟩
    refine ⟨rfl, Nat.zero_le _, ⟨rfl, rfl, by decide⟩, ?_⟩
    refine fNe_b rfl (iteF ?_)
    show gsAlike 7 [.d (.int r), .d (.int r)] n _
    refine alike_self rfl (by simp [lvD]) (iteF ⟨_, .refl, ?_⟩)
    refine ⟨Nat.zero_le _, ⟨rfl, rfl, by decide⟩, ite_t rfl ⟨rfl, fNe_s (iteF ⟨_, .refl, ?_⟩)⟩⟩
    exact ⟨bndT i, b4, t, os, rfl, ht, ho, ol, fun t' ht' => ⟨t', _, _, _, _, _, rfl, ht'⟩⟩
  · refine ⟨[.jnk, .jar, .d (.str t), .d (.list (os.map .str)), .d x, .d (bookPD R U ws), .d (bookPD R U ws), .own [], xe], .eq rfl, ?_⟩
    refine ⟨rfl, Nat.zero_le _, ⟨rfl, rfl, by decide⟩, ?_⟩
    refine fNe_b rfl (iteF ?_)
    show gsAlike 7 [.d (bookPD R U ws), .d (bookPD R U ws)] n _
    refine alike_self lvd.2.1 lvd.2.2 (iteF ⟨_, .refl, ?_⟩)
    refine ⟨Nat.zero_le _, ⟨rfl, rfl, by decide⟩, ite_f rfl (iteF ⟨_, .refl, ?_⟩)⟩
    exact ⟨bndT i, b4, t, os, rfl, ht, ho, ol, fun t' ht' => ⟨t', _, _, _, _, _, rfl, ht'⟩⟩

end
theorem row_txt : L2.RowTxt s_NoRow__init "row" := ⟨_, _, _, _, rfl, ⟨rfl, rfl, rfl, by decide +kernel, rfl, by decide +kernel, by decide +kernel⟩, rfl, rfl⟩
theorem all_mk {l : PySem.W.OpenLaw} {w : World} {K : PySem.W.Frag} {h : Heap} {mg : Str → Option Value} {fa f4 : Addr} (X : K.In h) (G : h.Ns mainGlobals mg) (hfa : mg "law" = some (.ref fa)) (T : Txt mg) {z : L2.Er} (Z : L2.ErOk K mg z) {D0 : Addr} (R0 : L2.RowC K mg "NoRow" "row" D0)
     (D_law_mix : Def K mg "_law_mix" s_law_mix ["one"]) (D_law_jar : Def K mg "_law_jar" s_law_jar ["script"]) (D_law_pick : Def K mg "_law_pick" s_law_pick ["jar", "many"]) (D_law_gain : Def K mg "_law_gain" s_law_gain ["jar"]) (D_law_book : Def K mg "_law_book" s_law_book ["jar", "most_rooms", "most_ways"]) (D_is_whole : Def K mg "is_whole" s_is_whole ["thing"]) (D_is_between : Def K mg "is_between" s_is_between ["thing", "least", "most"]) (D_is_tuple_of : Def K mg "is_tuple_of" s_is_tuple_of ["thing", "many"]) (D_are_gains : Def K mg "are_gains" s_are_gains ["thing", "purses"]) (D_is_way : Def K mg "is_way" s_is_way ["thing", "rooms", "purses"]) (D_is_number : Def K mg "is_number" s_is_number ["text"]) (D_read_numbers : Def K mg "read_numbers" s_read_numbers ["words"]) (D_read_many : Def K mg "read_many" s_read_many ["rows", "at", "word", "most"]) (D_read_way : Def K mg "read_way" s_read_way ["row"]) (D_read_book : Def K mg "read_book" s_read_book ["text"]) (D_law_alike : Def K mg "_law_alike" s_law_alike ["found", "due"]) (D_law_text : Def K mg "_law_text" s_law_text ["book"]) (D_law_kinds : Def K mg "_law_kinds" s_law_kinds ["e"]) (D_law_word : Def K mg "_law_word" s_law_word ["flags"]) (D_law_number : Def K mg "_law_number" s_law_number ["word", "low", "high"]) (D_law_row_way : Def K mg "_law_row_way" s_law_row_way ["row", "rooms", "purses"]) (D_law_read : Def K mg "_law_read" s_law_read ["text"]) (D_law_any_sign : Def K mg "_law_any_sign" s_law_any_sign ["jar"]) (D_law_bent : Def K mg "_law_bent" s_law_bent ["jar", "text", "others"])
    {od4 an4 : Option Addr} {sl4 : Array (Option Value)} {oc4 kV4 dc4 pm4 cd4 ct4 : Value} (a4 : PySem.W.nsIn K mainGlobals "law" = some (some (.ref f4)))
    (l4 : K.lookup f4 = some ⟨oc4, od4, .func (PySem.W.fnOf "law" "law" (defArgs s_law) (defBody s_law) (defScope s_law) .none kV4 dc4 pm4 an4 cd4 ct4), sl4⟩) (c4 : PySem.W.codeIn K cd4 "law" = true) (k4 : PySem.W.keepIn K (.ref f4) = true) :
    ∃ fd : FuncData, (∀ (s : Shared) (v : Value), BindsTo s fd ⟨[v], []⟩ [("script", v)]) ∧ ∀ base : Heap, K.In base → base.Ns mainGlobals mg → FnOk l.prog w K mg base CX0 13 fa fd ["script"] (spLaw K) := by
  have e := hfa.symm.trans (PySem.W.mg_of X G a4)
  cases e
  have F4 := fun_mk (st := s_law) l4 c4 k4
  refine ⟨PySem.W.fnOf "law" "law" (defArgs s_law) (defBody s_law) (defScope s_law) .none kV4 dc4 pm4 an4 cd4 ct4, fun s v => .of_eq rfl, fun base _ _ => ?_⟩
  have RW := R0.cast Z.row
  have c_law_mix : Cal l.prog w K mg base "_law_mix" 1 ["one"] spMix := ok_law_mix T D_law_mix 
  have c_law_jar : Cal l.prog w K mg base "_law_jar" 2 ["script"] (spJar K) := ok_law_jar T D_law_jar c_law_mix
  have h_law_pick : Cal l.prog w K mg base "_law_pick" 2 ["jar", "many"] spPickE := ok_law_pickE T D_law_pick c_law_mix
  have c_law_pick : Cal l.prog w K mg base "_law_pick" 2 ["jar", "many"] (liftV gsPick) := h_law_pick.imp imp_pick
  have c_law_gain : Cal l.prog w K mg base "_law_gain" 3 ["jar"] (liftV gsGain) := ok_law_gain T D_law_gain c_law_pick
  have c_law_book : Cal l.prog w K mg base "_law_book" 4 ["jar", "most_rooms", "most_ways"] (liftV gsBook) := ok_law_book T D_law_book c_law_pick c_law_gain
  have c_is_whole : Cal l.prog w K mg base "is_whole" 1 ["thing"] (liftV gsWholeB) := ok_is_whole T D_is_whole 
  have c_is_between : Cal l.prog w K mg base "is_between" 2 ["thing", "least", "most"] (liftV gsBetwB) := ok_is_between T D_is_between c_is_whole
  have c_is_tuple_of : Cal l.prog w K mg base "is_tuple_of" 1 ["thing", "many"] (liftV gsTupB) := ok_is_tuple_of T D_is_tuple_of 
  have c_are_gains : Cal l.prog w K mg base "are_gains" 3 ["thing", "purses"] (liftV gsGainsB) := ok_are_gains T D_are_gains c_is_tuple_of c_is_between
  have c_is_way : Cal l.prog w K mg base "is_way" 4 ["thing", "rooms", "purses"] (liftV gsIsWayO) := ok_is_way T D_is_way c_is_tuple_of c_is_between c_are_gains
  have c_is_number : Cal l.prog w K mg base "is_number" 3 ["text"] (liftV gsIsNumA) := ok_is_number T D_is_number c_is_between
  have c_read_numbers : Cal l.prog w K mg base "read_numbers" 4 ["words"] (liftV gsReadNumsA) := ok_read_numbers T D_read_numbers c_is_number
  have c_read_many : CalF l.prog w K mg base "read_many" 5 ["rows", "at", "word", "most"] (liftF z.row gsReadManyA) := ok_read_many T RW D_read_many c_read_numbers c_is_between
  have c_read_way : Cal l.prog w K mg base "read_way" 5 ["row"] (liftV gsReadWayA) := ok_read_way T D_read_way c_read_numbers
  have c_read_book : CalF l.prog w K mg base "read_book" 6 ["text"] (liftF z.row gsReadBookA) := ok_read_book T RW D_read_book c_read_many c_read_way c_is_way
  have h_law_alike : Cal l.prog w K mg base "_law_alike" 9 ["found", "due"] (spAlike 8) := ok_law_alike T D_law_alike 8
  have c_law_alike : Cal l.prog w K mg base "_law_alike" 9 ["found", "due"] (liftV (gsAlike 7)) := h_law_alike.imp imp_alike
  have c_law_text : Cal l.prog w K mg base "_law_text" 1 ["book"] (liftV gsLawText) := ok_law_text T D_law_text 
  have c_law_kinds : CalH l.prog w K mg base "_law_kinds" 1 ["e"] (spKindsF z) := ok_law_kinds T Z D_law_kinds 
  have h_law_word : Cal l.prog w K mg base "_law_word" 1 ["flags"] spWordF := ok_law_word T D_law_word 
  have c_law_word : Cal l.prog w K mg base "_law_word" 1 ["flags"] (liftV gsWordF) := h_law_word.imp imp_wordF
  have c_law_number : Cal l.prog w K mg base "_law_number" 1 ["word", "low", "high"] (liftV gsNumL) := ok_law_number T D_law_number 
  have c_law_row_way : Cal l.prog w K mg base "_law_row_way" 2 ["row", "rooms", "purses"] (liftV gsRowWay) := ok_law_row_way T D_law_row_way c_law_number
  have c_law_read : Cal l.prog w K mg base "_law_read" 3 ["text"] (liftV gsLawRead) := ok_law_read T D_law_read c_law_number c_law_row_way
  have c_law_any_sign : Cal l.prog w K mg base "_law_any_sign" 3 ["jar"] (liftV gsAnySign) := ok_law_any_sign T D_law_any_sign c_law_pick
  have c_law_bent : Cal l.prog w K mg base "_law_bent" 4 ["jar", "text", "others"] (liftV gsBentE) := ok_law_bent T D_law_bent c_law_pick c_law_any_sign
  exact ok_law T Z RW F4 c_law_jar c_law_pick c_law_book c_law_text c_law_read c_read_book c_law_kinds c_law_word c_law_alike c_law_bent
theorem walk {l : PySem.W.OpenLaw} {q : Program} {loose : List Str} {XP : (Str → Option Value) → Heap → Prop} {YP : World → Heap → Prop} {d : DefRec} {K : Params → PySem.W.Frag} (hn : l.most = some 63) (hdf : d.params.defaults = [])
    (hY : ∀ (w : World) (h : Heap), YP w h → (K w.params).In h)
    (F : ∀ (w : World) (mg : Str → Option Value) (fa : Addr) (h : Heap), (K w.params).In h → h.Ns mainGlobals mg → mg d.name = some (.ref fa) →
      ∃ fd : FuncData, (∀ (s : Shared) (u : Value), BindsTo s fd ⟨[u], []⟩ [("script", u)]) ∧ ∀ base : Heap, (K w.params).In base → base.Ns mainGlobals mg → FnOk l.prog w (K w.params) mg base CX0 13 fa fd ["script"] (spLaw (K w.params))) :
    PySem.W.WalkO q loose XP YP l.row.toRowW d [] (fun f vs => PySem.call f vs) :=
  L2.walk_of (n := 63) (k := 13) (x := "script") (CX := fun _ => CX0) (sp := fun w => spLaw (K w.params)) hn (by decide) hdf ⟨rfl, by decide, by decide, rfl⟩ hY F (fun _ _ a ns hl _ hS => ⟨a, ns, rfl, hS, hl, fun _ => rfl⟩) fun _ _ _ _ _ z => z
end My
theorem PySem.W.Fast.tw2293937425550705732 : True := trivial
theorem PySem.W.Fast.tw1377823196252080658 : True := trivial
theorem PySem.W.Fast.tw3992757732688255916 : True := trivial
theorem PySem.W.Fast.tw14470623846673277692 : True := trivial
theorem PySem.W.Fast.tw7098133681289930166 : True := trivial
theorem PySem.W.Fast.tw13561902808993904173 : True := trivial
theorem PySem.W.Fast.tw2102115889520867270 : True := trivial
theorem PySem.W.Fast.tw16793192282692744162 : True := trivial
theorem PySem.W.Fast.tw9312376066611617240 : True := trivial
theorem PySem.W.Fast.tw2292646608168734954 : True := trivial
theorem PySem.W.Fast.tw16882689140065802687 : True := trivial
theorem PySem.W.Fast.tw11753111601212626198 : True := trivial
theorem PySem.W.Fast.tw3636519186325404228 : True := trivial
theorem PySem.W.Fast.tw10254113022451395551 : True := trivial
theorem PySem.W.Fast.tw7572518051215752594 : True := trivial
theorem PySem.W.Fast.tw1270145892655421881 : True := trivial
theorem PySem.W.Fast.tw10061279199044108267 : True := trivial
theorem PySem.W.Fast.tw11205762241981732650 : True := trivial
theorem PySem.W.Fast.tw17292472308488020495 : True := trivial
theorem PySem.W.Fast.tw781732601986331251 : True := trivial
theorem PySem.W.Fast.tw8362744267180960609 : True := trivial
theorem PySem.W.Fast.tw13153915614402197584 : True := trivial
theorem PySem.W.Fast.tw574625664365827357 : True := trivial
theorem PySem.W.Fast.tw7714068170158506659 : True := trivial
theorem PySem.W.Fast.tw9416166645631565544 : True := trivial
theorem PySem.W.Fast.tw16936769506459139632 : True := trivial
theorem PySem.W.Fast.tw14347444326503067554 : True := trivial
theorem PySem.W.Fast.tw18081997108812168538 : True := trivial
theorem PySem.W.Fast.tw13316596237944587516 : True := trivial
theorem PySem.W.Fast.tw12620469883676649500 : True := trivial
open PySem PySem.W PyProof.Rows
set_option maxRecDepth 100000 in
set_option maxHeartbeats 0 in
theorem PySem.Challenge.cw_fallsum_k82_whole_texts_judged_holds : PySem.Challenge.rw_fallsum_k82_whole_texts_judged.Holds := by
  w_on; o_law; k_head; (case hw => w_witness2)
  k_fill
  refine My.walk (l := PySem.Challenge.rw_fallsum_k82_whole_texts_judged) rfl rfl (fun w h Y => PySem.W.kIn_of Y) ?F
  case F =>
    intro w mg fa h KX G hmg
    refine' My.all_mk KX G hmg ⟨PySem.W.mg_none_of KX G ?z_isinstance, PySem.W.mg_none_of KX G ?z_int, PySem.W.mg_none_of KX G ?z_bool, PySem.W.mg_none_of KX G ?z_str, PySem.W.mg_none_of KX G ?z_tuple, PySem.W.mg_none_of KX G ?z_len, PySem.W.mg_none_of KX G ?z_all, PySem.W.mg_none_of KX G ?z_sum, PySem.W.mg_none_of KX G ?z_range, PySem.W.mg_none_of KX G ?z_list, PySem.W.mg_none_of KX G ?z_zip, PySem.W.mg_none_of KX G ?z_enumerate, PySem.W.mg_none_of KX G ?z_max, PySem.W.mg_none_of KX G ?z_repr, PySem.W.mg_none_of KX G ?z_ValueError, L2.gint_mk KX G ?g_MOST_ROOMS, L2.gint_mk KX G ?g_MOST_PURSES, L2.gint_mk KX G ?g_MOST_WAYS, L2.gint_mk KX G ?g_MOST_GAIN, L2.gstr_mk KX G ?g_BETWEEN_ROWS, L2.gstr_mk KX G ?g_FIGURES, L2.gint_mk KX G ?g_MOST_FIGURES⟩ (L2.erOk_mk KX G ?er) (D0 := ?D0) (L2.rowC_mk (st := My.s_NoRow__init) (qual := "NoRow.__init__") KX G ?raC ?ra ?ri ?rl ?rc ?rk ?rn ?rx (fun _ _ _ _ _ _ us hl => match us, hl with | [_, _], _ => rfl) My.row_txt)
      (L2.def_mk KX G ?a_law_mix ?l_law_mix ?c_law_mix ?k_law_mix (fun _ _ _ _ _ _ us hl => match us, hl with | [_], _ => rfl))
      (L2.def_mk KX G ?a_law_jar ?l_law_jar ?c_law_jar ?k_law_jar (fun _ _ _ _ _ _ us hl => match us, hl with | [_], _ => rfl))
      (L2.def_mk KX G ?a_law_pick ?l_law_pick ?c_law_pick ?k_law_pick (fun _ _ _ _ _ _ us hl => match us, hl with | [_, _], _ => rfl))
      (L2.def_mk KX G ?a_law_gain ?l_law_gain ?c_law_gain ?k_law_gain (fun _ _ _ _ _ _ us hl => match us, hl with | [_], _ => rfl))
      (L2.def_mk KX G ?a_law_book ?l_law_book ?c_law_book ?k_law_book (fun _ _ _ _ _ _ us hl => match us, hl with | [_, _, _], _ => rfl))
      (L2.def_mk KX G ?a_is_whole ?l_is_whole ?c_is_whole ?k_is_whole (fun _ _ _ _ _ _ us hl => match us, hl with | [_], _ => rfl))
      (L2.def_mk KX G ?a_is_between ?l_is_between ?c_is_between ?k_is_between (fun _ _ _ _ _ _ us hl => match us, hl with | [_, _, _], _ => rfl))
      (L2.def_mk KX G ?a_is_tuple_of ?l_is_tuple_of ?c_is_tuple_of ?k_is_tuple_of (fun _ _ _ _ _ _ us hl => match us, hl with | [_, _], _ => rfl))
      (L2.def_mk KX G ?a_are_gains ?l_are_gains ?c_are_gains ?k_are_gains (fun _ _ _ _ _ _ us hl => match us, hl with | [_, _], _ => rfl))
      (L2.def_mk KX G ?a_is_way ?l_is_way ?c_is_way ?k_is_way (fun _ _ _ _ _ _ us hl => match us, hl with | [_, _, _], _ => rfl))
      (L2.def_mk KX G ?a_is_number ?l_is_number ?c_is_number ?k_is_number (fun _ _ _ _ _ _ us hl => match us, hl with | [_], _ => rfl))
      (L2.def_mk KX G ?a_read_numbers ?l_read_numbers ?c_read_numbers ?k_read_numbers (fun _ _ _ _ _ _ us hl => match us, hl with | [_], _ => rfl))
      (L2.def_mk KX G ?a_read_many ?l_read_many ?c_read_many ?k_read_many (fun _ _ _ _ _ _ us hl => match us, hl with | [_, _, _, _], _ => rfl))
      (L2.def_mk KX G ?a_read_way ?l_read_way ?c_read_way ?k_read_way (fun _ _ _ _ _ _ us hl => match us, hl with | [_], _ => rfl))
      (L2.def_mk KX G ?a_read_book ?l_read_book ?c_read_book ?k_read_book (fun _ _ _ _ _ _ us hl => match us, hl with | [_], _ => rfl))
      (L2.def_mk KX G ?a_law_alike ?l_law_alike ?c_law_alike ?k_law_alike (fun _ _ _ _ _ _ us hl => match us, hl with | [_, _], _ => rfl))
      (L2.def_mk KX G ?a_law_text ?l_law_text ?c_law_text ?k_law_text (fun _ _ _ _ _ _ us hl => match us, hl with | [_], _ => rfl))
      (L2.def_mk KX G ?a_law_kinds ?l_law_kinds ?c_law_kinds ?k_law_kinds (fun _ _ _ _ _ _ us hl => match us, hl with | [_], _ => rfl))
      (L2.def_mk KX G ?a_law_word ?l_law_word ?c_law_word ?k_law_word (fun _ _ _ _ _ _ us hl => match us, hl with | [_], _ => rfl))
      (L2.def_mk KX G ?a_law_number ?l_law_number ?c_law_number ?k_law_number (fun _ _ _ _ _ _ us hl => match us, hl with | [_, _, _], _ => rfl))
      (L2.def_mk KX G ?a_law_row_way ?l_law_row_way ?c_law_row_way ?k_law_row_way (fun _ _ _ _ _ _ us hl => match us, hl with | [_, _, _], _ => rfl))
      (L2.def_mk KX G ?a_law_read ?l_law_read ?c_law_read ?k_law_read (fun _ _ _ _ _ _ us hl => match us, hl with | [_], _ => rfl))
      (L2.def_mk KX G ?a_law_any_sign ?l_law_any_sign ?c_law_any_sign ?k_law_any_sign (fun _ _ _ _ _ _ us hl => match us, hl with | [_], _ => rfl))
      (L2.def_mk KX G ?a_law_bent ?l_law_bent ?c_law_bent ?k_law_bent (fun _ _ _ _ _ _ us hl => match us, hl with | [_, _, _], _ => rfl))
      ?a4 ?l4 ?c4 ?k4
    (case raC => k_is)
    (case ra => k_is)
    (case rl => k_is)
    (case ri => k_is)
    (case rc => k_is)
    (case rk => k_is)
    (case rn => kernel_rfl)
    (case rx => kernel_rfl)
    (case z_isinstance => k_is)
    (case z_int => k_is)
    (case z_bool => k_is)
    (case z_str => k_is)
    (case z_tuple => k_is)
    (case z_len => k_is)
    (case z_all => k_is)
    (case z_sum => k_is)
    (case z_range => k_is)
    (case z_list => k_is)
    (case z_zip => k_is)
    (case z_enumerate => k_is)
    (case z_max => k_is)
    (case z_repr => k_is)
    (case z_ValueError => k_is)
    (case g_MOST_ROOMS => k_is)
    (case g_MOST_PURSES => k_is)
    (case g_MOST_WAYS => k_is)
    (case g_MOST_GAIN => k_is)
    (case g_BETWEEN_ROWS => k_is)
    (case g_FIGURES => k_is)
    (case g_MOST_FIGURES => k_is)
    (case a_law_mix => k_is)
    (case l_law_mix => k_is)
    (case c_law_mix => k_is)
    (case k_law_mix => k_is)
    (case a_law_jar => k_is)
    (case l_law_jar => k_is)
    (case c_law_jar => k_is)
    (case k_law_jar => k_is)
    (case a_law_pick => k_is)
    (case l_law_pick => k_is)
    (case c_law_pick => k_is)
    (case k_law_pick => k_is)
    (case a_law_gain => k_is)
    (case l_law_gain => k_is)
    (case c_law_gain => k_is)
    (case k_law_gain => k_is)
    (case a_law_book => k_is)
    (case l_law_book => k_is)
    (case c_law_book => k_is)
    (case k_law_book => k_is)
    (case a_is_whole => k_is)
    (case l_is_whole => k_is)
    (case c_is_whole => k_is)
    (case k_is_whole => k_is)
    (case a_is_between => k_is)
    (case l_is_between => k_is)
    (case c_is_between => k_is)
    (case k_is_between => k_is)
    (case a_is_tuple_of => k_is)
    (case l_is_tuple_of => k_is)
    (case c_is_tuple_of => k_is)
    (case k_is_tuple_of => k_is)
    (case a_are_gains => k_is)
    (case l_are_gains => k_is)
    (case c_are_gains => k_is)
    (case k_are_gains => k_is)
    (case a_is_way => k_is)
    (case l_is_way => k_is)
    (case c_is_way => k_is)
    (case k_is_way => k_is)
    (case a_is_number => k_is)
    (case l_is_number => k_is)
    (case c_is_number => k_is)
    (case k_is_number => k_is)
    (case a_read_numbers => k_is)
    (case l_read_numbers => k_is)
    (case c_read_numbers => k_is)
    (case k_read_numbers => k_is)
    (case a_read_many => k_is)
    (case l_read_many => k_is)
    (case c_read_many => k_is)
    (case k_read_many => k_is)
    (case a_read_way => k_is)
    (case l_read_way => k_is)
    (case c_read_way => k_is)
    (case k_read_way => k_is)
    (case a_read_book => k_is)
    (case l_read_book => k_is)
    (case c_read_book => k_is)
    (case k_read_book => k_is)
    (case a_law_alike => k_is)
    (case l_law_alike => k_is)
    (case c_law_alike => k_is)
    (case k_law_alike => k_is)
    (case a_law_text => k_is)
    (case l_law_text => k_is)
    (case c_law_text => k_is)
    (case k_law_text => k_is)
    (case a_law_kinds => k_is)
    (case l_law_kinds => k_is)
    (case c_law_kinds => k_is)
    (case k_law_kinds => k_is)
    (case a_law_word => k_is)
    (case l_law_word => k_is)
    (case c_law_word => k_is)
    (case k_law_word => k_is)
    (case a_law_number => k_is)
    (case l_law_number => k_is)
    (case c_law_number => k_is)
    (case k_law_number => k_is)
    (case a_law_row_way => k_is)
    (case l_law_row_way => k_is)
    (case c_law_row_way => k_is)
    (case k_law_row_way => k_is)
    (case a_law_read => k_is)
    (case l_law_read => k_is)
    (case c_law_read => k_is)
    (case k_law_read => k_is)
    (case a_law_any_sign => k_is)
    (case l_law_any_sign => k_is)
    (case c_law_any_sign => k_is)
    (case k_law_any_sign => k_is)
    (case a_law_bent => k_is)
    (case l_law_bent => k_is)
    (case c_law_bent => k_is)
    (case k_law_bent => k_is)
    (case a4 => k_is)
    (case l4 => k_is)
    (case c4 => k_is)
    (case k4 => k_is)
    (case er => kernel_rfl)
