import PyProof.Rows.All
import Wide.All
import OpenK.AllK
import Wide.FinOn
import Lean
import PyProof.EqAt
import PyProof.EqKinds
import PyProof.TupleCall
import KE.KTryMore
import OpenK.KOwn
import PyProof.Rows.CatchOwn
import PySem.Challenge.RW_fallsum_k23_told_walks_of_rounds
set_option Elab.async false
set_option linter.all false
set_option maxRecDepth 100000
namespace L2
open PySem PySem.Spec PyProof.Rows
noncomputable abbrev Key:=Sum Int Str
noncomputable def keyIs:Key→Value→Bool
 | .inl k,v=>Value.isInt k v
 | .inr x,v=>Value.isStrOf x v
noncomputable def keyH (w:World):Key→Int
 | .inl k=>hashInt k
 | .inr x=>hashStr w x
theorem keyIs_shape:∀ {k:Key}{v:Value},keyIs k v=true→(∃ i t,k=Sum.inl i∧v=Value.int i t)∨(∃ x t,k=Sum.inr x∧v=Value.str x t)
 | .inl i,v,h=>by
  obtain ⟨t,e⟩:=Value.isInt_shape (k:=i) (v:=v) h
  exact .inl ⟨i,t,rfl,e⟩
 | .inr x,v,h=>by
  obtain ⟨t,e⟩:=Value.isStrOf_shape (x:=x) (v:=v) h
  exact .inr ⟨x,t,rfl,e⟩
theorem keyIs_int (i:Int) (t:Tok):keyIs (.inl i) (.int i t)=true:=by simp [keyIs,Value.isInt]
theorem keyIs_str (x:Str) (t:Tok):keyIs (.inr x) (.str x t)=true:=by simp [keyIs,Value.isStrOf]
theorem key_ll (a b:Int):decide ((Sum.inl a:Key)=Sum.inl b)=(a==b):=by
 by_cases e:a=b
 · subst e;simp
 · have h:¬ (Sum.inl a:Key)=Sum.inl b:=fun q=>e (Sum.inl.inj q)
   rw [decide_eq_false h]
   exact (beq_eq_false_iff_ne.mpr e).symm
theorem key_rr (a b:Str):decide ((Sum.inr a:Key)=Sum.inr b)=decide (a=b):=by
 by_cases e:a=b
 · subst e;simp
 · have h:¬ (Sum.inr a:Key)=Sum.inr b:=fun q=>e (Sum.inr.inj q)
   rw [decide_eq_false h,decide_eq_false e]
theorem key_lr (a:Int) (b:Str):decide ((Sum.inl a:Key)=Sum.inr b)=false:=decide_eq_false (fun q=>nomatch q)
theorem key_rl (a:Str) (b:Int):decide ((Sum.inr a:Key)=Sum.inl b)=false:=decide_eq_false (fun q=>nomatch q)
noncomputable def mixKind (prog:Program) (w:World):PySem.KeyKind prog w Key where
 is:=keyIs
 hash:=keyH w
 inj:=fun v a b ha hb=>by
  rcases keyIs_shape ha with ⟨i,t,rfl,rfl⟩ | ⟨x,t,rfl,rfl⟩
  · rcases keyIs_shape hb with ⟨j,u,rfl,e⟩ | ⟨y,u,rfl,e⟩
    · injection e with e1 _;rw [e1]
    · exact nomatch e
  · rcases keyIs_shape hb with ⟨j,u,rfl,e⟩ | ⟨y,u,rfl,e⟩
    · exact nomatch e
    · injection e with e1 _;rw [e1]
 byValue:=fun k v h=>by
  rcases keyIs_shape h with ⟨i,t,rfl,rfl⟩ | ⟨x,t,rfl,rfl⟩<;>rfl
 pyHash:=fun hv h=>by
  rcases keyIs_shape hv with ⟨i,t,rfl,rfl⟩ | ⟨x,t,rfl,rfl⟩
  · exact wpAny_pyHash_int h
  · exact wpAny_pyHash_str h
 eqBool:=fun hu hv h=>by
  rcases keyIs_shape hu with ⟨i,t,rfl,rfl⟩ | ⟨x,t,rfl,rfl⟩
  · rcases keyIs_shape hv with ⟨j,u,rfl,rfl⟩ | ⟨y,u,rfl,rfl⟩
    · rw [key_ll] at h;exact wpAny_eqBool_int h
    · rw [key_lr] at h;exact SeqAt.EqAt.int_str i t y u _ _ _ _ h
  · rcases keyIs_shape hv with ⟨j,u,rfl,rfl⟩ | ⟨y,u,rfl,rfl⟩
    · rw [key_rl] at h;exact SeqAt.EqAt.str_int x t j u _ _ _ _ h
    · rw [key_rr] at h;exact wpAny_eqBool_str h
 «strs»:=fun k x t v h=>by
  rcases keyIs_shape h with ⟨i,u,rfl,e⟩ | ⟨y,u,rfl,e⟩
  · exact nomatch e
  · injection e with e1 _
    subst e1
    cases v<;>rfl
theorem mixKind_int (prog:Program) (w:World) (i:Int) (t:Tok):(mixKind prog w).is (.inl i) (.int i t)=true:=keyIs_int i t
theorem mixKind_str (prog:Program) (w:World) (x:Str) (t:Tok):(mixKind prog w).is (.inr x) (.str x t)=true:=keyIs_str x t
inductive V where
 | non | bl (b:Bool) | int (i:Int) | str (x:Str) | byt (b:Array UInt8) | flt (b:UInt64) | ref (a:Addr) | ty (n:String)
 deriving DecidableEq
noncomputable def RelV:V→Value→Prop
 | .non,u=>u=Value.none
 | .bl b,u=>u=Value.bool b
 | .int i,u=>∃ t,u=Value.int i t
 | .str x,u=>∃ t,u=Value.str x t
 | .byt b,u=>∃ t,u=Value.bytes b t
 | .flt b,u=>∃ t,u=Value.float b t
 | .ref a,u=>u=Value.ref a
 | .ty n,u=>u=Value.type n
noncomputable abbrev Vals:List V→List Value→Prop:=Paired RelV
theorem Vals.length {xs:List V}{us:List Value}(r:Vals xs us):xs.length=us.length:=Paired.length r
theorem Vals.get:∀ {xs:List V}{us:List Value}{i:Nat}{x:V},Vals xs us→xs[i]? = some x→∃ u,us[i]? = some u∧RelV x u
 | _,_,_,_,.nil,e=>by simp at e
 | _,_,0,_,.cons r _,e=>by simp at e;subst e;exact ⟨_,rfl,r⟩
 | _,_,i+1,x,.cons _ t,e=>by
  obtain ⟨u,h1,h2⟩:=Vals.get (i:=i) (x:=x) t (by simpa using e)
  exact ⟨u,by simpa using h1,h2⟩
theorem Vals.set {x:V}{u:Value}(r:RelV x u):∀ {xs:List V}{us:List Value}(i:Nat),Vals xs us→Vals (xs.set i x) (us.set i u)
 | _,_,_,.nil=>.nil
 | _,_,0,.cons _ t=>.cons r t
 | _,_,i+1,.cons q t=>.cons q (Vals.set r i t)
theorem Vals.append:∀ {xs ys:List V}{us ws:List Value},Vals xs us→Vals ys ws→Vals (xs++ys) (us++ws)
 | _,_,_,_,.nil,s=>s
 | _,_,_,_,.cons r t,s=>.cons r (Vals.append t s)
theorem Vals.take:∀ {xs:List V}{us:List Value}(n:Nat),Vals xs us→Vals (xs.take n) (us.take n)
 | _,_,0,_=>.nil
 | _,_,_+1,.nil=>.nil
 | _,_,n+1,.cons r t=>.cons r (Vals.take n t)
theorem Vals.drop:∀ {xs:List V}{us:List Value}(n:Nat),Vals xs us→Vals (xs.drop n) (us.drop n)
 | _,_,0,r=>r
 | _,_,_+1,.nil=>.nil
 | _,_,n+1,.cons _ t=>Vals.drop n t
noncomputable def RelO:Option V→Option Value→Prop
 | some v,some u=>RelV v u
 | none,none=>True
 | _,_=>False
noncomputable def KV {κ:Type}:List (κ×V)→List (κ×Value)→Prop:=Paired fun (p:κ×V) (q:κ×Value)=>p.1=q.1∧RelV p.2 q.2
noncomputable def kV:Key→V
 | .inl i=>.int i
 | .inr x=>.str x
inductive HO where
 /-- a list -/
 | lst (xs:List V)
 /-- a tuple (never changes) -/
 | tup (xs:List V)
 /-- a dict whose keys are ints and texts;one whose keys are tuples of ints and texts (the empty one is both) -/
 | dK (kvs:List (Key×V)) | dT (kvs:List (List Key×V))
 /-- a set of ints: its members,its size -/
 | set (S:Int→Bool) (n:Nat)
 /-- an instance of the class at C,its dict at dx,its attributes -/
 | ins (C dx:Addr) (fs:List (Str×V))
 /-- the dict of the instance at x -/
 | own (x:Addr)
 /-- the dict of an exception -/
 | xd (fs:List (Str×V))
 /-- a bound method,f of x -/
 | met (f x:Addr)
 /-- a range object lo,lo+1,.. below hi -/
 | rng (lo hi:Int)
 /-- a thing that is known to the object (the script;a dict while a loop walks it): read,never written while it is so -/
 | frz (o:Obj) (u:HO)
 /-- a code object's table -/
 | tbl (ps:Array Value)
 /-- any other thing,by what is true of its one object (a def of one's own: SetO a S n:=HO.ext fun h=>..) -/
 | ext (φ:Heap→Prop)
noncomputable abbrev Hp:=Addr→Option HO
noncomputable def upd (H:Hp) (a:Addr) (o:HO):Hp:=fun b=>if b=a then some o else H b
theorem upd_same {H:Hp}{a:Addr}{o:HO}:upd H a o a=some o:=by unfold upd;rw [if_pos rfl]
theorem upd_ne {H:Hp}{a b:Addr}{o:HO}(h:b≠a):upd H a o b=H b:=by unfold upd;rw [if_neg h]
theorem ne_of {H:Hp}{a b:Addr}{o u:HO}(h:H a=some o) (h':H b=some u) (d:o≠u):a≠b:=by
 intro e;subst e;rw [h] at h';exact d (Option.some.inj h')
theorem ne_of_none {H:Hp}{a b:Addr}{o:HO}(h:H a=some o) (h':H b=none):a≠b:=by
 intro e;subst e;rw [h] at h';cases h'
section
variable (P:Program) (w:World)
noncomputable def ObjOk (H:Hp) (h:Heap) (a:Addr):HO→Prop
 | .lst xs=>xs.length≤sizeLine∧∃ (its:List Value) (n:Nat),Vals xs its∧h.get? a=some { cls:=.type "list",data:=.seq its.toArray n }
 | .tup xs=>xs.length≤sizeLine∧∃ its:List Value,Vals xs its∧IsTup h a its.toArray
 | .dK kvs=>kvs.length≤sizeLine∧(a==sysModules)=false∧∃ vs,KV kvs vs∧h.DictOf (mixKind P w) a vs
 | .dT kvs=>kvs.length≤sizeLine∧(a==sysModules)=false∧∃ xs:List (List Key×Addr×Value),
  Paired (fun (p:List Key×V) (q:List Key×Addr×Value)=>p.1=q.1∧H q.2.1=some (.tup (p.1.map kV))∧RelV p.2 q.2.2) kvs xs ∧
  ∃ o es ep,h.get? a=some o∧o.ExactDict∧o.data = .dict es ep∧es.toList=xs.map (entryOfKey (tupleKind (mixKind P w)))∧(xs.map (·.1)).Nodup
 | .set S n=>h.SetOf (intKind P w) a S n
 | .ins C dx fs=>H dx=some (.own a)∧fs.length≤1000∧dx≠a∧h.get? a=some (PySem.W.instObj C dx) ∧
  ∃ mA,h.Ns1 dx mA∧(∀ f,RelO (fs.lookup f) (mA f))∧PySem.Within mA (fs.map (·.1))
 | .own _=>∃ o,h.get? a=some o
 | .xd fs=>∃ mA,h.Ns1 a mA∧∀ f,RelO (fs.lookup f) (mA f)
 | .rng lo hi=>∃ t u v,h.get? a=some { cls:=.type "range",data:=.fields #[.int lo t,.int hi u,.int 1 v] }
 | .frz o u=>h.get? a=some o∧ObjOk H h a u
 | .tbl ps=>h.get? a=some { cls:=.none,data:=.fields ps }
 | .met f x=>h.get? a=some (PySem.W.methodObj (.ref f) (.ref x))
 | .ext φ=>φ h∧(∃ o,h.get? a=some o)∧∀ h1 h2:Heap,φ h1→(∀ o,h1.get? a=some o→h2.get? a=some o)→φ h2
noncomputable def HOk (H:Hp) (h:Heap):Prop:=∀ a o,H a=some o→ObjOk P w H h a o
end
section
variable {P:Program}{w:World}{H H':Hp}{h h':Heap}{a:Addr}{o:HO}
theorem ObjOk.lt (x:ObjOk P w H h a o):a<h.objs.size:=by
 cases o with
 | lst xs=>obtain ⟨_,_,_,_,e⟩:=x;exact Heap.lt_size e
 | tup xs=>obtain ⟨_,_,_,p⟩:=x;exact p.lt
 | dK kvs=>obtain ⟨_,_,_,_,o,_,_,e,_⟩:=x;exact Heap.lt_size e
 | dT kvs=>obtain ⟨_,_,_,_,o,_,_,e,_⟩:=x;exact Heap.lt_size e
 | set S n=>obtain ⟨o,_,_,_,e,_⟩:=x;exact Heap.lt_size e
 | ins C dx fs=>obtain ⟨_,_,_,e,_⟩:=x;exact Heap.lt_size e
 | own y=>obtain ⟨_,e⟩:=x;exact Heap.lt_size e
 | xd fs=>obtain ⟨_,⟨_,_,_,e,_⟩,_⟩:=x;exact Heap.lt_size e
 | rng lo hi=>obtain ⟨_,_,_,e⟩:=x;exact Heap.lt_size e
 | frz ob u=>obtain ⟨e,_⟩:=x;exact Heap.lt_size e
 | tbl ps=>exact Heap.lt_size (show h.get? a=some _ from x)
 | met f y=>exact Heap.lt_size (show h.get? a=some _ from x)
 | ext φ=>obtain ⟨_,⟨_,e⟩,_⟩:=x;exact Heap.lt_size e
theorem Paired.mapP {α β:Type}{F G:α→β→Prop}:∀ {l₁:List α}{l₂:List β},Paired F l₁ l₂→(∀ a b,F a b→G a b)→Paired G l₁ l₂
 | _,_,.nil,_=>.nil
 | _,_,.cons r t,f=>.cons (f _ _ r) (Paired.mapP t f)
theorem ObjOk.stay (x:ObjOk P w H h a o) (k:∀ b u,(b=a∨H b=some (.own a))→h.get? b=some u→h'.get? b=some u)
 (ho:∀ b,H b=some (.own a)→H' b=some (.own a)) (ht:∀ b xs,H b=some (.tup xs)→H' b=some (.tup xs)):ObjOk P w H' h' a o:=by
 induction o with
 | lst xs=>obtain ⟨z,its,n,r,e⟩:=x;exact ⟨z,its,n,r,k _ _ (.inl rfl) e⟩
 | tup xs=>obtain ⟨z,its,r,ob,e,c⟩:=x;exact ⟨z,its,r,ob,k _ _ (.inl rfl) e,c⟩
 | dK kvs=>obtain ⟨z,y,vs,r,ob,es,ep,e,c⟩:=x;exact ⟨z,y,vs,r,ob,es,ep,k _ _ (.inl rfl) e,c⟩
 | dT kvs=>
  obtain ⟨z,y,xs,r,ob,es,ep,e,c⟩:=x
  exact ⟨z,y,xs,Paired.mapP r fun p q z=>⟨z.1,ht _ _ z.2.1,z.2.2⟩,ob,es,ep,k _ _ (.inl rfl) e,c⟩
 | set S n=>obtain ⟨ob,es,ep,t,e,c⟩:=x;exact ⟨ob,es,ep,t,k _ _ (.inl rfl) e,c⟩
 | ins C dx fs=>
  obtain ⟨d,z,ne,e,mA,⟨od,es,ep,e2,c⟩,r⟩:=x
  exact ⟨ho _ d,z,ne,k _ _ (.inl rfl) e,mA,⟨od,es,ep,k _ _ (.inr d) e2,c⟩,r⟩
 | own y=>obtain ⟨ob,e⟩:=x;exact ⟨ob,k _ _ (.inl rfl) e⟩
 | xd fs=>obtain ⟨mA,⟨od,es,ep,e,c⟩,r⟩:=x;exact ⟨mA,⟨od,es,ep,k _ _ (.inl rfl) e,c⟩,r⟩
 | rng lo hi=>obtain ⟨t,u,v,e⟩:=x;exact ⟨t,u,v,k _ _ (.inl rfl) e⟩
 | frz ob u ih=>obtain ⟨e,q⟩:=x;exact ⟨k _ _ (.inl rfl) e,ih q⟩
 | tbl ps=>
  have e:h.get? a=some { cls:=.none,data:=.fields ps }:=x
  show h'.get? a=some { cls:=.none,data:=.fields ps }
  exact k a _ (.inl rfl) e
 | met f y=>
  have e:h.get? a=some (PySem.W.methodObj (.ref f) (.ref y)):=x
  show h'.get? a=some (PySem.W.methodObj (.ref f) (.ref y))
  exact k a _ (.inl rfl) e
 | ext φ=>obtain ⟨p,⟨o,e⟩,st⟩:=x;exact ⟨st _ _ p fun o q=>k _ _ (.inl rfl) q,⟨o,k _ _ (.inl rfl) e⟩,st⟩
theorem HOk.lt (x:HOk P w H h) (e:H a=some o):a<h.objs.size:=(x a o e).lt
theorem HOk.fresh (x:HOk P w H h) (e:h.objs.size≤a):H a=none:=by
 cases q:H a with
 | none=>rfl
 | some u=>exact absurd (Nat.lt_of_lt_of_le (x.lt q) e) (Nat.lt_irrefl _)
theorem HOk.kept (x:HOk P w H h) (k:∀ b u,h.get? b=some u→h'.get? b=some u):HOk P w H h':=fun a o e=>
 (x a o e).stay (fun b u _ q=>k b u q) (fun _ q=>q) fun _ _ q=>q
theorem HOk.laid (x:HOk P w H h) (k:∀ b u,h.get? b=some u→h'.get? b=some u) (hp:h.objs.size≤a) (new:ObjOk P w (upd H a o) h' a o):HOk P w (upd H a o) h':=fun b u e=>by
 have hn:=x.fresh hp
 by_cases hb:b=a
 · subst hb;rw [upd_same] at e;cases e;exact new
 · rw [upd_ne hb] at e
   exact (x b u e).stay (fun c v _ q=>k c v q) (fun c q=>by rw [upd_ne (ne_of_none q hn)];exact q) fun c xs q=>by rw [upd_ne (ne_of_none q hn)];exact q
end
noncomputable def Rd (H:Hp) (a:Addr) (u:HO):Prop:=H a=some u∨∃ o,H a=some (.frz o u)
theorem Rd.ok {P:Program}{w:World}{H:Hp}{h:Heap}{a:Addr}{u:HO}(r:Rd H a u) (x:HOk P w H h):ObjOk P w H h a u:=by
 rcases r with r | ⟨o,r⟩
 · exact x a u r
 · obtain ⟨_,q⟩:=x a _ r
   exact q
noncomputable def Mut:Option HO→Prop
 | some (.lst _)=>True
 | some (.dK _)=>True
 | some (.dT _)=>True
 | some (.set _ _)=>True
 | some (.ins _ _ _)=>True
 | some (.ext _)=>True
 | _=>False
section
variable {P:Program}{w:World}{H:Hp}{h h':Heap}{x e:Addr}{o':HO}
theorem HOk.write (ok:HOk P w H h) (mu:Mut (H x)) (he:e=x∨H e=some (.own x)) (k:∀ b u,b≠e→h.get? b=some u→h'.get? b=some u) (heo:∃ u,h'.get? e=some u)
 (new:ObjOk P w (upd H x o') h' x o'):HOk P w (upd H x o') h':=fun b u q=>by
 have nown:∀ c y,H c=some (.own y)→c≠x:=fun c y r z=>by subst z;rw [r] at mu;exact mu
 have ntup:∀ c xs,H c=some (.tup xs)→c≠x:=fun c xs r z=>by subst z;rw [r] at mu;exact mu
 by_cases hb:b=x
 · subst hb;rw [upd_same] at q;cases q;exact new
 · rw [upd_ne hb] at q
   by_cases hbe:b=e
   · have q':H b=some (.own x):=by
      rcases he with z | z
      · exact absurd (hbe.trans z) hb
      · rw [hbe];exact z
     rw [q] at q';cases q'
     obtain ⟨v,hv⟩:=heo
     exact ⟨v,by rw [hbe];exact hv⟩
   · refine (ok b u q).stay (fun c v hc r=>k c v ?_ r) (fun c r=>by rw [upd_ne (nown c b r)];exact r) fun c xs r=>by rw [upd_ne (ntup c xs r)];exact r
     rcases hc with rfl | hc
     · exact hbe
     · rintro rfl
       rcases he with z | z
       · exact nown c b hc z
       · rw [hc] at z;cases z;exact hb rfl
end
structure Un (fs ex:List Addr) (H H':Hp) (h h':Heap):Prop where
 keep:∀ b o,h.get? b=some o→H b=none→b∉fs→b∉ex→h'.get? b=some o
 slot:∀ b o,h.get? b=some o→H b=none→b∈fs→b∉ex→∃ sl,h'.get? b=some { o with slots:=sl }
 free:∀ b o,h.get? b=some o→H b=none→b∉ex→H' b=none
 there:∀ b o,h.get? b=some o→b∉ex→∃ o',h'.get? b=some o'
 tups:∀ b xs,H b=some (.tup xs)→H' b=some (.tup xs)
 frzs:∀ b o u,H b=some (.frz o u)→H' b=some (.frz o u)
 tbls:∀ b ps,H b=some (.tbl ps)→∃ more,H' b=some (.tbl (ps++more))
section
variable {fs fs' ex ex':List Addr}{H H1 H2:Hp}{h h1 h2 h':Heap}{a x e:Addr}{o:HO}
theorem Un.any (u:Un fs ex H H1 h h1) {b:Addr}{ob:Obj}(q:h.get? b=some ob) (n:H b=none) (hx:b∉ex):∃ sl,h1.get? b=some { ob with slots:=sl }:=by
 by_cases hb:b∈fs
 · exact u.slot b ob q n hb hx
 · exact ⟨ob.slots,u.keep b ob q n hb hx⟩
theorem Un.kept (k:∀ b u,h.get? b=some u→h'.get? b=some u):Un fs ex H H h h':=
 ⟨fun b ob q _ _ _=>k b ob q,fun b ob q _ _ _=>⟨ob.slots,k b ob q⟩,fun _ _ _ n _=>n,fun b ob q _=>⟨ob,k b ob q⟩,fun _ _ q=>q,fun _ _ _ q=>q,fun _ ps q=>⟨#[],by rw [q];simp⟩⟩
theorem Un.refl:Un fs ex H H h h:=Un.kept fun _ _ q=>q
theorem Un.laid (k:∀ b u,h.get? b=some u→h'.get? b=some u) (hp:h.objs.size≤a) (hn:H a=none):Un fs ex H (upd H a o) h h' where
 keep:=fun b u q _ _ _=>k b u q
 slot:=fun b u q _ _ _=>⟨u.slots,k b u q⟩
 free:=fun b u q n _=>by rw [upd_ne (Nat.ne_of_lt (Nat.lt_of_lt_of_le (Heap.lt_size q) hp))];exact n
 there:=fun b u q _=>⟨u,k b u q⟩
 tups:=fun b xs q=>by rw [upd_ne (ne_of_none q hn)];exact q
 frzs:=fun b u xs q=>by rw [upd_ne (ne_of_none q hn)];exact q
 tbls:=fun b ps q=>⟨#[],by rw [upd_ne (ne_of_none q hn),q];simp⟩
theorem Un.write (mu:Mut (H x)) (he:e=x∨H e=some (.own x)) (k:∀ b u,b≠e→h.get? b=some u→h'.get? b=some u) (heo:∃ u,h'.get? e=some u):Un fs ex H (upd H x o) h h':=by
 have hx:∀ b,H b=none→b≠x:=fun b n z=>by subst z;rw [n] at mu;exact mu
 have hb:∀ b,H b=none→b≠e:=fun b n z=>by
  subst z
  rcases he with r | r
  · exact hx b n r
  · rw [n] at r;cases r
 have hm:∀ b u,H b=some u→¬ Mut (some u)→b≠x:=fun b u q nm z=>by subst z;rw [q] at mu;exact nm mu
 refine ⟨fun b u q n _ _=>k b u (hb b n) q,fun b u q n _ _=>⟨u.slots,k b u (hb b n) q⟩,fun b u q n _=>by rw [upd_ne (hx b n)];exact n,fun b u q _=>?_,
  fun b xs q=>by rw [upd_ne (hm b _ q fun z=>z)];exact q,fun b u xs q=>by rw [upd_ne (hm b _ q fun z=>z)];exact q,fun b ps q=>⟨#[],by rw [upd_ne (hm b _ q fun z=>z),q];simp⟩⟩
 by_cases hbe:b=e
 · subst hbe;exact heo
 · exact ⟨u,k b u hbe q⟩
end
noncomputable def trk (h:Heap) (H:Hp):List Addr:=(List.range h.objs.size).filter fun a=>(H a).isSome
noncomputable def hidT (h:Heap) (H:Hp):Heap:=PySem.W.hideAll h (trk h H)
theorem hidT_size (h:Heap) (H:Hp):(hidT h H).objs.size=h.objs.size:=PySem.W.hideAll_size _ _
theorem hidT_get {h:Heap}{H:Hp}{b:Addr}{o:Obj}(e:h.get? b=some o) (n:H b=none):(hidT h H).get? b=some o:=
 PySem.W.hideAll_get _ e fun hm=>by
  have q:(H b).isSome=true:=(List.mem_filter.mp hm).2
  rw [n] at q;simp at q
theorem of_hidT {h:Heap}{H:Hp}{b:Addr}{o:Obj}(e:(hidT h H).get? b=some o):h.get? b=some o∧H b=none:=by
 have e':h.get? b=some o:=PySem.W.of_hideAll (trk h H) e
 refine ⟨e',?_⟩
 cases q:H b with
 | none=>rfl
 | some x=>
  have hm:b∈trk h H:=List.mem_filter.mpr ⟨List.mem_range.mpr (Heap.lt_size e'),by simp [q]⟩
  have z:(hidT h H).get? b=none:=PySem.W.hideAll_none (trk h H) hm
  rw [z] at e;cases e
noncomputable def allNews (g h:Heap) (L:Addr):List (Addr×Obj):=(List.range h.objs.size).filterMap fun a=>if a=L∨(g.get? a).isSome=true then none else (h.get? a).map fun o=>(a,o)
noncomputable def rest (g h:Heap) (L d:Addr):List (Addr×Obj):=(allNews g h L).filter fun p=>decide (p.1≠d)
structure Mod (K:PySem.W.Frag) (mg:Str→Option Value) (base:Heap):Prop where
 kin:K.In base
 glob:base.Ns mainGlobals mg
 blt:∃ mb,base.Ns builtinsNs mb∧∀ x:Str,x≠"__name__"→mb x=bootBuiltins x
 nolimit:base.NoLimit
structure Cx where
 prog:Program
 w:World
 K:PySem.W.Frag
 mg:Str→Option Value
 base:Heap
 A:Around
 N:List Str
 s₀:Shared
 H₀:Hp
 env:Env
 outer:List Env
 stack:List Env
 ex:List Addr
 fn:Str→Bool
 calm:Bool
 pn:List (Addr×Obj)
 xe:Value→Shared→Prop
noncomputable def frs (l:List Env):List Addr:=l.filterMap (·.frame)
noncomputable abbrev Cx.fs (X:Cx):List Addr:=frs X.outer
noncomputable def Vis (sc:Scope) (x:Str):Prop:=sc.names.lookup x=some .local ∨ sc.names.lookup x=some .cell∨sc.names.lookup x=some .free
noncomputable def Loc (sc:Scope) (x:Str):Prop:=sc.names.lookup x=some .local ∨ sc.names.lookup x=some .cell
noncomputable def Look (env:Env) (h:Heap) (m:Str→Option Value) (x:Str) (u:Value):Prop:=
 (env.kindOf x=some .local ∧ m x=some u)∨((env.kindOf x=some .cell∨env.kindOf x=some .free)∧∃ c,env.cells.lookup x=some c∧h.IsCell c (some u))
structure Cx.Ok (X:Cx):Prop where
 mod:Mod X.K X.mg X.base
 kind:X.env.scope.kind = .function
 glob:X.env.globals=mainGlobals
 blt:X.env.builtins=builtinsNs
 above:X.s₀.heap.objs.size≤X.env.locals
 inj:∀ x y c,X.env.cells.lookup x=some c→X.env.cells.lookup y=some c→x=y
 has:∀ x,(X.env.kindOf x=some .cell∨X.env.kindOf x=some .free)→∃ c,X.env.cells.lookup x=some c
 cab:∀ x c,X.fn x=true→X.env.cells.lookup x=some c→X.s₀.heap.objs.size≤c
 hd:X.calm=true→X.A.handled=none
 frames:X.A.frames=some X.stack
 stk:X.stack=X.outer∨(X.stack=X.env::X.outer∧X.env.frame=some X.env.locals)
 exf:∀ b∈X.ex,b≠X.env.locals∧∀ x c,X.env.cells.lookup x=some c→c≠b
 bs:∀ b o,X.base.get? b=some o→X.s₀.heap.get? b=some o∧X.H₀ b=none
 bsz:X.base.objs.size≤X.s₀.heap.objs.size
 noex:∀ b o,X.base.get? b=some o→b∉X.ex
 exfs:∀ b∈X.ex,b∉X.fs
 funs:X.s₀.heap.FunFrames X.base X.outer
 frf:∀ b∈X.fs,X.H₀ b=none
structure Inv (X:Cx) (pins:List (Addr×Obj)) (σ:List (Option V)) (H:Hp) (s:Shared):Prop where
 ok:X.Ok
 os:s.os=X.s₀.os
 bare:AllBare s.gens
 base:Un X.fs X.ex X.H₀ H X.s₀.heap s.heap
 loc:∃ m,s.heap.Ns X.env.locals m∧∀ (i:Nat) (x:Str) (v:V),X.N[i]? = some x→σ[i]? = some (some v)→Vis X.env.scope x→∃ u,RelV v u∧Look X.env s.heap m x u
 cell:∀ x c,X.env.cells.lookup x=some c→∃ v,s.heap.IsCell c v
 free:H X.env.locals=none
 freeC:∀ x c,X.env.cells.lookup x=some c→H c=none
 pin:∀ p∈X.pn++pins,s.heap.get? p.1=some p.2∧H p.1=none∧p.1≠X.env.locals∧p.1∉X.fs∧∀ v,p.2.data≠.cell v
 hok:HOk X.prog X.w H s.heap
 len:σ.length=X.N.length
section
variable {X:Cx}{pins:List (Addr×Obj)}{σ:List (Option V)}{H H':Hp}{s:Shared}{h':Heap}
theorem Cx.Ok.nofr (ok:X.Ok) {b:Addr}{o:Obj}(e:X.base.get? b=some o):b∉X.fs:=fun hb=>by
 have:=(ok.funs.mem hb).1
 rw [e] at this;cases this
theorem Inv.bs (I:Inv X pins σ H s):∀ b o,X.base.get? b=some o→s.heap.get? b=some o∧H b=none:=fun b o e=>
 ⟨I.base.keep b o (I.ok.bs b o e).1 (I.ok.bs b o e).2 (I.ok.nofr e) (I.ok.noex b o e),I.base.free b o (I.ok.bs b o e).1 (I.ok.bs b o e).2 (I.ok.noex b o e)⟩
theorem Inv.bk (I:Inv X pins σ H s):∀ b o,X.base.get? b=some o→s.heap.get? b=some o:=fun b o e=>(I.bs b o e).1
theorem Inv.mod (I:Inv X pins σ H s):Mod X.K X.mg X.base:=I.ok.mod
theorem Inv.kIn (I:Inv X pins σ H s):X.K.In s.heap:=I.ok.mod.kin.keeps I.bk
theorem Inv.lt (I:Inv X pins σ H s):X.env.locals<s.heap.objs.size:=let ⟨_,hn,_⟩:=I.loc;hn.lt
theorem Inv.sz (I:Inv X pins σ H s):X.s₀.heap.objs.size≤s.heap.objs.size:=Nat.le_trans I.ok.above (Nat.le_of_lt I.lt)
theorem Inv.nofs (I:Inv X pins σ H s) {a:Addr}(h:s.heap.objs.size≤a):a∉X.fs:=fun hb=>by
 obtain ⟨_,o,ho,_⟩:=I.ok.funs.mem hb
 exact absurd (Nat.lt_of_lt_of_le (Heap.lt_size ho) (Nat.le_trans I.sz h)) (Nat.lt_irrefl _)
theorem Inv.cne (I:Inv X pins σ H s):∀ x c,X.env.cells.lookup x=some c→c≠X.env.locals:=fun x c e z=>by
 obtain ⟨v,o,ho,hd⟩:=I.cell x c e
 obtain ⟨m,⟨o',es,ep,ho',hd',_⟩,_⟩:=I.loc
 rw [z,ho'] at ho;cases ho;rw [hd'] at hd;cases hd
theorem Inv.funs (I:Inv X pins σ H s):s.heap.FunFrames X.base X.outer:=by
 have all:∀ (l:List Env),(∀ b∈frs l,b∈X.fs)→X.s₀.heap.FunFrames X.base l→s.heap.FunFrames X.base l:=by
  intro l
  induction l with
  | nil=>intro _ _;trivial
  | cons env r ih=>
   intro hs hl
   obtain ⟨hk,⟨L,o,hf,hn,ho,hd⟩,hr⟩:=hl
   have hL:L∈X.fs:=hs L (by unfold frs;rw [List.filterMap_cons,hf];exact List.mem_cons_self)
   obtain ⟨sl,e⟩:=I.base.slot L o ho (I.ok.frf L hL) hL fun z=>I.ok.exfs L z hL
   exact ⟨hk,⟨L,_,hf,hn,e,hd⟩,ih (fun b hb=>hs b (by unfold frs;rw [List.filterMap_cons,hf];exact List.mem_cons_of_mem _ hb)) hr⟩
 exact all X.outer (fun _ hb=>hb) I.ok.funs
theorem Inv.stack (I:Inv X pins σ H s):s.heap.FunFrames X.base X.stack:=by
 rcases I.ok.stk with e | ⟨e,hf⟩
 · rw [e];exact I.funs
 · rw [e]
   obtain ⟨m,hn,_⟩:=I.loc
   refine .cons (by rw [I.ok.kind];decide) hf hn ?_ I.funs
   exact Heap.get?_none_of_le (Nat.le_trans I.ok.bsz I.ok.above)
theorem Inv.stkSub (I:Inv X pins σ H s):∀ b∈frs X.stack,b∈X.env.locals::X.fs:=fun b hb=>by
 rcases I.ok.stk with e | ⟨e,hf⟩
 · rw [e] at hb;exact List.mem_cons_of_mem _ hb
 · rw [e] at hb
   unfold frs at hb
   rw [List.filterMap_cons,hf] at hb
   exact hb
theorem Inv.stkFree (I:Inv X pins σ H s):∀ b∈frs X.stack,H b=none:=fun b hb=>by
 rcases List.mem_cons.mp (I.stkSub b hb) with e | hb
 · rw [e];exact I.free
 · obtain ⟨_,o,ho,_⟩:=I.ok.funs.mem hb
   exact I.base.free b o ho (I.ok.frf b hb) fun z=>I.ok.exfs b z hb
theorem Inv.step {g':Array GenState}{t':Nat}{d':Drawn}{ch:List Addr}(I:Inv X pins σ H s)
 (hch:∀ b∈ch,(b∈X.ex∨X.s₀.heap.objs.size≤b)∧b≠X.env.locals∧(∀ x c,X.env.cells.lookup x=some c→c≠b)∧∀ p∈X.pn++pins,p.1≠b)
 (keep:∀ b o,b≠X.env.locals→b∉X.fs→b∉ch→s.heap.get? b=some o→H b=none→h'.get? b=some o)
 (slot:∀ b o,b≠X.env.locals→b∈X.fs→b∉ch→s.heap.get? b=some o→H b=none→∃ sl,h'.get? b=some { o with slots:=sl }) (free:∀ b o,b∉ch→s.heap.get? b=some o→H b=none→H' b=none)
 (there:∀ b o,b∉ch→s.heap.get? b=some o→∃ o',h'.get? b=some o')
 (tups:∀ b xs,H b=some (.tup xs)→H' b=some (.tup xs)) (frzs:∀ b o u,H b=some (.frz o u)→H' b=some (.frz o u)) (tbls:∀ b ps,H b=some (.tbl ps)→∃ more,H' b=some (.tbl (ps++more)))
 (ns:∀ m,s.heap.Ns X.env.locals m→h'.Ns X.env.locals m) (hok:HOk X.prog X.w H' h') (hg:AllBare g') :
 Inv X pins σ H' { s with heap:=h',gens:=g',drawn:=d',toks:=t' }:=by
 have neL:∀ b o,X.s₀.heap.get? b=some o→b≠X.env.locals:=fun b o e=>Nat.ne_of_lt (Nat.lt_of_lt_of_le (Heap.lt_size e) I.ok.above)
 have neC:∀ b o,X.s₀.heap.get? b=some o→b∉X.ex→b∉ch:=fun b o e hx hb=>by
  rcases (hch b hb).1 with z | z
  · exact hx z
  · exact absurd (Nat.lt_of_lt_of_le (Heap.lt_size e) z) (Nat.lt_irrefl _)
 have cellK:∀ x c,X.env.cells.lookup x=some c→∀ v,s.heap.IsCell c v→h'.IsCell c v:=fun x c e v ⟨o,ho,hd⟩=>by
  have nch:c∉ch:=fun z=>(hch c z).2.2.1 x c e rfl
  by_cases hc:c∈X.fs
  · obtain ⟨sl,q⟩:=slot c o (I.cne x c e) hc nch ho (I.freeC x c e)
    exact ⟨_,q,hd⟩
  · exact ⟨o,keep c o (I.cne x c e) hc nch ho (I.freeC x c e),hd⟩
 refine ⟨I.ok,I.os,hg,⟨fun b o e n hb hx=>?_,fun b o e n hb hx=>?_,fun b o e n hx=>?_,fun b o e hx=>?_,fun b xs e=>tups b xs (I.base.tups b xs e),fun b o xs e=>frzs b o xs (I.base.frzs b o xs e),fun b ps e=>?_⟩,?_,fun x c e=>?_,?_,fun x c e=>?_,fun p hp=>?_,hok,I.len⟩
 · exact keep b o (neL b o e) hb (neC b o e hx) (I.base.keep b o e n hb hx) (I.base.free b o e n hx)
 · obtain ⟨sl,e1⟩:=I.base.slot b o e n hb hx
   obtain ⟨sl',e2⟩:=slot b _ (neL b o e) hb (neC b o e hx) e1 (I.base.free b o e n hx)
   exact ⟨sl',e2⟩
 · obtain ⟨o',e1⟩:=I.base.there b o e hx
   exact free b o' (neC b o e hx) e1 (I.base.free b o e n hx)
 · obtain ⟨o',e1⟩:=I.base.there b o e hx
   exact there b o' (neC b o e hx) e1
 · obtain ⟨m1,e1⟩:=I.base.tbls b ps e
   obtain ⟨m2,e2⟩:=tbls b _ e1
   exact ⟨m1++m2,by rw [e2,Array.append_assoc]⟩
 · obtain ⟨m,hn,hl⟩:=I.loc
   refine ⟨m,ns m hn,fun i x v e1 e2 e3=>?_⟩
   obtain ⟨u,r,l⟩:=hl i x v e1 e2 e3
   refine ⟨u,r,?_⟩
   rcases l with l | ⟨k,c,e,z⟩
   · exact .inl l
   · exact .inr ⟨k,c,e,cellK x c e _ z⟩
 · obtain ⟨v,z⟩:=I.cell x c e
   exact ⟨v,cellK x c e v z⟩
 · obtain ⟨m,⟨o,_,_,ho,_⟩,_⟩:=I.loc
   exact free _ o (fun z=>(hch _ z).2.1 rfl) ho I.free
 · obtain ⟨v,o,ho,hd⟩:=I.cell x c e
   exact free c o (fun z=>(hch c z).2.2.1 x c e rfl) ho (I.freeC x c e)
 · obtain ⟨e,n,ne,nf,d⟩:=I.pin p hp
   have nch:p.1∉ch:=fun z=>(hch p.1 z).2.2.2 p hp rfl
   exact ⟨keep p.1 p.2 ne nf nch e n,free p.1 p.2 nch e n,ne,nf,d⟩
theorem Inv.un {t':Nat}(I:Inv X pins σ H s) (u:Un X.fs [] H H' s.heap h') (hok:HOk X.prog X.w H' h'):Inv X pins σ H' { s with heap:=h',toks:=t' }:=by
 obtain ⟨m,⟨o,es,ep,ho,r⟩,_⟩:=id I.loc
 obtain ⟨sl,hL⟩:=u.any ho I.free (by simp)
 exact I.step (g':=s.gens) (d':=s.drawn) (ch:=[]) (fun _ z=>nomatch z) (fun b o _ hb _ e n=>u.keep b o e n hb (by simp)) (fun b o _ hb _ e n=>u.slot b o e n hb (by simp)) (fun b o _ e n=>u.free b o e n (by simp)) (fun b o _ e=>u.there b o e (by simp)) u.tups u.frzs u.tbls (fun m' hm=>by
  obtain ⟨o',es',ep',ho',r'⟩:=hm
  rw [ho] at ho';cases ho'
  exact ⟨_,es',ep',hL,r'⟩) hok I.bare
theorem Inv.call {g':Array GenState}{t':Nat}{d':Drawn}{ch:List Addr}(I:Inv X pins σ H s) (u:Un (frs X.stack) ch H H' s.heap h') (hok:HOk X.prog X.w H' h') (hg:AllBare g')
 (hch:∀ b∈ch,(b∈X.ex∨X.s₀.heap.objs.size≤b)∧b≠X.env.locals∧(∀ x c,X.env.cells.lookup x=some c→c≠b)∧∀ p∈X.pn++pins,p.1≠b) :
 Inv X pins σ H' { s with heap:=h',gens:=g',drawn:=d',toks:=t' }:=by
 obtain ⟨m,⟨o,es,ep,ho,r⟩,_⟩:=id I.loc
 obtain ⟨sl,hL⟩:=u.any ho I.free fun z=>(hch _ z).2.1 rfl
 exact I.step (ch:=ch) hch (fun b o hL hb hc e n=>u.keep b o e n (fun z=>(List.mem_cons.mp (I.stkSub b z)).elim hL hb) hc) (fun b o _ _ hc e n=>u.any e n hc) (fun b o hc e n=>u.free b o e n hc) (fun b o hc e=>u.there b o e hc) u.tups u.frzs u.tbls (fun m' hm=>by
  obtain ⟨o',es',ep',ho',r'⟩:=hm
  rw [ho] at ho';cases ho'
  exact ⟨_,es',ep',hL,r'⟩) hok hg
theorem Inv.turned {t':Nat}{it:Addr}(I:Inv X pins σ H s) (k:∀ b o,b≠it→s.heap.get? b=some o→h'.get? b=some o) (hn:H it=none) (hL:it≠X.env.locals)
 (h1:it∈X.ex∨X.s₀.heap.objs.size≤it) (h2:∀ x c,X.env.cells.lookup x=some c→c≠it) (h3:∀ p∈X.pn++pins,p.1≠it):Inv X pins σ H { s with heap:=h',toks:=t' }:=by
 have nit:∀ b u,H b=some u→b≠it:=fun b u e z=>by rw [z,hn] at e;cases e
 refine I.step (g':=s.gens) (d':=s.drawn) (ch:=[it]) (fun b hb=>?_) (fun b o _ _ hc e _=>k b o (fun z=>hc (by simp [z])) e) (fun b o _ _ hc e _=>⟨o.slots,k b o (fun z=>hc (by simp [z])) e⟩) (fun _ _ _ _ n=>n)
  (fun b o hc e=>⟨o,k b o (fun z=>hc (by simp [z])) e⟩) (fun _ _ e=>e) (fun _ _ _ e=>e) (fun b ps e=>⟨#[],by rw [e];simp⟩) (fun m hm=>?_) (fun b u e=>?_) I.bare
 · have e:b=it:=by simpa using hb
   subst e
   exact ⟨h1,hL,h2,h3⟩
 · obtain ⟨o,es,ep,ho,r⟩:=hm
   exact ⟨o,es,ep,k _ o (Ne.symm hL) ho,r⟩
 · refine (I.hok b u e).stay (fun c v hc q=>k c v ?_ q) (fun _ q=>q) fun _ _ q=>q
   rcases hc with z | z
   · rw [z];exact nit b u e
   · exact nit c _ z
theorem Inv.tok (I:Inv X pins σ H s) (t:Nat):Inv X pins σ H { s with toks:=t }:=I.un (h':=s.heap) (t':=t) Un.refl I.hok
theorem Inv.kept {t':Nat}(I:Inv X pins σ H s) (k:∀ b u,s.heap.get? b=some u→h'.get? b=some u):Inv X pins σ H { s with heap:=h',toks:=t' }:=I.un (Un.kept k) (I.hok.kept k)
theorem Inv.laid {a:Addr}{o:HO}{t':Nat}(I:Inv X pins σ H s) (k:∀ b u,s.heap.get? b=some u→h'.get? b=some u) (hp:s.heap.objs.size≤a) (new:ObjOk X.prog X.w (upd H a o) h' a o) :
 Inv X pins σ (upd H a o) { s with heap:=h',toks:=t' }:=I.un (Un.laid k hp (I.hok.fresh hp)) (I.hok.laid k hp new)
theorem Inv.write {x e:Addr}{o:HO}{t':Nat}(I:Inv X pins σ H s) (mu:Mut (H x)) (he:e=x∨H e=some (.own x)) (k:∀ b u,b≠e→s.heap.get? b=some u→h'.get? b=some u) (heo:∃ u,h'.get? e=some u)
 (new:ObjOk X.prog X.w (upd H x o) h' x o):Inv X pins σ (upd H x o) { s with heap:=h',toks:=t' }:=I.un (Un.write mu he k heo) (I.hok.write mu he k heo new)
theorem Inv.pins_of {pins':List (Addr×Obj)}(I:Inv X pins σ H s) (h:∀ p∈pins',s.heap.get? p.1=some p.2∧H p.1=none∧p.1≠X.env.locals∧p.1∉X.fs∧∀ v,p.2.data≠.cell v):Inv X pins' σ H s:=
 ⟨I.ok,I.os,I.bare,I.base,I.loc,I.cell,I.free,I.freeC,fun p hp=>(List.mem_append.mp hp).elim (fun z=>I.pin p (List.mem_append_left _ z)) (h p),I.hok,I.len⟩
theorem nodup_ix {N:List Str}(hN:N.Nodup) {i j:Nat}{x:Str}(a:N[i]? = some x) (b:N[j]? = some x):i=j:=by
 obtain ⟨h1,e1⟩:=List.getElem?_eq_some_iff.mp a
 obtain ⟨h2,e2⟩:=List.getElem?_eq_some_iff.mp b
 exact (List.getElem_inj hN).mp (e1.trans e2.symm)
theorem store_ok2 {M:Model}{A:Around}{E:Value→Shared→Prop}{i:Nat}{x:Str}{v:V}{u:Value}{Q:Unit→Shared→Prop}(I:Inv X pins σ H s) (hN:X.N.Nodup) (hi:X.N[i]? = some x) (hx:Loc X.env.scope x) (r:RelV v u)
 (h:∀ s',Inv X pins (σ.set i (some v)) H s'→(∃ a,Heap.SameBut a s.heap s'.heap∧(a=X.env.locals∨X.env.cells.lookup x=some a))→Q () s') (hf:X.fn x=true∨X.env.scope.names.lookup x=some .local := by first | exact .inl rfl | exact .inr rfl | assumption):wpAny M A (storeName X.env x u) Q E s:=by
 obtain ⟨m,hn,hl⟩:=id I.loc
 have hcls:(X.env.scope.kind == .class||(X.env.scope.kind == .module&&X.env.locals != X.env.globals))=false:=by rw [I.ok.kind];rfl
 have hiσ:i < σ.length:=by rw [I.len];exact (List.getElem?_eq_some_iff.mp hi).1
 have cne:=I.cne
 have tracked:∀ {a:Addr} {h':Heap},(∃ o,s.heap.get? a=some o∧H a=none)→Heap.SameBut a s.heap h'→HOk X.prog X.w H h':=fun {a h'} ha hs b ob e=>by
  obtain ⟨_,_,hfree⟩:=ha
  refine (I.hok b ob e).stay (fun c w' hc q=>(hs.2 c ?_).trans q) (fun _ q=>q) fun _ _ q=>q
  rintro rfl
  rcases hc with rfl | hc
  · rw [hfree] at e;cases e
  · rw [hfree] at hc;cases hc
 rcases hx with hk | hk
 · refine wpAny_storeName_local hk hn (fun h' hn' hs=>?_) hcls
   obtain ⟨oL,_,_,hoL,_⟩:=id hn
   refine h _ ⟨I.ok,I.os,I.bare,⟨fun b o e n hb hx=>?_,fun b o e n hb hx=>?_,I.base.free,fun b o e hx=>?_,I.base.tups,I.base.frzs,I.base.tbls⟩,⟨_,hn',fun j y v' e1 e2 e3=>?_⟩,fun y c e=>?_,I.free,I.freeC,fun p hp=>?_,tracked ⟨oL,hoL,I.free⟩ hs,by simpa using I.len⟩ ⟨_,hs,.inl rfl⟩
   · exact (hs.2 b (Nat.ne_of_lt (Nat.lt_of_lt_of_le (Heap.lt_size e) I.ok.above))).trans (I.base.keep b o e n hb hx)
   · obtain ⟨sl,e1⟩:=I.base.slot b o e n hb hx
     exact ⟨sl,(hs.2 b (Nat.ne_of_lt (Nat.lt_of_lt_of_le (Heap.lt_size e) I.ok.above))).trans e1⟩
   · obtain ⟨o',e1⟩:=I.base.there b o e hx
     exact ⟨o',(hs.2 b (Nat.ne_of_lt (Nat.lt_of_lt_of_le (Heap.lt_size e) I.ok.above))).trans e1⟩
   · by_cases hj:j=i
     · subst hj
       rw [hi] at e1;cases e1
       rw [List.getElem?_set_self hiσ] at e2
       cases e2
       exact ⟨u,r,.inl ⟨hk,by simp⟩⟩
     · rw [List.getElem?_set_ne (Ne.symm hj)] at e2
       obtain ⟨u',r',q⟩:=hl j y v' e1 e2 e3
       refine ⟨u',r',?_⟩
       rcases q with ⟨k,e⟩ | ⟨k,c,e,z⟩
       · refine .inl ⟨k,?_⟩
         have:y≠x:=fun e=>hj (nodup_ix hN e1 (e▸hi))
         simp [this,e]
       · exact .inr ⟨k,c,e,z.sameBut hs (cne y c e)⟩
   · obtain ⟨w',z⟩:=I.cell y c e
     exact ⟨w',z.sameBut hs (cne y c e)⟩
   · obtain ⟨e,n,ne,nf,d⟩:=I.pin p hp
     exact ⟨(hs.2 p.1 ne).trans e,n,ne,nf,d⟩
 · have hfn:X.fn x=true:=by
    rcases hf with z | z
    · exact z
    · rw [z] at hk;cases hk
   obtain ⟨c,hc⟩:=I.ok.has x (.inl hk)
   obtain ⟨w',z⟩:=I.cell x c hc
   refine wpAny_storeName_cell I.ok.kind hk hc z (fun h' hc' hs=>?_)
   obtain ⟨oc,hoc,hocd⟩:=id z
   refine h { s with heap:=h' } ⟨I.ok,I.os,I.bare,⟨fun b o e n hb hx=>?_,fun b o e n hb hx=>?_,I.base.free,fun b o e hx=>?_,I.base.tups,I.base.frzs,I.base.tbls⟩,⟨m,hn.sameBut hs (Ne.symm (cne x c hc)),fun j y v' e1 e2 e3=>?_⟩,fun y c' e=>?_,I.free,I.freeC,fun p hp=>?_,tracked ⟨oc,hoc,I.freeC x c hc⟩ hs,by simpa using I.len⟩ ⟨c,hs,.inr hc⟩
   · exact (hs.2 b (Nat.ne_of_lt (Nat.lt_of_lt_of_le (Heap.lt_size e) (I.ok.cab x c hfn hc)))).trans (I.base.keep b o e n hb hx)
   · obtain ⟨sl,e1⟩:=I.base.slot b o e n hb hx
     exact ⟨sl,(hs.2 b (Nat.ne_of_lt (Nat.lt_of_lt_of_le (Heap.lt_size e) (I.ok.cab x c hfn hc)))).trans e1⟩
   · obtain ⟨o',e1⟩:=I.base.there b o e hx
     exact ⟨o',(hs.2 b (Nat.ne_of_lt (Nat.lt_of_lt_of_le (Heap.lt_size e) (I.ok.cab x c hfn hc)))).trans e1⟩
   · by_cases hj:j=i
     · subst hj
       rw [hi] at e1;cases e1
       rw [List.getElem?_set_self hiσ] at e2
       cases e2
       exact ⟨u,r,.inr ⟨.inl hk,c,hc,hc'⟩⟩
     · rw [List.getElem?_set_ne (Ne.symm hj)] at e2
       obtain ⟨u',r',q⟩:=hl j y v' e1 e2 e3
       refine ⟨u',r',?_⟩
       rcases q with q | ⟨k,c',e,z'⟩
       · exact .inl q
       · refine .inr ⟨k,c',e,z'.sameBut hs ?_⟩
         rintro rfl
         exact hj (nodup_ix hN e1 (I.ok.inj _ _ _ e hc▸hi))
   · by_cases hcc:c'=c
     · subst hcc;exact ⟨_,hc'⟩
     · obtain ⟨w2,z2⟩:=I.cell y c' e
       exact ⟨w2,z2.sameBut hs hcc⟩
   · obtain ⟨e,n,ne,nf,d⟩:=I.pin p hp
     refine ⟨(hs.2 p.1 ?_).trans e,n,ne,nf,d⟩
     intro q
     rw [q,hoc] at e
     have q':oc=p.2:=Option.some.inj e
     exact d w' (by rw [← q'];exact hocd)
theorem store_ok {M:Model}{A:Around}{E:Value→Shared→Prop}{i:Nat}{x:Str}{v:V}{u:Value}{Q:Unit→Shared→Prop}(I:Inv X pins σ H s) (hN:X.N.Nodup) (hi:X.N[i]? = some x) (hx:Loc X.env.scope x) (r:RelV v u)
 (h:∀ s',Inv X pins (σ.set i (some v)) H s'→Q () s') (hf:X.fn x=true∨X.env.scope.names.lookup x=some .local := by first | exact .inl rfl | exact .inr rfl | assumption):wpAny M A (storeName X.env x u) Q E s:=
 store_ok2 I hN hi hx r (fun s' I' _=>h s' I') hf
theorem Inv.call' {s':Shared}{ch:List Addr}(I:Inv X pins σ H s) (ho:s'.os=s.os) (u:Un (frs X.stack) ch H H' s.heap s'.heap) (hok:HOk X.prog X.w H' s'.heap) (hg:AllBare s'.gens)
 (hch:∀ b∈ch,(b∈X.ex∨X.s₀.heap.objs.size≤b)∧b≠X.env.locals∧(∀ x c,X.env.cells.lookup x=some c→c≠b)∧∀ p∈X.pn++pins,p.1≠b):Inv X pins σ H' s':=by
 obtain ⟨h',g',d',t',o'⟩:=s'
 have e:o'=s.os:=ho
 subst e
 exact I.call (g':=g') (t':=t') (d':=d') u hok hg hch
end
noncomputable abbrev XK:=Value→Option Addr→Hp→Prop
noncomputable abbrev St:=List (Option V)
noncomputable abbrev VK:=V→Hp→Prop
noncomputable abbrev TE:=St→Hp→VK→Prop
noncomputable abbrev TT:=St→Hp→(Bool→Hp→Prop)→Prop
noncomputable abbrev TA:=St→Hp→(List V→Hp→Prop)→Prop
structure Ends where
 nx:St→Hp→Prop
 rt:VK
 bk:St→Hp→Prop:=fun _ _=>False
 ct:St→Hp→Prop:=fun _ _=>False
noncomputable abbrev TS:=Ends→St→Hp→Prop
noncomputable def EP (X:Cx) (pins:List (Addr×Obj)) (σ:St) (Q:VK) (u:Value) (s':Shared):Prop:=∃ v H',Inv X pins σ H' s'∧RelV v u∧Q v H'
noncomputable def TP (X:Cx) (pins:List (Addr×Obj)) (σ:St) (Q:Bool→Hp→Prop) (b:Bool) (s':Shared):Prop:=∃ H',Inv X pins σ H' s'∧Q b H'
noncomputable def AP (X:Cx) (pins:List (Addr×Obj)) (σ:St) (Q:List V→Hp→Prop) (us:List Value) (s':Shared):Prop:=∃ vs H',Inv X pins σ H' s'∧Vals vs us∧Q vs H'
noncomputable def SP (X:Cx) (pins:List (Addr×Obj)) (D:Ends) (f:Flow) (s':Shared):Prop:=
 match f with
 | .next=>∃ σ' H',Inv X pins σ' H' s'∧D.nx σ' H'
 | .brk=>∃ σ' H',Inv X pins σ' H' s'∧D.bk σ' H'
 | .cont=>∃ σ' H',Inv X pins σ' H' s'∧D.ct σ' H'
 | .ret u=>∃ v σ' H',Inv X pins σ' H' s'∧RelV v u∧D.rt v H'
noncomputable def PE (X:Cx) (e:Expr) (t:TE):Prop:=
 ∀ (pins:List (Addr×Obj)) (s:Shared) (σ:St) (H:Hp) (Q:VK),Inv X pins σ H s→t σ H Q→wpAny (model X.prog X.w) X.A (eval e X.env) (EP X pins σ Q) X.xe s
noncomputable def PT (X:Cx) (e:Expr) (t:TT):Prop:=
 ∀ (pins:List (Addr×Obj)) (s:Shared) (σ:St) (H:Hp) (Q:Bool→Hp→Prop),Inv X pins σ H s→t σ H Q→wpAny (model X.prog X.w) X.A (isTrue e X.env (eval e X.env)) (TP X pins σ Q) X.xe s
noncomputable def PW (X:Cx) (e:Expr) (t:TT):Prop:=
 ∀ (whole:Sem Value) (pins:List (Addr×Obj)) (s:Shared) (σ:St) (H:Hp) (Q:Bool→Hp→Prop),Inv X pins σ H s→t σ H Q→wpAny (model X.prog X.w) X.A (isTrue e X.env whole) (TP X pins σ Q) X.xe s
theorem PW.pt {X:Cx}{e:Expr}{t:TT}(h:PW X e t):PT X e t:=h _
noncomputable def PA (X:Cx) (es:List Expr) (t:TA):Prop:=
 ∀ (pos:Pos) (pins:List (Addr×Obj)) (s:Shared) (σ:St) (H:Hp) (Q:List V→Hp→Prop),Inv X pins σ H s→t σ H Q→wpAny (model X.prog X.w) X.A (spliced (backTo pos (starEach es X.env))) (AP X pins σ Q) X.xe s
noncomputable def PS (X:Cx) (st:Stmt) (t:TS):Prop:=
 ∀ (pins:List (Addr×Obj)) (s:Shared) (σ:St) (H:Hp) (D:Ends),Inv X pins σ H s→t D σ H→wpAny (model X.prog X.w) X.A (exec st X.env) (SP X pins D) X.xe s
noncomputable def PSs (X:Cx) (st:List Stmt) (t:TS):Prop:=
 ∀ (pins:List (Addr×Obj)) (s:Shared) (σ:St) (H:Hp) (D:Ends),Inv X pins σ H s→t D σ H→wpAny (model X.prog X.w) X.A (execs st X.env) (SP X pins D) X.xe s
theorem thn {α:Type}{t:Sem α}{Q Q':α→Shared→Prop}{M:Model}{A:Around}{E:Value→Shared→Prop}{s:Shared}(h:wpAny M A t Q E s) (hQ:∀ a s,Q a s→Q' a s):wpAny M A t Q' E s:=wpAny_mono h hQ fun _ _ x=>x
section
variable {X:Cx}
noncomputable def tVar (i:Nat):TE:=fun σ H Q=>∃ v,σ[i]? = some (some v)∧Q v H
noncomputable def tC (v:V):TE:=fun _ H Q=>Q v H
theorem pe_var {i:Nat}{x:Str}{pos:Pos}(hN:X.N[i]? = some x) (hv:Vis X.env.scope x) (hd:(x==("__debug__":Str))=false:=by decide) (hcd:(x==("__classdict__":Str))=false:=by decide):PE X (.Name x pos) (tVar i):=by
 intro pins s σ H Q I h
 obtain ⟨v,e,h⟩:=h
 obtain ⟨m,hn,hl⟩:=I.loc
 obtain ⟨u,r,l⟩:=hl i x v hN e hv
 have fin:EP X pins σ Q u s:=⟨v,H,I,r,h⟩
 rcases l with ⟨hk,hm⟩ | ⟨hk,c,hc,hcell⟩
 · exact wpAny_Name (wpAny_loadName_local I.ok.kind hk hn hm fin) hd
 · rcases hk with hk | hk
   · exact wpAny_Name (wpAny_loadName_cell I.ok.kind hk hc hcell fin) hd
   · exact wpAny_Name (wpAny_loadName_free I.ok.kind hk hc hcell fin hcd) hd
theorem pe_int {i j pos}:PE X (.Constant (.int i) j pos) (tC (.int i)):=fun _ _ _ H _ I h=>wpAny_Constant_int ⟨.int i,H,I.tok _,⟨_,rfl⟩,h⟩
theorem pe_bl {b j pos}:PE X (.Constant (.bool b) j pos) (tC (.bl b)):=fun _ _ _ H _ I h=>Constant_bool ⟨.bl b,H,I,rfl,h⟩
theorem pe_non {j pos}:PE X (.Constant .none j pos) (tC .non):=fun _ _ _ H _ I h=>Constant_none ⟨.non,H,I,rfl,h⟩
theorem pe_str {x j pos}:PE X (.Constant (.str x) j pos) (tC (.str x)):=fun _ _ _ H _ I h=>Calls.Constant_str ⟨.str x,H,I.tok _,⟨_,rfl⟩,h⟩
noncomputable def Gl (X:Cx) (x:Str):Prop:=X.env.kindOf x=some .globalImplicit
theorem ld_glob {E:Value→Shared→Prop}{pins:List (Addr×Obj)}{s:Shared}{σ:St}{H:Hp}{x:Str}{u:Value}{pos:Pos}{Q:Value→Shared→Prop}(I:Inv X pins σ H s) (hg:Gl X x) (hm:X.mg x=some u) (h:Q u s)
 (hd:(x==("__debug__":Str))=false:=by decide):wpAny (model X.prog X.w) X.A (eval (.Name x pos) X.env) Q E s:=
 Calls.Name_function_global I.ok.kind hg (Calls.loadGlobal_global (by rw [I.ok.glob];exact I.mod.glob.keeps I.bk) hm h) hd
theorem ld_blt {E:Value→Shared→Prop}{pins:List (Addr×Obj)}{s:Shared}{σ:St}{H:Hp}{x:Str}{u:Value}{pos:Pos}{Q:Value→Shared→Prop}(I:Inv X pins σ H s) (hg:Gl X x) (hm:X.mg x=none) (hv:bootBuiltins x=some u) (h:Q u s)
 (hn:x≠"__name__":=by decide) (hd:(x==("__debug__":Str))=false:=by decide):wpAny (model X.prog X.w) X.A (eval (.Name x pos) X.env) Q E s:=by
 obtain ⟨mb,h1,h2⟩:=I.mod.blt
 exact Calls.Name_function_global I.ok.kind hg (Calls.loadGlobal_builtin (by rw [I.ok.glob];exact I.mod.glob.keeps I.bk) hm (by rw [I.ok.blt];exact h1.keeps I.bk) ((h2 x hn).trans hv) h) hd
theorem pe_bltn {x:Str}{v:V}{u:Value}{pos:Pos}(hg:Gl X x) (hm:X.mg x=none) (hv:bootBuiltins x=some u) (r:RelV v u) (hn:x≠"__name__":=by decide) (hd:(x==("__debug__":Str))=false:=by decide):PE X (.Name x pos) (tC v):=
 fun _ _ _ H _ I h=>ld_blt I hg hm hv ⟨v,H,I,r,h⟩ hn hd
variable {a b:Expr}{ta tb:TE}{pos:Pos}
noncomputable def PC (X:Cx) (op:CmpOp) (a b:Expr) (t:TE):Prop:=
 ∀ (pins:List (Addr×Obj)) (s:Shared) (σ:St) (H:Hp) (Q:VK),Inv X pins σ H s→t σ H Q →
  wpAny (model X.prog X.w) X.A (eval a X.env) (fun v s₁=>wpAny (model X.prog X.w) X.A (eval b X.env) (fun u s₂=>wpAny (model X.prog X.w) X.A (compareOp op v u) (EP X pins σ Q) X.xe s₂) X.xe s₁) X.xe s
theorem nobehind (b:Expr) {op:CmpOp}(h:op≠.In) (h2:op≠.NotIn):behindInMarks op b=false:=by
 have e1:(op==CmpOp.In)=false:=by cases op<;>first | rfl | exact absurd rfl h
 have e2:(op==CmpOp.NotIn)=false:=by cases op<;>first | rfl | exact absurd rfl h2
 cases b<;>simp [behindInMarks,e1,e2]
noncomputable def tB (t:TE):TT:=fun σ H Q=>t σ H fun x H1=>∃ c,x = .bl c∧Q c H1
theorem pt_cmp {op:CmpOp}{t:TE}(h:PC X op a b t) (h1:behindInMarks op b=false:=by first | exact nobehind _ (by decide) (by decide) | rfl):PT X (.Compare a [op] [b] pos) (tB t):=by
 intro pins s σ H Q I hw
 refine wpAny_isTrue_Compare1 (thn (h pins s σ H _ I hw) fun v s1 h1=>thn h1 fun u s2 h2=>thn h2 fun c s3 ⟨x,H1,I1,r1,q1⟩=>?_) h1
 obtain ⟨d,rfl,q⟩:=q1
 cases r1
 exact wpAny_truthy_bool ⟨H1,I1,q⟩
theorem pt_val {e:Expr}{t:TE}(h:PE X e t) (he:∀ whole,isTrue e X.env whole=(do let v ← whole;standAt e.pos;holding [v] (truthy v)):=by intro _;rfl):PT X e (tB t):=by
 intro pins s σ H Q I hw
 refine isTrue_plain (thn (h pins s σ H _ I hw) fun v s1 ⟨x,H1,I1,r1,q1⟩=>?_) (he _)
 obtain ⟨d,rfl,q⟩:=q1
 cases r1
 exact wpAny_truthy_bool ⟨H1,I1,q⟩
variable {tA tB':TT}{rest:List Expr}
noncomputable def tAnd (t u:TT):TT:=fun σ H Q=>t σ H fun c H1=>if c=true then u σ H1 Q else Q false H1
noncomputable def tOr (t u:TT):TT:=fun σ H Q=>t σ H fun c H1=>if c=true then Q true H1 else u σ H1 Q
noncomputable def tNot (t:TT):TT:=fun σ H Q=>t σ H fun c H1=>Q (!c) H1
theorem pw_and1 (ha:PT X a tA):PW X (.BoolOp .And [a] pos) tA:=by
 intro wh pins s σ H Q I h
 refine isTrue_and (thn (ha pins s σ H Q I h) fun c s1 e=>?_)
 cases c with
 | true=>exact isTrue_and_nil e
 | false=>exact e
theorem pw_or1 (ha:PT X a tA):PW X (.BoolOp .Or [a] pos) tA:=by
 intro wh pins s σ H Q I h
 refine isTrue_or (thn (ha pins s σ H Q I h) fun c s1 e=>?_)
 cases c with
 | false=>exact isTrue_or_nil e
 | true=>exact e
theorem pw_and (ha:PT X a tA) (hb:PW X (.BoolOp .And (b::rest) pos) tB'):PW X (.BoolOp .And (a::b::rest) pos) (tAnd tA tB'):=by
 intro wh pins s σ H Q I h
 refine isTrue_and (thn (ha pins s σ H _ I h) fun c s1 ⟨H1,I1,q1⟩=>?_)
 cases c with
 | true=>exact hb wh pins s1 σ H1 Q I1 q1
 | false=>exact ⟨H1,I1,q1⟩
theorem pw_or (ha:PT X a tA) (hb:PW X (.BoolOp .Or (b::rest) pos) tB'):PW X (.BoolOp .Or (a::b::rest) pos) (tOr tA tB'):=by
 intro wh pins s σ H Q I h
 refine isTrue_or (thn (ha pins s σ H _ I h) fun c s1 ⟨H1,I1,q1⟩=>?_)
 cases c with
 | true=>exact ⟨H1,I1,q1⟩
 | false=>exact hb wh pins s1 σ H1 Q I1 q1
theorem pt_not (ha:PT X a tA):PT X (.UnaryOp .Not a pos) (tNot tA):=by
 intro pins s σ H Q I h
 exact isTrue_not (ha pins s σ H (fun c H1=>Q (!c) H1) I h)
noncomputable def tAndV (ta tb:TE):TE:=fun σ H Q=>ta σ H fun x H1=>∃ c,x = .bl c∧if c=true then tb σ H1 Q else Q (.bl false) H1
noncomputable def tOrV (ta tb:TE):TE:=fun σ H Q=>ta σ H fun x H1=>∃ c,x = .bl c∧if c=true then Q (.bl true) H1 else tb σ H1 Q
noncomputable def tNotV (ta:TE):TE:=fun σ H Q=>ta σ H fun x H1=>∃ c,x = .bl c∧Q (.bl (!c)) H1
theorem pe_one {op} {t:TE}(h:PE X a t):PE X (.BoolOp op [a] pos) t:=fun pins s σ H Q I hw=>BoolOp_one (h pins s σ H Q I hw)
theorem pe_and (ha:PE X a ta) (hb:PE X (.BoolOp .And (b::rest) pos) tb):PE X (.BoolOp .And (a::b::rest) pos) (tAndV ta tb):=by
 intro pins s σ H Q I h
 refine BoolOp_and (thn (ha pins s σ H _ I h) fun v s1 ⟨x,H1,I1,r1,q1⟩=>?_)
 obtain ⟨c,rfl,q1⟩:=q1
 cases r1
 refine wpAny_truthy_bool ?_
 cases c with
 | true=>exact hb pins s1 σ H1 Q I1 q1
 | false=>exact ⟨.bl false,H1,I1,rfl,q1⟩
theorem pe_or (ha:PE X a ta) (hb:PE X (.BoolOp .Or (b::rest) pos) tb):PE X (.BoolOp .Or (a::b::rest) pos) (tOrV ta tb):=by
 intro pins s σ H Q I h
 refine BoolOp_or (thn (ha pins s σ H _ I h) fun v s1 ⟨x,H1,I1,r1,q1⟩=>?_)
 obtain ⟨c,rfl,q1⟩:=q1
 cases r1
 refine wpAny_truthy_bool ?_
 cases c with
 | false=>exact hb pins s1 σ H1 Q I1 q1
 | true=>exact ⟨.bl true,H1,I1,rfl,q1⟩
theorem pe_not (ha:PE X a ta):PE X (.UnaryOp .Not a pos) (tNotV ta):=by
 intro pins s σ H Q I h
 refine UnaryOp_ (thn (ha pins s σ H _ I h) fun v s1 ⟨x,H1,I1,r1,q1⟩=>?_)
 obtain ⟨c,rfl,q1⟩:=q1
 cases r1
 exact not_of (wpAny_truthy_bool ⟨.bl (!c),H1,I1,rfl,q1⟩)
noncomputable def tIf (t:TT) (ta tb:TE):TE:=fun σ H Q=>t σ H fun c H1=>if c=true then ta σ H1 Q else tb σ H1 Q
theorem pe_ifExp {c:Expr}(hc:PT X c tA) (ha:PE X a ta) (hb:PE X b tb):PE X (.IfExp c a b pos) (tIf tA ta tb):=by
 intro pins s σ H Q I h
 refine wpAny_IfExp (thn (hc pins s σ H _ I h) fun d s1 ⟨H1,I1,q1⟩=>?_)
 cases d with
 | true=>exact ha pins s1 σ H1 Q I1 q1
 | false=>exact hb pins s1 σ H1 Q I1 q1
end
noncomputable def SqL (K:PySem.W.Frag) (H:Hp) (a:Addr) (xs:List V):Prop:=
 Rd H a (.lst xs) ∨
  ∃ (o:Obj) (its:Array Value) (n:Nat),K.lookup a=some o∧o.cls = .type "list"∧o.dict=none∧o.data = .seq its n∧its.size≤sizeLine∧Vals xs its.toList
noncomputable def SqT (K:PySem.W.Frag) (H:Hp) (a:Addr) (xs:List V):Prop:=
 Rd H a (.tup xs) ∨
  ∃ (o:Obj) (its:Array Value) (n:Nat),K.lookup a=some o∧o.cls = .type "tuple"∧o.data = .seq its n∧its.size≤sizeLine∧Vals xs its.toList
noncomputable def absV:Value→Option V
 | .none=>some .non
 | .bool b=>some (.bl b)
 | .int i _=>some (.int i)
 | .str x _=>some (.str x)
 | .bytes b _=>some (.byt b)
 | .float b _=>some (.flt b)
 | .ref a=>some (.ref a)
 | .type n=>some (.ty n)
 | _=>none
theorem RelV.abs {x:V}{u:Value}(r:RelV x u):absV u=some x:=by
 cases x with
 | non=>cases r;rfl
 | bl _=>cases r;rfl
 | int _=>obtain ⟨t,rfl⟩:=r;rfl
 | str _=>obtain ⟨t,rfl⟩:=r;rfl
 | byt _=>obtain ⟨t,rfl⟩:=r;rfl
 | flt _=>obtain ⟨t,rfl⟩:=r;rfl
 | ref _=>cases r;rfl
 | ty _=>cases r;rfl
theorem RelV.inj {x y:V}{u:Value}(r:RelV x u) (q:RelV y u):x=y:=Option.some.inj (r.abs.symm.trans q.abs)
theorem Vals.inj:∀ {xs ys:List V}{us:List Value},Vals xs us→Vals ys us→xs=ys
 | _,_,_,.nil,.nil=>rfl
 | _,_,_,.cons r t,.cons r' t'=>by rw [r.inj r',Vals.inj t t']
section
variable {X:Cx}{pins:List (Addr×Obj)}{σ:St}{H:Hp}{s:Shared}{a:Addr}{xs ys:List V}
theorem SqL.of {K:PySem.W.Frag}(h:H a=some (.lst xs)):SqL K H a xs:=.inl (.inl h)
theorem SqT.of {K:PySem.W.Frag}(h:H a=some (.tup xs)):SqT K H a xs:=.inl (.inl h)
theorem Inv.list (I:Inv X pins σ H s) (h:SqL X.K H a xs):∃ its:List Value,Vals xs its∧PlainL s.heap a its.toArray∧xs.length≤sizeLine:=by
 rcases h with h | ⟨o,its,n,hk,hc,hd,hs,hz,r⟩
 · obtain ⟨z,its,n,r,e⟩:=h.ok I.hok
   exact ⟨its,r,⟨_,n,e,rfl,rfl,rfl⟩,z⟩
 · refine ⟨its.toList,r,⟨o,n,I.kIn a o hk,hc,hd,by simpa using hs⟩,?_⟩
   have e:=r.length
   simp only [Array.length_toList] at e
   omega
theorem Inv.tuple (I:Inv X pins σ H s) (h:SqT X.K H a xs):∃ its:List Value,Vals xs its∧IsTup s.heap a its.toArray∧xs.length≤sizeLine:=by
 rcases h with h | ⟨o,its,n,hk,hc,hs,hz,r⟩
 · obtain ⟨z,its,r,p⟩:=h.ok I.hok
   exact ⟨its,r,p,z⟩
 · refine ⟨its.toList,r,⟨o,I.kIn a o hk,hc,n,by simpa using hs⟩,?_⟩
   have e:=r.length
   simp only [Array.length_toList] at e
   omega
theorem Inv.list_inj (I:Inv X pins σ H s) (h:SqL X.K H a xs) (h':SqL X.K H a ys):xs=ys:=by
 obtain ⟨its,r,⟨o,n,e,_,_,d⟩,_⟩:=I.list h
 obtain ⟨its',r',⟨o',n',e',_,_,d'⟩,_⟩:=I.list h'
 rw [e] at e';cases e'
 rw [d] at d'
 injection d' with d1 _
 have:its=its':=by simpa using congrArg Array.toList d1
 subst this
 exact r.inj r'
theorem Inv.tuple_inj (I:Inv X pins σ H s) (h:SqT X.K H a xs) (h':SqT X.K H a ys):xs=ys:=by
 obtain ⟨its,r,⟨o,e,_,n,d⟩,_⟩:=I.tuple h
 obtain ⟨its',r',⟨o',e',_,n',d'⟩,_⟩:=I.tuple h'
 rw [e] at e';cases e'
 rw [d] at d'
 injection d' with d1 _
 have:its=its':=by simpa using congrArg Array.toList d1
 subst this
 exact r.inj r'
end
noncomputable abbrev Cx.wish (X:Cx) (E:Value→Shared→Prop):Cx:={ X with xe:=E }
noncomputable abbrev Cx.nox (X:Cx):Cx:=X.wish fun _ _=>False
theorem Cx.Ok.wish {X:Cx}(ok:X.Ok) (E:Value→Shared→Prop):(X.wish E).Ok:=
 ⟨ok.mod,ok.kind,ok.glob,ok.blt,ok.above,ok.inj,ok.has,ok.cab,ok.hd,ok.frames,ok.stk,ok.exf,ok.bs,ok.bsz,ok.noex,ok.exfs,ok.funs,ok.frf⟩
theorem Cx.Ok.unwish {X:Cx}{E:Value→Shared→Prop}(ok:(X.wish E).Ok):X.Ok:=
 ⟨ok.mod,ok.kind,ok.glob,ok.blt,ok.above,ok.inj,ok.has,ok.cab,ok.hd,ok.frames,ok.stk,ok.exf,ok.bs,ok.bsz,ok.noex,ok.exfs,ok.funs,ok.frf⟩
section
variable {X:Cx}{pins:List (Addr×Obj)}{σ:St}{H:Hp}{s:Shared}{E:Value→Shared→Prop}
theorem Inv.wish (I:Inv X pins σ H s) (E:Value→Shared→Prop):Inv (X.wish E) pins σ H s:=⟨I.ok.wish E,I.os,I.bare,I.base,I.loc,I.cell,I.free,I.freeC,I.pin,I.hok,I.len⟩
theorem Inv.unwish (I:Inv (X.wish E) pins σ H s):Inv X pins σ H s:=⟨I.ok.unwish,I.os,I.bare,I.base,I.loc,I.cell,I.free,I.freeC,I.pin,I.hok,I.len⟩
theorem SP.unwish {D:Ends}{f:Flow}{s':Shared}(h:SP (X.wish E) pins D f s'):SP X pins D f s':=by
 cases f with
 | next=>obtain ⟨σ',H',I,q⟩:=h;exact ⟨σ',H',I.unwish,q⟩
 | brk=>obtain ⟨σ',H',I,q⟩:=h;exact ⟨σ',H',I.unwish,q⟩
 | cont=>obtain ⟨σ',H',I,q⟩:=h;exact ⟨σ',H',I.unwish,q⟩
 | ret u=>obtain ⟨v,σ',H',I,r,q⟩:=h;exact ⟨v,σ',H',I.unwish,r,q⟩
theorem PSs.nox {st:List Stmt}{t:TS}(h:PSs X.nox st t):PSs X st t:=fun pins s σ H D I hw=>
 wpAny_mono (h pins s σ H D (I.wish _) hw) (fun _ _ q=>q.unwish) fun _ _ z=>False.elim z
end
section
variable {X:Cx}{st:Stmt}{rest:List Stmt}{t u:TS}{e:Expr}{te:TE}{pos:Pos}
noncomputable def tNext:TS:=fun D σ H=>D.nx σ H
noncomputable def tSeq (t u:TS):TS:=fun D σ H=>t { D with nx:=u D } σ H
theorem pss_nil:PSs X [] tNext:=fun _ _ σ H _ I h=>wpAny_execs_nil ⟨σ,H,I,h⟩
theorem pss_cons (h1:PS X st t) (h2:PSs X rest u):PSs X (st::rest) (tSeq t u):=by
 intro pins s σ H D I h
 refine wpAny_execs_cons (thn (h1 pins s σ H { D with nx:=u D } I h) fun f s1 q=>?_)
 cases f with
 | next=>
  obtain ⟨σ',H',I',q⟩:=q
  exact h2 pins s1 σ' H' D I' q
 | ret v=>exact q
 | brk=>exact q
 | cont=>exact q
theorem pss_one (h1:PS X st t):PSs X [st] t:=by
 intro pins s σ H D I h
 refine wpAny_execs_cons (thn (h1 pins s σ H D I h) fun f s1 q=>?_)
 cases f with
 | next=>exact wpAny_execs_nil q
 | ret v=>exact q
 | brk=>exact q
 | cont=>exact q
theorem Inv.quiet {pins:List (Addr×Obj)}{σ:St}{H:Hp}{s:Shared}(I:Inv X pins σ H s):interactive X.env=false:=by simp [interactive,I.ok.kind]
noncomputable def tDrop (te:TE):TS:=fun D σ H=>te σ H fun _ H1=>D.nx σ H1
theorem ps_expr (he:PE X e te) (hs:swapsWith e none pos.line X.env=pure false:=by rfl):PS X (.Expr e pos) (tDrop te):=by
 intro pins s σ H D I h
 exact wpAny_Expr_any (thn (he pins s σ H _ I h) fun v s1 ⟨x,H1,I1,r1,q1⟩=>⟨σ,H1,I1,q1⟩) I.quiet hs
noncomputable def tRet (te:TE):TS:=fun D σ H=>te σ H D.rt
theorem ps_ret (he:PE X e te):PS X (.Return (some e) pos) (tRet te):=by
 intro pins s σ H D I h
 exact wpAny_Return_some (thn (he pins s σ H _ I h) fun v s1 ⟨x,H1,I1,r1,q1⟩=>⟨x,σ,H1,I1,r1,q1⟩)
noncomputable def tIfS (c:TT) (t u:TS):TS:=fun D σ H=>c σ H fun b H1=>if b=true then t D σ H1 else u D σ H1
theorem ps_if {c:Expr}{a b:List Stmt}{tc:TT}(hc:PT X c tc) (ha:PSs X a t) (hb:PSs X b u):PS X (.If c a b pos) (tIfS tc t u):=by
 intro pins s σ H D I h
 refine wpAny_If (thn (hc pins s σ H _ I h) fun d s1 ⟨H1,I1,q1⟩=>?_)
 cases d with
 | true=>exact ha pins s1 σ H1 D I1 q1
 | false=>exact hb pins s1 σ H1 D I1 q1
noncomputable def tNever:TS:=fun _ _ _=>False
theorem pss_never {sts:List Stmt}:PSs X sts tNever:=fun _ _ _ _ _ _ h=>h.elim
end
noncomputable abbrev TG:=V→St→Hp→(St→Hp→Prop)→Prop
noncomputable abbrev TGs:=List V→St→Hp→(St→Hp→Prop)→Prop
noncomputable def PG (X:Cx) (target:Expr) (t:TG):Prop:=
 ∀ (pins:List (Addr×Obj)) (s:Shared) (σ:St) (H:Hp) (v:V) (u:Value) (Q:St→Hp→Prop),Inv X pins σ H s→RelV v u→t v σ H Q →
  wpAny (model X.prog X.w) X.A (assign target X.env u) (fun _ s'=>∃ σ' H',Inv X pins σ' H' s'∧Q σ' H') X.xe s
noncomputable def PGs (X:Cx) (ts:List Expr) (t:TGs):Prop:=
 ∀ (pins:List (Addr×Obj)) (s:Shared) (σ:St) (H:Hp) (vs:List V) (us:List Value) (Q:St→Hp→Prop),Inv X pins σ H s→Vals vs us→t vs σ H Q →
  wpAny (model X.prog X.w) X.A (assignInOrder ((assignEach ts X.env).map (·.2)) us) (fun _ s'=>∃ σ' H',Inv X pins σ' H' s'∧Q σ' H') X.xe s
noncomputable abbrev TSet:=V→V→V→Hp→(Hp→Prop)→Prop
noncomputable def PSet (X:Cx) (t:TSet):Prop:=
 ∀ (pins:List (Addr×Obj)) (s:Shared) (σ:St) (H:Hp) (o i v:V) (ov iv u:Value) (Q:Hp→Prop),Inv X pins σ H s→RelV o ov→RelV i iv→RelV v u→t o i v H Q →
  wpAny (model X.prog X.w) X.A (setItem ov iv u) (fun _ s'=>∃ H',Inv X pins σ H' s'∧Q H') X.xe s
noncomputable abbrev TIp:=V→V→Hp→VK→Prop
noncomputable def PIp (X:Cx) (op:Operator) (t:TIp):Prop:=
 ∀ (pins:List (Addr×Obj)) (s:Shared) (σ:St) (H:Hp) (x y:V) (v u:Value) (Q:VK),Inv X pins σ H s→RelV x v→RelV y u→t x y H Q →
  wpAny (model X.prog X.w) X.A (inplaceOp op v u) (EP X pins σ Q) X.xe s
section
variable {X:Cx}{pos:Pos}
noncomputable def gName (i:Nat):TG:=fun v σ H Q=>Q (σ.set i (some v)) H
theorem pg_name {i:Nat}{x:Str}(hN:X.N.Nodup) (hi:X.N[i]? = some x) (hx:Loc X.env.scope x) (hf:X.fn x=true∨X.env.scope.names.lookup x=some .local := by first | exact .inl rfl | exact .inr rfl | assumption):PG X (.Name x pos) (gName i):=by
 intro pins s σ H v u Q I r h
 exact wpAny_assign_Name (store_ok I hN hi hx r (fun s' I'=>⟨_,H,I',h⟩) hf)
noncomputable def gNil:TGs:=fun vs σ H Q=>vs=[]∧Q σ H
noncomputable def gCons (t:TG) (u:TGs):TGs:=fun vs σ H Q=>∃ v r,vs=v::r∧t v σ H fun σ' H'=>u r σ' H' Q
theorem pgs_nil:PGs X [] gNil:=by
 intro pins s σ H vs us Q I r h
 obtain ⟨e,h⟩:=h
 subst e
 cases r
 exact assignInOrder_nil ⟨σ,H,I,h⟩
theorem pgs_cons {e:Expr}{es:List Expr}{t:TG}{u:TGs}(h1:PG X e t) (h2:PGs X es u)
 (hs:(assignEach (e::es) X.env).map (·.2)=assign e X.env::(assignEach es X.env).map (·.2):=by rfl):PGs X (e::es) (gCons t u):=by
 intro pins s σ H vs us Q I r h
 obtain ⟨v,vr,e1,h⟩:=h
 subst e1
 cases r with
 | cons r rr=>
  rw [hs]
  refine assignInOrder_cons (thn (h1 pins s σ H _ _ _ I r h) fun _ s1 ⟨σ1,H1,I1,q1⟩=>?_)
  exact h2 pins s1 σ1 H1 _ _ Q I1 rr q1
noncomputable def gTup (K:PySem.W.Frag) (n:Nat) (t:TGs):TG:=fun v σ H Q=>∃ a xs,v = .ref a∧SqT K H a xs∧xs.length=n∧t xs σ H Q
theorem pg_tup {es:List Expr}{k:Nat}{t:TGs}{n:Nat}(hc:X.calm=true) (h:PGs X es t)
 (hn:(assignEach es X.env).length=n:=by rfl) (hst:(assignEach es X.env).findIdx? (·.1)=none:=by rfl):PG X (.Tuple es k pos) (gTup X.K n t):=by
 intro pins s σ H v u Q I r hw
 obtain ⟨a,xs,e1,hq,hl,hw⟩:=hw
 subst e1
 cases r
 obtain ⟨its,rv,ht,hz⟩:=I.tuple hq
 refine assign_Tuple_tuple (I.ok.hd hc) ht (by simp [hn,← hl,rv.length]) hst fun h' hx=>?_
 have I1:Inv X pins σ H { s with heap:=h' }:=I.kept (t':=s.toks) fun b o e=>hx b o (Nat.ne_of_lt (Heap.lt_size e)) e
 exact h pins _ σ H xs _ Q I1 (by simpa using rv) hw
noncomputable def gSub (to ti:TE) (t:TSet):TG:=fun v σ H Q=>to σ H fun o H1=>ti σ H1 fun i H2=>t o i v H2 fun H3=>Q σ H3
theorem pg_sub {o i:Expr}{to ti:TE}{t:TSet}(ho:PE X o to) (hi:PE X i ti) (hs:PSet X t)
 (ha:∀ v,assign (.Subscript o i pos) X.env v=(do
  let ov ← holding [v] (eval o X.env)
  let iv ← holding [v,ov] (eval i X.env)
  standAt pos
  holding [v,ov,iv] (setItem ov iv v)
  release [v,ov,iv] []):=by intro _;rfl):PG X (.Subscript o i pos) (gSub to ti t):=by
 intro pins s σ H v u Q I r h
 rw [ha]
 refine wpAny_bind (wpAny_holding (thn (ho pins s σ H _ I h) fun ov s1 ⟨x,H1,I1,r1,q1⟩=>?_))
 refine wpAny_bind (wpAny_holding (thn (hi pins s1 σ H1 _ I1 q1) fun iv s2 ⟨y,H2,I2,r2,q2⟩=>?_))
 refine wpAny_bind (wpAny_standAt (wpAny_bind (wpAny_holding (thn (hs pins s2 σ H2 x y v ov iv u _ I2 r1 r2 r q2) fun _ s3 ⟨H3,I3,q3⟩=>?_))))
 exact wpAny_release ⟨σ,H3,I3,q3⟩
noncomputable def tAsg (te:TE) (g:TG):TS:=fun D σ H=>te σ H fun x H1=>g x σ H1 D.nx
theorem ps_asg {tg e:Expr}{te:TE}{g:TG}(he:PE X e te) (hg:PG X tg g) (hs:swapsWithSole [tg] e pos.line X.env=pure false:=by rfl) (hw:swappedStores [tg] e X.env=pure none:=by rfl)
 (h1:(assignEach [tg] X.env).map (·.2)=[assign tg X.env]:=by rfl):PS X (.Assign [tg] e pos) (tAsg te g):=by
 intro pins s σ H D I h
 refine wpAny_Assign_stores (thn (he pins s σ H _ I h) fun v s1 ⟨x,H1,I1,r1,q1⟩=>?_) hs hw
 rw [h1]
 exact thn (hg pins s1 σ H1 x v _ I1 r1 q1) fun _ s2 q=>q
theorem ps_set {i:Nat}{x:Str}{e:Expr}{te:TE}{pos':Pos}(hN:X.N.Nodup) (hi:X.N[i]? = some x) (hx:Loc X.env.scope x) (he:PE X e te) (hs:swapsWith e (some (.Name x pos')) pos.line X.env=pure false:=by rfl) (hf:X.fn x=true∨X.env.scope.names.lookup x=some .local := by first | exact .inl rfl | exact .inr rfl | assumption) :
 PS X (.Assign [.Name x pos'] e pos) (tAsg te (gName i)):=by
 intro pins s σ H D I h
 refine wpAny_Assign_Name (thn (he pins s σ H _ I h) fun v s1 ⟨y,H1,I1,r1,q1⟩=>?_) hs
 exact store_ok I1 hN hi hx r1 (fun s2 I2=>⟨_,H1,I2,q1⟩) hf
noncomputable def tAugS (to ti te:TE) (tget:V→V→Hp→VK→Prop) (tip:TIp) (tset:TSet):TS:=fun D σ H=>to σ H fun o H1=>ti σ H1 fun i H2=>tget o i H2 fun x H3=>te σ H3 fun y H4=>tip x y H4 fun z H5=>tset o i z H5 fun H6=>D.nx σ H6
noncomputable def PGet (X:Cx) (t:V→V→Hp→VK→Prop):Prop:=
 ∀ (pins:List (Addr×Obj)) (s:Shared) (σ:St) (H:Hp) (o i:V) (ov iv:Value) (Q:VK),Inv X pins σ H s→RelV o ov→RelV i iv→t o i H Q →
  wpAny (model X.prog X.w) X.A (getItem ov iv) (EP X pins σ Q) X.xe s
theorem ps_augS {o i e:Expr}{to ti te:TE}{tget:V→V→Hp→VK→Prop}{tip:TIp}{tset:TSet}{op:Operator}{tpos:Pos}(ho:PE X o to) (hi:PE X i ti) (hg:PGet X tget) (he:PE X e te) (hp:PIp X op tip) (hs:PSet X tset)
 (ha:∀ ov iv new,augStore i ov iv new=(do holding [new,ov,iv] (setItem ov iv new);release [new,ov,iv] [];pure .next):=by intros;rfl):PS X (.AugAssign (.Subscript o i tpos) op e pos) (tAugS to ti te tget tip tset):=by
 intro pins s σ H D I h
 refine wpAny_AugAssign_SubscriptAny (thn (ho pins s σ H _ I h) fun ov s1 ⟨x1,H1,I1,r1,q1⟩=>?_) ha
 refine thn (hi pins s1 σ H1 _ I1 q1) fun iv s2 ⟨x2,H2,I2,r2,q2⟩=>?_
 refine thn (hg pins s2 σ H2 x1 x2 ov iv _ I2 r1 r2 q2) fun old s3 ⟨x3,H3,I3,r3,q3⟩=>?_
 refine thn (he pins s3 σ H3 _ I3 q3) fun v s4 ⟨x4,H4,I4,r4,q4⟩=>?_
 refine thn (hp pins s4 σ H4 x3 x4 old v _ I4 r3 r4 q4) fun new s5 ⟨x5,H5,I5,r5,q5⟩=>?_
 exact thn (hs pins s5 σ H5 x1 x2 x5 ov iv new _ I5 r1 r2 r5 q5) fun _ s6 ⟨H6,I6,q6⟩=>⟨σ,H6,I6,q6⟩
noncomputable def ipI (f:Int→Int→Int):TIp:=fun x y H Q=>∃ i j,x = .int i∧y = .int j∧Q (.int (f i j)) H
theorem ip_sub:PIp X .Sub (ipI fun i j=>i-j):=by
 intro pins s σ H x y v u Q I r1 r2 h
 obtain ⟨i,j,e1,e2,q⟩:=h
 subst e1;subst e2
 obtain ⟨t,rfl⟩:=r1
 obtain ⟨t',rfl⟩:=r2
 exact isub_int ⟨.int _,H,I.tok _,⟨_,rfl⟩,q⟩
end
section
variable {X:Cx}{pos:Pos}
noncomputable def tWhile (c:TT) (tb:TS):TS:=fun D σ H=>∃ W:Nat→St→Hp→Prop,(∃ m,W m σ H)∧∀ m σ H,W m σ H →
 c σ H fun b H1=>if b=true then ∃ N:St→Hp→Prop,(∀ σ' H',N σ' H'→∃ m',m'<m∧W m' σ' H')∧tb { D with nx:=N,ct:=N,bk:=D.nx } σ H1 else D.nx σ H1
theorem ps_while {c:Expr}{body:List Stmt}{tc:TT}{tb:TS}(hp:PassesOwn (model X.prog X.w) X.A X.env X.xe) (hc:PT X c tc) (hb:PSs X body tb):PS X (.While c body [] pos) (tWhile tc tb):=by
 intro pins s σ H D I h
 obtain ⟨W,⟨m0,w0⟩,turn⟩:=h
 refine wpAny_While (codeAny_whileLoop (fun n s'=>∃ σ' H',Inv X pins σ' H' s'∧W n σ' H') ?_ m0 ⟨σ,H,I,w0⟩)
 rintro n s1 ⟨σ1,H1,I1,w1⟩
 refine wpAny_passesOwn hp (thn (hc pins s1 σ1 H1 _ I1 (turn n σ1 H1 w1)) fun b s2 ⟨H2,I2,q2⟩=>?_)
 cases b with
 | true=>
  obtain ⟨N,hN,q2⟩:=q2
  rw [if_pos rfl]
  refine wpAny_passesOwn hp (thn (hb pins s2 σ1 H2 _ I2 q2) fun f s3 q3=>?_)
  cases f with
  | next=>
   obtain ⟨σ3,H3,I3,n3⟩:=q3
   obtain ⟨m',hm,w3⟩:=hN σ3 H3 n3
   exact ⟨m',hm,σ3,H3,I3,w3⟩
  | cont=>
   obtain ⟨σ3,H3,I3,n3⟩:=q3
   obtain ⟨m',hm,w3⟩:=hN σ3 H3 n3
   exact ⟨m',hm,σ3,H3,I3,w3⟩
  | brk=>exact q3
  | ret v=>exact q3
 | false=>
  rw [if_neg Bool.false_ne_true]
  exact wpAny_execs_nil ⟨σ1,H2,I2,q2⟩
end
structure It where
 go:Nat→Hp→Prop
 yld:Nat→Hp→V→Hp→Prop
 stop:Nat→Hp→Prop
noncomputable def FpOk (X:Cx) (pins:List (Addr×Obj)) (H:Hp) (b:Addr):Prop:=
 H b=none∧b≠X.env.locals∧b∉X.fs∧(b∈X.ex∨X.s₀.heap.objs.size≤b)∧(∀ x c,X.env.cells.lookup x=some c→c≠b)∧∀ p∈X.pn++pins,p.1≠b
theorem Inv.fpOk {X:Cx}{pins:List (Addr×Obj)}{σ:St}{H H':Hp}{s:Shared}{b:Addr}(I:Inv X pins σ H s) (hb:s.heap.objs.size≤b) (hn:H' b=none):FpOk X pins H' b:=by
 refine ⟨hn,Nat.ne_of_gt (Nat.lt_of_lt_of_le I.lt hb),I.nofs hb,.inr (Nat.le_trans I.sz hb),fun x c e z=>?_,fun p hp z=>?_⟩
 · obtain ⟨v,q⟩:=I.cell x c e
   exact absurd (Nat.lt_of_lt_of_le q.lt (by rw [z];exact hb)) (Nat.lt_irrefl _)
 · exact absurd (Nat.lt_of_lt_of_le (Heap.lt_size (I.pin p hp).1) (by rw [z];exact hb)) (Nat.lt_irrefl _)
structure Turn (P:Program) (w:World) (K:PySem.W.Frag) (tg:Expr) (J:It) (fp:List Addr) (it:Addr) (tn:Nat→Heap→Prop):Prop where
 mem:it∈fp
 obj:∀ i h,tn i h→∀ b∈fp,∃ o,h.get? b=some o∧∀ v,o.data≠.cell v
 keep:∀ i h h',tn i h→(∀ b∈fp,∀ o,h.get? b=some o→h'.get? b=some o)→tn i h'
 item:∀ (X:Cx),X.prog=P→X.w=w→X.K=K→X.calm=true→∀ (i:Nat) (pins:List (Addr×Obj)) (s:Shared) (σ:St) (H:Hp) (E:Value→Shared→Prop),Inv X pins σ H s→(∀ b∈fp,FpOk X pins H b)→tn i s.heap→J.go i H →
  wpAny (model P w) X.A (pyNext (.ref it)) (fun r s1=>∃ u,r=some u ∧
   wpAny (model P w) X.A (letOwnedTupleGo tg (.ref it) u) (fun _ s2=>∃ x H',Inv X pins σ H' s2∧RelV x u∧J.yld i H x H'∧tn (i+1) s2.heap∧∀ b∈fp,H' b=none) E s1) E s
 done:∀ (X:Cx),X.prog=P→X.w=w→X.K=K→X.calm=true→∀ (i:Nat) (pins:List (Addr×Obj)) (s:Shared) (σ:St) (H:Hp) (E:Value→Shared→Prop),Inv X pins σ H s→(∀ b∈fp,FpOk X pins H b)→tn i s.heap→J.stop i H →
  wpAny (model P w) X.A (pyNext (.ref it)) (fun r s1=>r=none∧Inv X pins σ H s1) E s
 self:∀ (A:Around) (i:Nat) (s:Shared) (Q:Value→Shared→Prop) (E:Value→Shared→Prop),tn i s.heap→Q (.ref it) s→wpAny (model P w) A (pyIter (.ref it)) Q E s
noncomputable abbrev TI:=St→Hp→(It→Hp→Prop)→Prop
noncomputable def PIE (X:Cx) (pins:List (Addr×Obj)) (σ:St) (tg:Expr) (R:It→Hp→Prop) (itv:Value) (s2:Shared):Prop:=
 ∃ (it:Addr) (fp:List Addr) (tn:Nat→Heap→Prop) (J:It) (H':Hp),itv = .ref it∧Inv X pins σ H' s2∧Turn X.prog X.w X.K tg J fp it tn∧tn 0 s2.heap∧(∀ b∈fp,FpOk X pins H' b)∧R J H'
noncomputable def PI (X:Cx) (tg iter:Expr) (wi:TI):Prop:=
 ∀ (pins:List (Addr×Obj)) (s:Shared) (σ:St) (H:Hp) (R:It→Hp→Prop),Inv X pins σ H s→wi σ H R →
  wpAny (model X.prog X.w) X.A (eval iter X.env) (fun v s1=>wpAny (model X.prog X.w) X.A (pyIter v) (PIE X pins σ tg R) X.xe s1) X.xe s
theorem go_of {M:Model}{A:Around}{E:Value→Shared→Prop}{s:Shared}{tg:Expr}{it:Addr}{u:Value}{o:Obj}{n:String}{vs:Array Value}{Q:Unit→Shared→Prop}(ho:s.heap.get? it=some o) (hc:o.cls = .type n) (hd:o.data = .fields vs)
 (hn:["enumerate","zip","dict_itemiterator","dict_reverseitemiterator","odict_iterator","itertools.zip_longest","itertools.pairwise"].contains n=false) (hQ:Q () s):wpAny M A (letOwnedTupleGo tg (.ref it) u) Q E s:=by
 unfold letOwnedTupleGo
 cases tg<;>first
  | exact wpAny_pure hQ
  | (cases u<;>first
   | exact wpAny_pure hQ
   | (refine wpAny_bind (wpAny_load ho ?_)
      rw [hc,hd]
      show wpAny M A (if (["enumerate","zip","dict_itemiterator","dict_reverseitemiterator","odict_iterator","itertools.zip_longest","itertools.pairwise"].contains n&&vs[0]? == some (rawInt _))=true then _ else _) Q E s
      rw [if_neg (by intro h;rw [hn,Bool.false_and] at h;cases h)]
      exact wpAny_pure hQ))
noncomputable def Itl (K:PySem.W.Frag) (a:Addr):It:=
 ⟨fun i H=>∃ xs x,SqL K H a xs∧xs[i]? = some x,fun i H x H'=>H'=H∧∀ xs,SqL K H a xs→xs[i]? = some x,fun i H=>∃ xs,SqL K H a xs∧xs.length≤i⟩
noncomputable def Itt (K:PySem.W.Frag) (a:Addr):It:=
 ⟨fun i H=>∃ xs x,SqT K H a xs∧xs[i]? = some x,fun i H x H'=>H'=H∧∀ xs,SqT K H a xs→xs[i]? = some x,fun i H=>∃ xs,SqT K H a xs∧xs.length≤i⟩
noncomputable def Itr (lo:Int) (n:Nat):It:=⟨fun i _=>i<n,fun i H x H'=>H'=H∧x = .int (lo+i),fun i _=>n≤i⟩
theorem turn_list {P:Program}{w:World}{K:PySem.W.Frag}{tg:Expr}(a it:Addr):Turn P w K tg (Itl K a) [it] it (fun i h=>h.IsListIter it a i) where
 mem:=by simp
 obj:=fun i h st b hb=>by
  have e:b=it:=by simpa using hb
  subst e
  obtain ⟨o,e,c,d⟩:=st
  exact ⟨o,e,fun v z=>by rw [d] at z;cases z⟩
 keep:=fun i h h' st k=>st.at fun o e=>k it (by simp) o e
 item:=by
  intro X hP hw hK hc i pins s σ H E I hf st hg
  subst hP hw hK
  obtain ⟨xs,x,hq,hx⟩:=hg
  obtain ⟨its,rv,p,hz⟩:=I.list hq
  obtain ⟨u,hu,ru⟩:=rv.get hx
  obtain ⟨f0,f1,f2,f3,f4,f5⟩:=hf it (by simp)
  refine wpAny_pyNext_list_item st p.isList (x:=u) (by simpa using hu) fun h' st' sb=>?_
  have I1:Inv X pins σ H { s with heap:=h' }:=I.turned (t':=s.toks) (fun b o hb e=>(sb.2 b hb).trans e) f0 f1 f3 f4 f5
  obtain ⟨o,e,c,d⟩:=id st'
  exact ⟨u,rfl,go_of (s:={ s with heap:=h' }) e c d (by decide) ⟨x,H,I1,ru,⟨rfl,fun ys hy=>by rw [I.list_inj hy hq];exact hx⟩,st',fun b hb=>(hf b hb).1⟩⟩
 done:=by
  intro X hP hw hK hc i pins s σ H E I hf st hg
  subst hP hw hK
  obtain ⟨xs,hq,hx⟩:=hg
  obtain ⟨its,rv,p,hz⟩:=I.list hq
  obtain ⟨f0,f1,f2,f3,f4,f5⟩:=hf it (by simp)
  have hl:=rv.length
  exact wpAny_pyNext_list_end (I.ok.hd hc) st p.isList (by simp;omega) fun h' eb=>⟨rfl,I.turned (t':=s.toks) (fun b o hb e=>eb b o hb e) f0 f1 f3 f4 f5⟩
 self:=fun _ _ _ _ _ st h=>wpAny_pyIter_listiter st h
theorem turn_tuple {P:Program}{w:World}{K:PySem.W.Frag}{tg:Expr}(a it:Addr):Turn P w K tg (Itt K a) [it] it (fun i h=>h.IsTupleIter it a i) where
 mem:=by simp
 obj:=fun i h st b hb=>by
  have e:b=it:=by simpa using hb
  subst e
  obtain ⟨o,e,c,d⟩:=st
  exact ⟨o,e,fun v z=>by rw [d] at z;cases z⟩
 keep:=fun i h h' st k=>st.at fun o e=>k it (by simp) o e
 item:=by
  intro X hP hw hK hc i pins s σ H E I hf st hg
  subst hP hw hK
  obtain ⟨xs,x,hq,hx⟩:=hg
  obtain ⟨its,rv,p,hz⟩:=I.tuple hq
  obtain ⟨u,hu,ru⟩:=rv.get hx
  obtain ⟨f0,f1,f2,f3,f4,f5⟩:=hf it (by simp)
  refine wpAny_pyNext_tuple_item st (show s.heap.IsTuple a its.toArray from p) (x:=u) (by simpa using hu) fun h' st' sb=>?_
  have I1:Inv X pins σ H { s with heap:=h' }:=I.turned (t':=s.toks) (fun b o hb e=>(sb.2 b hb).trans e) f0 f1 f3 f4 f5
  obtain ⟨o,e,c,d⟩:=id st'
  exact ⟨u,rfl,go_of (s:={ s with heap:=h' }) e c d (by decide) ⟨x,H,I1,ru,⟨rfl,fun ys hy=>by rw [I.tuple_inj hy hq];exact hx⟩,st',fun b hb=>(hf b hb).1⟩⟩
 done:=by
  intro X hP hw hK hc i pins s σ H E I hf st hg
  subst hP hw hK
  obtain ⟨xs,hq,hx⟩:=hg
  obtain ⟨its,rv,p,hz⟩:=I.tuple hq
  obtain ⟨f0,f1,f2,f3,f4,f5⟩:=hf it (by simp)
  have hl:=rv.length
  exact wpAny_pyNext_tuple_end (I.ok.hd hc) st (show s.heap.IsTuple a its.toArray from p) (by simp;omega) fun h' eb=>⟨rfl,I.turned (t':=s.toks) (fun b o hb e=>eb b o hb e) f0 f1 f3 f4 f5⟩
 self:=fun _ _ _ _ _ st h=>wpAny_pyIter_tupleiter st h
theorem turn_range {P:Program}{w:World}{K:PySem.W.Frag}{tg:Expr}(it:Addr) (lo:Int) (n:Nat):Turn P w K tg (Itr lo n) [it] it (fun i h=>IsRangeIter h it (lo+(i:Nat)*1) ((n:Int)-(i:Nat)) 1) where
 mem:=by simp
 obj:=fun i h st b hb=>by
  have e:b=it:=by simpa using hb
  subst e
  exact ⟨_,st,fun v z=>by
   have z':Data.fields _=Data.cell v:=z
   cases z'⟩
 keep:=fun i h h' st k=>k it (by simp) _ st
 item:=by
  intro X hP hw hK hc i pins s σ H E I hf st hg
  subst hP hw hK
  obtain ⟨f0,f1,f2,f3,f4,f5⟩:=hf it (by simp)
  have W:=Walks.range (prog:=X.prog) (w:=X.w) (I.ok.hd hc) it lo 1 n
  refine W.item i s _ _ hg st fun v h' tk hv st' kk=>?_
  obtain ⟨t,rfl⟩:=hv
  have I1:Inv X pins σ H { s with heap:=h',toks:=tk }:=I.turned (fun b o hb e=>kk b o (by simpa using hb) e) f0 f1 f3 f4 f5
  refine ⟨_,rfl,go_of (s:={ s with heap:=h',toks:=tk }) (n:="range_iterator") st' rfl rfl (by decide) ⟨.int (lo+i),H,I1,⟨t,?_⟩,⟨rfl,rfl⟩,st',fun b hb=>(hf b hb).1⟩⟩
  rw [Int.mul_one]
 done:=by
  intro X hP hw hK hc i pins s σ H E I hf st hg
  subst hP hw hK
  obtain ⟨f0,f1,f2,f3,f4,f5⟩:=hf it (by simp)
  exact wpAny_pyNext_range_end (I.ok.hd hc) st (by have:n≤i:=hg;omega) fun h' eb=>⟨rfl,I.turned (t':=s.toks) (fun b o hb e=>eb b o hb e) f0 f1 f3 f4 f5⟩
 self:=fun _ _ _ _ _ st h=>wpAny_pyIter_rangeiter st h
section
variable {X:Cx}{tg:Expr}
noncomputable def iList (K:PySem.W.Frag) (tl:TE):TI:=fun σ H R=>tl σ H fun x H1=>∃ a,x = .ref a∧(∃ xs,SqL K H1 a xs)∧R (Itl K a) H1
noncomputable def iTup (K:PySem.W.Frag) (tl:TE):TI:=fun σ H R=>tl σ H fun x H1=>∃ a,x = .ref a∧(∃ xs,SqT K H1 a xs)∧R (Itt K a) H1
theorem pi_list {l:Expr}{tl:TE}(hl:PE X l tl):PI X tg l (iList X.K tl):=by
 intro pins s σ H R I h
 refine thn (hl pins s σ H _ I h) fun v s1 ⟨x,H1,I1,r1,q1⟩=>?_
 obtain ⟨a,e,⟨xs,hq⟩,q⟩:=q1
 subst e
 cases r1
 obtain ⟨its,rv,p,hz⟩:=I1.list hq
 refine wpAny_pyIter_list p.isList ?_
 refine ⟨s1.heap.objs.size,[s1.heap.objs.size],_,_,H1,rfl,I1.kept (t':=s1.toks) fun b o e=>Heap.get?_push_of_some _ e,turn_list a _,⟨_,Heap.get?_push_size _ rfl,rfl,rfl⟩,fun b hb=>?_,q⟩
 have e:b=s1.heap.objs.size:=by simpa using hb
 subst e
 exact I1.fpOk (Nat.le_refl _) (I1.hok.fresh (Nat.le_refl _))
theorem pi_tup {l:Expr}{tl:TE}(hl:PE X l tl):PI X tg l (iTup X.K tl):=by
 intro pins s σ H R I h
 refine thn (hl pins s σ H _ I h) fun v s1 ⟨x,H1,I1,r1,q1⟩=>?_
 obtain ⟨a,e,⟨xs,hq⟩,q⟩:=q1
 subst e
 cases r1
 obtain ⟨its,rv,p,hz⟩:=I1.tuple hq
 refine wpAny_pyIter_tuple (show s1.heap.IsTuple a its.toArray from p) ?_
 refine ⟨s1.heap.objs.size,[s1.heap.objs.size],_,_,H1,rfl,I1.kept (t':=s1.toks) fun b o e=>Heap.get?_push_of_some _ e,turn_tuple a _,⟨_,Heap.get?_push_size _ rfl,rfl,rfl⟩,fun b hb=>?_,q⟩
 have e:b=s1.heap.objs.size:=by simpa using hb
 subst e
 exact I1.fpOk (Nat.le_refl _) (I1.hok.fresh (Nat.le_refl _))
theorem range_it {pins:List (Addr×Obj)}{σ:St}{H:Hp}{s:Shared}{R:It→Hp→Prop}{E:Value→Shared→Prop}{lo hi:Int}{t u v:Tok}{tk:Nat}(I:Inv X pins σ H s) (h1:-(2^62)≤lo) (h2:lo<2^62) (h3:-(2^62)≤hi) (h4:hi<2^62)
 (q:R (Itr lo (hi-lo).toNat) H):wpAny (model X.prog X.w) X.A (pyIter (.ref s.heap.objs.size)) (PIE X pins σ tg R) E { s with heap:=s.heap.push { cls:=.type "range",data:=.fields #[.int lo t,.int hi u,.int 1 v] },toks:=tk }:=by
 refine wpAny_pyIter_range (IsRange.new ..) (small_one h1 h2 h3 h4) ?_
 have I1:Inv X pins σ H { s with heap:=s.heap.push { cls:=.type "range",data:=.fields #[.int lo t,.int hi u,.int 1 v] },toks:=tk }:=I.kept fun b o e=>Heap.get?_push_of_some _ e
 refine ⟨(s.heap.push { cls:=.type "range",data:=.fields #[.int lo t,.int hi u,.int 1 v] }).objs.size,[(s.heap.push { cls:=.type "range",data:=.fields #[.int lo t,.int hi u,.int 1 v] }).objs.size],_,_,H,rfl,
  I1.kept (t':=tk) fun b o e=>Heap.get?_push_of_some _ e,turn_range _ lo (hi-lo).toNat,?_,fun b hb=>?_,q⟩
 · have e1:lo+((0:Nat):Int)*1=lo:=by simp
   have e2:(((hi-lo).toNat:Nat):Int)-((0:Nat):Int)=Builtin.Range.rangeSize lo hi 1:=by rw [rangeSize_one];split<;>omega
   show IsRangeIter _ _ (lo+((0:Nat):Int)*1) ((((hi-lo).toNat:Nat):Int)-((0:Nat):Int)) 1
   rw [e1,e2]
   exact Heap.get?_push_size _ rfl
 · have e:b=(s.heap.push { cls:=.type "range",data:=.fields #[.int lo t,.int hi u,.int 1 v] }).objs.size:=by simpa using hb
   subst e
   exact I1.fpOk (Nat.le_refl _) (I1.hok.fresh (Nat.le_refl _))
noncomputable def iRng1 (ta:TA):TI:=fun σ H R=>ta σ H fun vs H1=>∃ j:Int,vs=[.int j]∧-(2^62)≤j∧j<2^62∧R (Itr 0 j.toNat) H1
theorem pi_range1 {a:Expr}{ta:TA}{p pos:Pos}(hg:Gl X "range") (hm:X.mg "range" = none) (ha:PA X [a] ta) (hs:starEach [a] X.env=[(false,eval a X.env)]:=by rfl):PI X tg (.Call (.Name "range" p) [a] [] pos) (iRng1 ta):=by
 intro pins s σ H R I h
 refine Call_ (ld_blt I hg hm boot_range (PyProof.Rows.callWith_type1 (thn (ha pos pins s σ H _ I h) fun us s1 ⟨vs,H1,I1,r1,q1⟩=>?_) hs rfl))
 obtain ⟨j,e,q1,q2,q⟩:=q1
 subst e
 cases r1 with
 | cons r rr=>
  cases rr
  obtain ⟨t,rfl⟩:=r
  exact call_range_1 (range_it I1 (by omega) (by omega) q1 q2 (by simpa using q))
noncomputable def tFor (wi:TI) (g:TG) (tb:TS):TS:=fun D σ H=>wi σ H fun J H1=>∃ W:Nat→Nat→St→Hp→Prop,(∃ m,W 0 m σ H1)∧∀ i m σ H,W i m σ H →
 (J.stop i H∧D.nx σ H)∨(J.go i H∧∃ N:St→Hp→Prop,(∀ σ' H',N σ' H'→∃ m',m'<m∧W (i+1) m' σ' H')∧∀ x H',J.yld i H x H'→g x σ H' fun σ2 H2=>tb { D with nx:=N,ct:=N,bk:=D.nx } σ2 H2)
noncomputable def pinsAt (fp:List Addr) (h:Heap):List (Addr×Obj):=fp.filterMap fun b=>(h.get? b).map fun o=>(b,o)
theorem mem_pinsAt {fp:List Addr}{h:Heap}{b:Addr}{o:Obj}(hb:b∈fp) (e:h.get? b=some o):(b,o)∈pinsAt fp h:=List.mem_filterMap.mpr ⟨b,hb,by rw [e];rfl⟩
theorem of_pinsAt {fp:List Addr}{h:Heap}{p:Addr×Obj}(hp:p∈pinsAt fp h):p.1∈fp∧h.get? p.1=some p.2:=by
 obtain ⟨b,hb,e⟩:=List.mem_filterMap.mp hp
 cases q:h.get? b with
 | none=>rw [q] at e;cases e
 | some o=>
  rw [q] at e
  have e':(b,o)=p:=Option.some.inj e
  subst e'
  exact ⟨hb,q⟩
theorem Inv.pinned {pins:List (Addr×Obj)}{σ:St}{H:Hp}{s:Shared}{fp:List Addr}(I:Inv X pins σ H s) (hf:∀ b∈fp,FpOk X pins H b) (ho:∀ b∈fp,∃ o,s.heap.get? b=some o∧∀ v,o.data≠.cell v):Inv X (pins++pinsAt fp s.heap) σ H s:=
 I.pins_of fun p hp=>(List.mem_append.mp hp).elim (fun z=>I.pin p (List.mem_append_right _ z)) fun z=>by
  obtain ⟨hb,e⟩:=of_pinsAt z
  obtain ⟨f0,f1,f2,_⟩:=hf p.1 hb
  obtain ⟨o,e',d⟩:=ho p.1 hb
  rw [e] at e';cases e'
  exact ⟨e,f0,f1,f2,d⟩
theorem Inv.unpinned {pins pl:List (Addr×Obj)}{σ:St}{H:Hp}{s:Shared}(I:Inv X (pins++pl) σ H s):Inv X pins σ H s:=I.pins_of fun p hp=>I.pin p (List.mem_append_right _ (List.mem_append_left _ hp))
theorem ps_for {iter:Expr}{body:List Stmt}{wi:TI}{g:TG}{tb:TS}{pos:Pos}(hp:PassesOwn (model X.prog X.w) X.A X.env X.xe) (hc:X.calm=true) (hi:PI X tg iter wi) (hg:PG X tg g) (hb:PSs X body tb)
 (hs:∀ x,foldedSetIterable iter X.env x=pure x:=by intro _;rfl):PS X (.For tg iter body [] pos) (tFor wi g tb):=by
 intro pins s σ H D I h
 refine wpAny_For (thn (hi pins s σ H _ I h) fun v s1 h1=>thn h1 fun itv s2 h2=>?_) hs
 obtain ⟨it,fp,tn,J,H2,e,I2,T,st2,f2,W,⟨m0,w0⟩,turn⟩:=h2
 subst e
 -- what stays true of the iterator's objects through the loop
 have stat:∀ {H':Hp},(∀ b∈fp,H' b=none)→∀ b∈fp,FpOk X pins H' b:=fun hn b hb=>⟨hn b hb,(f2 b hb).2⟩
 refine codeAny_forLoop_any (fun n s'=>∃ i σ' H',Inv X pins σ' H' s'∧tn i s'.heap∧(∀ b∈fp,H' b=none)∧W i n σ' H') ?_ m0 ⟨0,σ,H2,I2,st2,fun b hb=>(f2 b hb).1,w0⟩
 rintro n s3 ⟨i,σ3,H3,I3,st3,fr3,w3⟩
 rcases turn i n σ3 H3 w3 with ⟨stop,qn⟩ | ⟨go,N,hN,step⟩
 · refine wpAny_passesOwn hp (thn (T.done X rfl rfl rfl hc i pins s3 σ3 H3 X.xe I3 (stat fr3) st3 stop) fun r s4 ⟨hr,I4⟩=>?_)
   subst hr
   exact wpAny_execs_nil ⟨σ3,H3,I4,qn⟩
 · refine wpAny_passesOwn hp (thn (T.item X rfl rfl rfl hc i pins s3 σ3 H3 X.xe I3 (stat fr3) st3 go) fun r s4 ⟨u,hr,h4⟩=>?_)
   subst hr
   refine wpAny_passesOwn hp (thn h4 fun _ s5 ⟨x,H5,I5,r5,y5,st5,fr5⟩=>?_)
   have I5':=I5.pinned (stat fr5) (T.obj _ _ st5)
   refine wpAny_passesOwn hp (thn (hg _ s5 σ3 H5 x u _ I5' r5 (step x H5 y5)) fun _ s6 ⟨σ6,H6,I6,q6⟩=>?_)
   refine wpAny_passesOwn hp (thn (hb _ s6 σ6 H6 _ I6 q6) fun f s7 q7=>?_)
   have again:∀ {σ7:St} {H7:Hp},Inv X (pins++pinsAt fp s5.heap) σ7 H7 s7→N σ7 H7→∃ m,m<n∧∃ i σ' H',Inv X pins σ' H' s7∧tn i s7.heap∧(∀ b∈fp,H' b=none)∧W i m σ' H':=fun {σ7 H7} I7 n7=>by
    obtain ⟨m',hm,w7⟩:=hN σ7 H7 n7
    refine ⟨m',hm,i+1,σ7,H7,I7.unpinned,T.keep _ _ _ st5 fun b hb o e=>(I7.pin (b,o) (List.mem_append_right _ (List.mem_append_right _ (mem_pinsAt hb e)))).1,fun b hb=>?_,w7⟩
    obtain ⟨o,e,d⟩:=T.obj _ _ st5 b hb
    exact (I7.pin (b,o) (List.mem_append_right _ (List.mem_append_right _ (mem_pinsAt hb e)))).2.1
   cases f with
   | next=>obtain ⟨σ7,H7,I7,n7⟩:=q7;exact again I7 n7
   | cont=>obtain ⟨σ7,H7,I7,n7⟩:=q7;exact again I7 n7
   | brk=>obtain ⟨σ7,H7,I7,q7⟩:=q7;exact ⟨σ7,H7,I7.unpinned,q7⟩
   | ret v=>obtain ⟨x7,σ7,H7,I7,r7,q7⟩:=q7;exact ⟨x7,σ7,H7,I7.unpinned,r7,q7⟩
end
theorem for_list {K:PySem.W.Frag}{a:Addr}{xs:List V}{g:TG}{tb:TS}{D:Ends}{σ:St}{H:Hp}(Pv:Nat→St→Hp→Prop) (h0:Pv 0 σ H) (hl:∀ i σ H,i≤xs.length→Pv i σ H→SqL K H a xs)
 (hs:∀ i x σ H,xs[i]? = some x→Pv i σ H→g x σ H fun σ2 H2=>tb { D with nx:=Pv (i+1),ct:=Pv (i+1),bk:=D.nx } σ2 H2) (hd:∀ σ H,Pv xs.length σ H→D.nx σ H) :
 ∃ W:Nat→Nat→St→Hp→Prop,(∃ m,W 0 m σ H)∧∀ i m σ H,W i m σ H →
  ((Itl K a).stop i H∧D.nx σ H)∨((Itl K a).go i H∧∃ N:St→Hp→Prop,(∀ σ' H',N σ' H'→∃ m',m'<m∧W (i+1) m' σ' H')∧∀ x H',(Itl K a).yld i H x H'→g x σ H' fun σ2 H2=>tb { D with nx:=N,ct:=N,bk:=D.nx } σ2 H2):=by
 refine ⟨fun i m σ H=>m=xs.length-i∧i≤xs.length∧Pv i σ H,⟨xs.length,by simp,Nat.zero_le _,h0⟩,?_⟩
 rintro i m σ H ⟨rfl,hi,p⟩
 have q:=hl i σ H hi p
 by_cases hlt:i<xs.length
 · refine .inr ⟨⟨xs,xs[i],q,by simp [hlt]⟩,Pv (i+1),fun σ' H' p'=>⟨xs.length-(i+1),by omega,rfl,hlt,p'⟩,fun x H' y=>?_⟩
   obtain ⟨e,y⟩:=y
   subst e
   exact hs i x σ _ (y xs q) p
 · have e:i=xs.length:=by omega
   subst e
   exact .inl ⟨⟨xs,q,Nat.le_refl _⟩,hd σ H p⟩
noncomputable abbrev R2:=V→V→Hp→VK→Prop
noncomputable def OpR (X:Cx) (f:Value→Value→Sem Value) (r:R2):Prop:=
 ∀ (pins:List (Addr×Obj)) (s:Shared) (σ:St) (H:Hp) (x y:V) (v u:Value) (Q:VK),Inv X pins σ H s→RelV x v→RelV y u→r x y H Q →
  wpAny (model X.prog X.w) X.A (f v u) (EP X pins σ Q) X.xe s
noncomputable def UnR (X:Cx) (f:Value→Sem Value) (r:V→Hp→VK→Prop):Prop:=
 ∀ (pins:List (Addr×Obj)) (s:Shared) (σ:St) (H:Hp) (x:V) (v:Value) (Q:VK),Inv X pins σ H s→RelV x v→r x H Q →
  wpAny (model X.prog X.w) X.A (f v) (EP X pins σ Q) X.xe s
noncomputable def CallR (X:Cx) (f:Value) (r:List V→Hp→VK→Prop):Prop:=
 ∀ (pins:List (Addr×Obj)) (s:Shared) (σ:St) (H:Hp) (xs:List V) (us:List Value) (Q:VK),Inv X pins σ H s→Vals xs us→r xs H Q →
  wpAny (model X.prog X.w) X.A (call f us) (EP X pins σ Q) X.xe s
noncomputable def TruR (X:Cx) (r:V→Hp→(Bool→Hp→Prop)→Prop):Prop:=
 ∀ (pins:List (Addr×Obj)) (s:Shared) (σ:St) (H:Hp) (x:V) (v:Value) (Q:Bool→Hp→Prop),Inv X pins σ H s→RelV x v→r x H Q →
  wpAny (model X.prog X.w) X.A (truthy v) (TP X pins σ Q) X.xe s
noncomputable def tOp (r:R2) (ta tb:TE):TE:=fun σ H Q=>ta σ H fun x H1=>tb σ H1 fun y H2=>r x y H2 Q
noncomputable def tUn (r:V→Hp→VK→Prop) (ta:TE):TE:=fun σ H Q=>ta σ H fun x H1=>r x H1 Q
noncomputable def rI (C:Int→Int→Prop) (g:Int→Int→V):R2:=fun x y H Q=>∃ i j,x = .int i∧y = .int j∧C i j∧Q (g i j) H
noncomputable def rI0 (g:Int→Int→V):R2:=fun x y H Q=>∃ i j,x = .int i∧y = .int j∧Q (g i j) H
noncomputable def rU (g:Int→V):V→Hp→VK→Prop:=fun x H Q=>∃ i,x = .int i∧Q (g i) H
section
variable {X:Cx}{a b c:Expr}{ta tb tc:TE}{pos:Pos}
theorem binT (ha:PE X a ta) (hb:PE X b tb) {pins:List (Addr×Obj)}{s:Shared}{σ:St}{H:Hp}{R:V→V→Hp→Prop}(I:Inv X pins σ H s)
 (h:ta σ H fun x H1=>tb σ H1 fun y H2=>R x y H2) {Q:Value→Shared→Prop} {f:Value→Value→Sem Value}
 (hf:∀ v u s2 x y H2,Inv X pins σ H2 s2→RelV x v→RelV y u→R x y H2→wpAny (model X.prog X.w) X.A (f v u) Q X.xe s2) :
 wpAny (model X.prog X.w) X.A (eval a X.env) (fun v s₁=>wpAny (model X.prog X.w) X.A (eval b X.env) (fun u s₂=>wpAny (model X.prog X.w) X.A (f v u) Q X.xe s₂) X.xe s₁) X.xe s:=by
 refine thn (ha pins s σ H _ I h) fun v s1 ⟨x,H1,I1,r1,q1⟩=>?_
 refine thn (hb pins s1 σ H1 _ I1 q1) fun u s2 ⟨y,H2,I2,r2,q2⟩=>?_
 exact hf v u s2 x y H2 I2 r1 r2 q2
theorem pe_op {op:Operator}{r:R2}(ho:OpR X (binaryOp op) r) (ha:PE X a ta) (hb:PE X b tb):PE X (.BinOp a op b pos) (tOp r ta tb):=by
 intro pins s σ H Q I h
 exact wpAny_BinOp (binT ha hb I h fun v u s2 x y H2 I2 rx ry q=>ho pins s2 σ H2 x y v u Q I2 rx ry q)
theorem pe_un {op:UnaryOp}{r:V→Hp→VK→Prop}(ho:UnR X (unaryOp op) r) (ha:PE X a ta):PE X (.UnaryOp op a pos) (tUn r ta):=by
 intro pins s σ H Q I h
 exact UnaryOp_ (thn (ha pins s σ H _ I h) fun v s1 ⟨x,H1,I1,r1,q1⟩=>ho pins s1 σ H1 x v Q I1 r1 q1)
theorem opI {f:Value→Value→Sem Value}{C:Int→Int→Prop}{g:Int→Int→Int}
 (rule:∀ (i j:Int) (t u:Tok) (s:Shared) (Q:Value→Shared→Prop) (E:Value→Shared→Prop),C i j→Q (.int (g i j) s.toks) { s with toks:=s.toks+1 }→wpAny (model X.prog X.w) X.A (f (.int i t) (.int j u)) Q E s) :
 OpR X f (rI C fun i j=>.int (g i j)):=by
 intro pins s σ H x y v u Q I rx ry h
 obtain ⟨i,j,rfl,rfl,hc,q⟩:=h
 obtain ⟨t,rfl⟩:=rx
 obtain ⟨t',rfl⟩:=ry
 exact rule i j t t' s _ _ hc ⟨.int (g i j),H,I.tok _,⟨_,rfl⟩,q⟩
theorem opI0 {f:Value→Value→Sem Value}{g:Int→Int→Int}
 (rule:∀ (i j:Int) (t u:Tok) (s:Shared) (Q:Value→Shared→Prop) (E:Value→Shared→Prop),Q (.int (g i j) s.toks) { s with toks:=s.toks+1 }→wpAny (model X.prog X.w) X.A (f (.int i t) (.int j u)) Q E s) :
 OpR X f (rI0 fun i j=>.int (g i j)):=by
 intro pins s σ H x y v u Q I rx ry h
 obtain ⟨i,j,rfl,rfl,q⟩:=h
 obtain ⟨t,rfl⟩:=rx
 obtain ⟨t',rfl⟩:=ry
 exact rule i j t t' s _ _ ⟨.int (g i j),H,I.tok _,⟨_,rfl⟩,q⟩
theorem opB0 {f:Value→Value→Sem Value}{g:Int→Int→Bool}
 (rule:∀ (i j:Int) (t u:Tok) (s:Shared) (Q:Value→Shared→Prop) (E:Value→Shared→Prop),Q (.bool (g i j)) s→wpAny (model X.prog X.w) X.A (f (.int i t) (.int j u)) Q E s) :
 OpR X f (rI0 fun i j=>.bl (g i j)):=by
 intro pins s σ H x y v u Q I rx ry h
 obtain ⟨i,j,rfl,rfl,q⟩:=h
 obtain ⟨t,rfl⟩:=rx
 obtain ⟨t',rfl⟩:=ry
 exact rule i j t t' s _ _ ⟨.bl (g i j),H,I,rfl,q⟩
noncomputable def CPow (i j:Int):Prop:=0≤j∧j≤1000000∧i.natAbs<2^64
noncomputable def CMul (i j:Int):Prop:=(-(2^64)<i∧i<2^64)∨(-(2^64)<j∧j<2^64)
theorem CMul.ok {i j:Int}(h:CMul i j):IntMulOk i j:=by
 rcases h with ⟨h1,h2⟩ | ⟨h1,h2⟩
 · exact .of_left (intBits_le_64 h1 h2)
 · exact .of_right (intBits_le_64 h1 h2)
theorem op_add:OpR X (binaryOp .Add) (rI0 fun i j=>.int (i+j)):=opI0 fun _ _ _ _ _ _ _ q=>add_int q
theorem op_sub:OpR X (binaryOp .Sub) (rI0 fun i j=>.int (i-j)):=opI0 fun _ _ _ _ _ _ _ q=>sub_int q
theorem op_mul:OpR X (binaryOp .Mult) (rI CMul fun i j=>.int (i*j)):=opI fun _ _ _ _ _ _ _ hc q=>mul_int q hc.ok
theorem op_mod:OpR X (binaryOp .Mod) (rI (fun _ j=>0<j) fun i j=>.int (i%j)):=opI fun i j _ _ _ _ _ hc q=>by
 have h1:(0:Int)<j:=hc
 exact mod_int' (by omega) (by rw [Int.fmod_eq_emod_of_nonneg i (by omega)];exact q)
theorem op_pow:OpR X (binaryOp .Pow) (rI CPow fun i j=>.int (i^j.toNat)):=opI fun _ _ _ _ _ _ _ hc q=>pow_int_small hc.1 hc.2.1 hc.2.2 q
theorem op_xor:OpR X (binaryOp .BitXor) (rI0 fun i j=>.int (Builtin.bitXor i j)):=opI0 fun _ _ _ _ _ _ _ q=>xor_int q
theorem unI {f:Value→Sem Value}{g:Int→Int}
 (rule:∀ (i:Int) (t:Tok) (s:Shared) (Q:Value→Shared→Prop) (E:Value→Shared→Prop),Q (.int (g i) s.toks) { s with toks:=s.toks+1 }→wpAny (model X.prog X.w) X.A (f (.int i t)) Q E s) :
 UnR X f (rU fun i=>.int (g i)):=by
 intro pins s σ H x v Q I rx h
 obtain ⟨i,rfl,q⟩:=h
 obtain ⟨t,rfl⟩:=rx
 exact rule i t s _ _ ⟨.int (g i),H,I.tok _,⟨_,rfl⟩,q⟩
theorem un_neg:UnR X (unaryOp .USub) (rU fun i=>.int (-i)):=unI fun _ _ _ _ _ q=>neg_int q
end
noncomputable def scal:V→V→Bool
 | .non,.non=>true | .non,.int _=>true | .int _,.non=>true | .non,.bl _=>true | .bl _,.non=>true | .non,.str _=>true | .str _,.non=>true
 | .int _,.int _=>true | .bl _,.bl _=>true | .str _,.str _=>true | .byt _,.byt _=>true
 | .int _,.str _=>true | .str _,.int _=>true | .bl _,.str _=>true | .str _,.bl _=>true
 | _,_=>false
noncomputable def rEq:R2:=fun x y H Q=>scal x y=true∧Q (.bl (decide (x=y))) H
noncomputable def rNe:R2:=fun x y H Q=>scal x y=true∧Q (.bl (!decide (x=y))) H
theorem dec_int {i j:Int}:decide (V.int i=V.int j)=(i==j):=by
 rw [Bool.eq_iff_iff]
 simp
theorem dec_bl {i j:Bool}:decide (V.bl i=V.bl j)=(i==j):=by
 rw [Bool.eq_iff_iff]
 simp
theorem dec_str {i j:Str}:decide (V.str i=V.str j)=(i==j):=by
 rw [Bool.eq_iff_iff]
 simp
theorem dec_byt {i j:Array UInt8}:decide (V.byt i=V.byt j)=(i.toList==j.toList):=by
 rw [Bool.eq_iff_iff]
 cases i
 cases j
 simp
section
variable {X:Cx}{a b c:Expr}{ta tb tc:TE}{pos:Pos}
theorem fin_bl {pins:List (Addr×Obj)}{σ:St}{H:Hp}{s:Shared}{Q:VK}{k k':Bool}(I:Inv X pins σ H s) (q:Q (.bl k) H) (e:k=k'):EP X pins σ Q (.bool k') s:=by
 subst e
 exact ⟨.bl k,H,I,rfl,q⟩
theorem op_eq:OpR X (compareOp .Eq) rEq:=by
 intro pins s σ H x y v u Q I rx ry h
 obtain ⟨hs,q⟩:=h
 cases x with
 | non=>
  cases rx
  cases y with
  | non=>cases ry;exact PySem.EqNone.eq_none_none (fin_bl I q (by simp))
  | bl j=>cases ry;exact PySem.EqNone.eq_none_bool (fin_bl I q (by simp))
  | int j=>obtain ⟨t',rfl⟩:=ry;exact PySem.EqNone.eq_none_int (fin_bl I q (by simp))
  | str j=>obtain ⟨t',rfl⟩:=ry;exact PySem.EqNone.eq_none_str (fin_bl I q (by simp))
  | _=>exact absurd (show false=true from hs) Bool.false_ne_true
 | bl i=>
  cases rx
  cases y with
  | non=>cases ry;exact PySem.EqNone.eq_bool_none (fin_bl I q (by simp))
  | bl j=>cases ry;exact eq_bool (fin_bl I q dec_bl)
  | str j=>obtain ⟨t',rfl⟩:=ry;exact PySem.EqMixed.eq_bool_str (fin_bl I q (by simp))
  | _=>exact absurd (show false=true from hs) Bool.false_ne_true
 | int i=>
  obtain ⟨t,rfl⟩:=rx
  cases y with
  | non=>cases ry;exact PySem.EqNone.eq_int_none (fin_bl I q (by simp))
  | int j=>obtain ⟨t',rfl⟩:=ry;exact eq_int (fin_bl I q dec_int)
  | str j=>obtain ⟨t',rfl⟩:=ry;exact PySem.EqMixed.eq_int_str (fin_bl I q (by simp))
  | _=>exact absurd (show false=true from hs) Bool.false_ne_true
 | str i=>
  obtain ⟨t,rfl⟩:=rx
  cases y with
  | non=>cases ry;exact PySem.EqNone.eq_str_none (fin_bl I q (by simp))
  | bl j=>cases ry;exact PySem.EqMixed.eq_str_bool (fin_bl I q (by simp))
  | int j=>obtain ⟨t',rfl⟩:=ry;exact PySem.EqMixed.eq_str_int (fin_bl I q (by simp))
  | str j=>obtain ⟨t',rfl⟩:=ry;exact eq_str (fin_bl I q dec_str)
  | _=>exact absurd (show false=true from hs) Bool.false_ne_true
 | byt i=>
  obtain ⟨t,rfl⟩:=rx
  cases y with
  | byt j=>obtain ⟨t',rfl⟩:=ry;exact PySem.W.eq_bytes (fin_bl I q dec_byt)
  | _=>exact absurd (show false=true from hs) Bool.false_ne_true
 | _=>cases y<;>exact absurd (show false=true from hs) Bool.false_ne_true
theorem op_ne:OpR X (compareOp .NotEq) rNe:=by
 intro pins s σ H x y v u Q I rx ry h
 obtain ⟨hs,q⟩:=h
 cases x with
 | non=>
  cases rx
  cases y with
  | non=>cases ry;exact PySem.EqNone.ne_none_none (fin_bl I q (by simp))
  | bl j=>cases ry;exact PySem.EqNone.ne_none_bool (fin_bl I q (by simp))
  | int j=>obtain ⟨t',rfl⟩:=ry;exact PySem.EqNone.ne_none_int (fin_bl I q (by simp))
  | str j=>obtain ⟨t',rfl⟩:=ry;exact PySem.EqNone.ne_none_str (fin_bl I q (by simp))
  | _=>exact absurd (show false=true from hs) Bool.false_ne_true
 | bl i=>
  cases rx
  cases y with
  | non=>cases ry;exact PySem.EqNone.ne_bool_none (fin_bl I q (by simp))
  | bl j=>cases ry;exact ne_bool (fin_bl I q (congrArg not dec_bl))
  | str j=>obtain ⟨t',rfl⟩:=ry;exact PySem.EqMixed.ne_bool_str (fin_bl I q (by simp))
  | _=>exact absurd (show false=true from hs) Bool.false_ne_true
 | int i=>
  obtain ⟨t,rfl⟩:=rx
  cases y with
  | non=>cases ry;exact PySem.EqNone.ne_int_none (fin_bl I q (by simp))
  | int j=>obtain ⟨t',rfl⟩:=ry;exact ne_int (fin_bl I q (congrArg not dec_int))
  | str j=>obtain ⟨t',rfl⟩:=ry;exact PySem.EqMixed.ne_int_str (fin_bl I q (by simp))
  | _=>exact absurd (show false=true from hs) Bool.false_ne_true
 | str i=>
  obtain ⟨t,rfl⟩:=rx
  cases y with
  | non=>cases ry;exact PySem.EqNone.ne_str_none (fin_bl I q (by simp))
  | bl j=>cases ry;exact PySem.EqMixed.ne_str_bool (fin_bl I q (by simp))
  | int j=>obtain ⟨t',rfl⟩:=ry;exact PySem.EqMixed.ne_str_int (fin_bl I q (by simp))
  | str j=>obtain ⟨t',rfl⟩:=ry;exact ne_str (fin_bl I q (congrArg not dec_str))
  | _=>exact absurd (show false=true from hs) Bool.false_ne_true
 | byt i=>
  obtain ⟨t,rfl⟩:=rx
  cases y with
  | byt j=>obtain ⟨t',rfl⟩:=ry;exact PySem.W.ne_bytes (fin_bl I q (congrArg not dec_byt))
  | _=>exact absurd (show false=true from hs) Bool.false_ne_true
 | _=>cases y<;>exact absurd (show false=true from hs) Bool.false_ne_true
theorem op_lt:OpR X (compareOp .Lt) (rI0 fun i j=>.bl (decide (i<j))):=opB0 fun _ _ _ _ _ _ _ q=>lt_int q
theorem op_le:OpR X (compareOp .LtE) (rI0 fun i j=>.bl (decide (i≤j))):=opB0 fun _ _ _ _ _ _ _ q=>le_int q
theorem op_gt:OpR X (compareOp .Gt) (rI0 fun i j=>.bl (decide (j<i))):=opB0 fun _ _ _ _ _ _ _ q=>gt_int q
theorem op_isN:OpR X (compareOp .Is) (fun x y H Q=>y = .non∧Q (.bl (decide (x = .non))) H):=by
 intro pins s σ H x y v u Q I rx ry h
 obtain ⟨rfl,q⟩:=h
 cases ry
 refine is_none_gen (fin_bl I q ?_)
 cases x<;>first
  | (cases rx;rfl)
  | (obtain ⟨t,rfl⟩:=rx;rfl)
theorem op_notN:OpR X (compareOp .IsNot) (fun x y H Q=>y = .non∧Q (.bl (!decide (x = .non))) H):=by
 intro pins s σ H x y v u Q I rx ry h
 obtain ⟨rfl,q⟩:=h
 cases ry
 refine isnot_none_gen (fin_bl I q ?_)
 cases x<;>first
  | (cases rx;rfl)
  | (obtain ⟨t,rfl⟩:=rx;rfl)
theorem nomark (b:Expr) {op:CmpOp}(h:op≠.In:=by decide) (h2:op≠.NotIn:=by decide):behindInMarks op b=false:=by
 have e1:(op==CmpOp.In)=false:=by cases op<;>first | rfl | exact absurd rfl h
 have e2:(op==CmpOp.NotIn)=false:=by cases op<;>first | rfl | exact absurd rfl h2
 cases b<;>simp [behindInMarks,e1,e2]
theorem pe_cmpR {op:CmpOp}{r:R2}(ho:OpR X (compareOp op) r) (ha:PE X a ta) (hb:PE X b tb) (hm:behindInMarks op b=false):PE X (.Compare a [op] [b] pos) (tOp r ta tb):=by
 intro pins s σ H Q I h
 exact wpAny_Compare1 (binT ha hb I h fun v u s2 x y H2 I2 rx ry q=>ho pins s2 σ H2 x y v u Q I2 rx ry q) hm
noncomputable def tTest (t:TE):TT:=fun σ H Q=>t σ H fun x H'=>∃ k,x = .bl k∧Q k H'
theorem pt_cmpR {op:CmpOp}{r:R2}(ho:OpR X (compareOp op) r) (ha:PE X a ta) (hb:PE X b tb) (hm:behindInMarks op b=false):PT X (.Compare a [op] [b] pos) (tTest (tOp r ta tb)):=by
 intro pins s σ H Q I h
 refine wpAny_isTrue_Compare1 (thn (ha pins s σ H _ I h) fun v s1 ⟨x,H1,I1,r1,q1⟩=>thn (hb pins s1 σ H1 _ I1 q1) fun u s2 ⟨y,H2,I2,r2,q2⟩=>
  thn (ho pins s2 σ H2 x y v u _ I2 r1 r2 q2) fun c s3 ⟨z,H3,I3,r3,k,e,q3⟩=>?_) hm
 subst e
 cases r3
 exact wpAny_truthy_bool ⟨H3,I3,q3⟩
noncomputable def tChain (r r':R2) (ta tb tc:TE):TE:=fun σ H Q=>ta σ H fun x H1=>tb σ H1 fun y H2=>r x y H2 fun z H3=>∃ k,z = .bl k ∧
 (if k=true then tc σ H3 fun w' H4=>r' y w' H4 Q else Q (.bl false) H3)
theorem pe_chain {op op':CmpOp}{r r':R2}(ho:OpR X (compareOp op) r) (ho':OpR X (compareOp op') r') (ha:PE X a ta) (hb:PE X b tb) (hc:PE X c tc)
 (hm:lastMarks [op,op'] [b,c]=false:=by with_unfolding_all rfl):PE X (.Compare a [op,op'] [b,c] pos) (tChain r r' ta tb tc):=by
 intro pins s σ H Q I h
 refine Compare_chain (thn (ha pins s σ H _ I h) fun v s1 ⟨x,H1,I1,r1,q1⟩=>chain_link (thn (hb pins s1 σ H1 _ I1 q1) fun u s2 ⟨y,H2,I2,r2,q2⟩=>
  thn (ho pins s2 σ H2 x y v u _ I2 r1 r2 q2) fun d s3 ⟨z,H3,I3,r3,k,e,q3⟩=>?_)) hm
 subst e
 cases r3
 refine wpAny_truthy_bool ?_
 cases k with
 | false=>exact ite_ff ⟨.bl false,H3,I3,rfl,q3⟩
 | true=>exact ite_tt (chain_last (thn (hc pins s3 σ H3 _ I3 q3) fun w' s4 ⟨z',H4,I4,r4,q4⟩=>ho' pins s4 σ H4 y z' u w' Q I4 r2 r4 q4))
noncomputable def TruV (K:PySem.W.Frag) (x:V) (H:Hp) (k:Bool):Prop:=
 match x with
 | .non=>k=false
 | .bl b=>k=b
 | .int i=>k=(i != 0)
 | .str y=>y.length≤sizeLine∧k=((y.length:Int) != 0)
 | .byt y=>y.size≤sizeLine∧k=((y.size:Int) != 0)
 | .ref p=>(∃ xs,SqL K H p xs∧k = !xs.isEmpty)∨(∃ xs,SqT K H p xs∧k = !xs.isEmpty)∨∃ kvs,H p=some (.dK kvs)∧k = !kvs.isEmpty
 | _=>False
theorem isEmpty_kv {κ:Type}{kvs:List (κ×V)}{vs:List (κ×Value)}(r:KV kvs vs):(!vs.isEmpty) = !kvs.isEmpty:=by
 cases r<;>rfl
theorem isEmpty_of {xs:List V}{its:List Value}(r:Vals xs its):(!its.toArray.isEmpty) = !xs.isEmpty:=by
 cases r<;>simp
theorem line63:(sizeLine:Nat)<2^63:=by rw [sizeLine_eq];decide
theorem tru_ok:TruR X (fun x H Q=>∃ k,TruV X.K x H k∧Q k H):=by
 intro pins s σ H x v Q I rx h
 obtain ⟨k,e,q⟩:=h
 have hl:=line63
 have hs:sizeLine=16777216:=sizeLine_eq
 cases x with
 | non=>
  cases rx
  have e':k=false:=e
  subst e'
  exact truthy_none ⟨H,I,q⟩
 | bl b=>
  cases rx
  have e':k=b:=e
  subst e'
  exact wpAny_truthy_bool ⟨H,I,q⟩
 | int i=>
  obtain ⟨t,rfl⟩:=rx
  have e':k=(i != 0):=e
  subst e'
  exact PySem.P.truthy_int ⟨H,I,q⟩
 | str y=>
  obtain ⟨t,rfl⟩:=rx
  obtain ⟨hy,e'⟩:y.length≤sizeLine∧k=((y.length:Int) != 0):=e
  subst e'
  exact PySem.P.truthy_str (by omega) ⟨H,I.tok _,q⟩
 | byt y=>
  obtain ⟨t,rfl⟩:=rx
  obtain ⟨hy,e'⟩:y.size≤sizeLine∧k=((y.size:Int) != 0):=e
  subst e'
  exact PySem.W.truthy_bytes (by omega) ⟨H,I.tok _,q⟩
 | ref p=>
  cases rx
  have e':(∃ xs,SqL X.K H p xs∧k = !xs.isEmpty)∨(∃ xs,SqT X.K H p xs∧k = !xs.isEmpty)∨∃ kvs,H p=some (.dK kvs)∧k = !kvs.isEmpty:=e
  rcases e' with ⟨xs,hx,e'⟩ | ⟨xs,hx,e'⟩ | ⟨kvs,hx,e'⟩
  · subst e'
    obtain ⟨its,r,pl,hz⟩:=I.list hx
    have hlen:=r.length
    exact wpAny_truthy_list pl.isList (by simp only [List.size_toArray];omega) ⟨H,I.tok _,by rw [isEmpty_of r];exact q⟩
  · subst e'
    obtain ⟨its,r,pl,hz⟩:=I.tuple hx
    have hlen:=r.length
    exact truthy_tuple pl (by simp only [List.size_toArray];omega) ⟨H,I.tok _,by rw [isEmpty_of r];exact q⟩
  · subst e'
    obtain ⟨hz,hS,vs,r,m⟩:kvs.length≤sizeLine∧(p==sysModules)=false∧∃ vs,KV kvs vs∧s.heap.DictOf (mixKind X.prog X.w) p vs:=I.hok p _ hx
    have hlen:kvs.length=vs.length:=Paired.length r
    exact wpAny_truthy_dict hS m (by omega) ⟨H,I.tok _,by rw [isEmpty_kv r];exact q⟩
 | _=>exact (show False from e).elim
theorem pt_truth (ha:PE X a ta) (he:∀ whole,isTrue a X.env whole=(do let v ← whole;standAt a.pos;holding [v] (truthy v))) :
 PT X a (fun σ H Q=>ta σ H fun x H'=>∃ k,TruV X.K x H' k∧Q k H'):=by
 intro pins s σ H Q I h
 exact isTrue_plain (thn (ha pins s σ H _ I h) fun v s1 ⟨x,H1,I1,r1,q1⟩=>tru_ok pins s1 σ H1 x v Q I1 r1 q1) (he _)
theorem vals1 {x:V}{us:List Value}(r:Vals [x] us):∃ u,us=[u]∧RelV x u:=by
 cases r with
 | cons r1 r2=>cases r2;exact ⟨_,rfl,r1⟩
theorem vals2 {x y:V}{us:List Value}(r:Vals [x,y] us):∃ u w',us=[u,w']∧RelV x u∧RelV y w':=by
 cases r with
 | cons r1 r2=>
  cases r2 with
  | cons r3 r4=>cases r4;exact ⟨_,_,rfl,r1,r3⟩
theorem call_int1:CallR X (.type "int") (fun xs H Q=>(∃ i,xs=[.int i]∧Q (.int i) H)∨∃ k,xs=[.bl k]∧Q (.int (if k then 1 else 0)) H):=by
 intro pins s σ H xs us Q I r h
 rcases h with ⟨i,rfl,q⟩ | ⟨k,rfl,q⟩
 · obtain ⟨u,rfl,t,rfl⟩:=vals1 r
   exact call_int_int ⟨.int i,H,I,⟨_,rfl⟩,q⟩
 · obtain ⟨u,rfl,r1⟩:=vals1 r
   cases r1
   exact call_int_bool ⟨.int (if k then 1 else 0),H,I.tok _,⟨_,rfl⟩,q⟩
end
structure ObjM (h:Heap) (x dx C:Addr) (mA:Str→Option Value):Prop where
 obj:h.get? x=some (PySem.W.instObj C dx)
 ns:h.Ns1 dx mA
 ne:dx≠x
theorem lookIn_ns {h:Heap}{dx:Addr}{mA:Str→Option Value}(n:h.Ns1 dx mA):∃ od,h.get? dx=some od∧∀ name,PySem.W.lookIn name od=some (mA name):=by
 obtain ⟨o,es,ep,ho,hd,hk,_,hm⟩:=n
 refine ⟨o,ho,fun name=>?_⟩
 have e:=hm name
 unfold nsFind findBy at e
 rw [← Array.find?_toList] at e
 unfold PySem.W.lookIn
 rw [hd]
 dsimp only
 split
 · rename_i y q
   rw [q] at e
   exact congrArg some e
 · rename_i q
   rw [q] at e
   have a:es.toList.any (·.refKey)=false:=by
    rw [List.any_eq_false]
    intro y hy
    obtain ⟨z,t,hkey⟩:=hk y (Array.mem_toList_iff.mp hy)
    simp [DictEntry.refKey,hkey]
   have a':¬ es.toList.any (·.refKey)=true:=by rw [a];exact Bool.false_ne_true
   rw [if_neg a']
   exact congrArg some e
theorem ObjM.look {h:Heap}{x dx C:Addr}{mA:Str→Option Value}(I:ObjM h x dx C mA):∃ od,PySem.W.InstAt h x (PySem.W.instObj C dx) C (some od)∧∀ name,PySem.W.lookIn name od=some (mA name):=
 let ⟨od,ho,hl⟩:=lookIn_ns I.ns
 ⟨od,⟨I.obj,rfl,rfl,ho⟩,hl⟩
section
variable {prog:Program}{w:World}{A:Around}{E:Value→Shared→Prop}{s:Shared}{K:PySem.W.Frag}{x dx C f:Addr}{mA:Str→Option Value}{name:Str}{v:Value}
end
theorem RelO.some_of {v:V}{o:Option Value}(r:RelO (some v) o):∃ u,o=some u∧RelV v u:=by
 cases o with
 | none=>exact (show False from r).elim
 | some u=>exact ⟨u,rfl,r⟩
theorem RelO.none_of {o:Option Value}(r:RelO none o):o=none:=by
 cases o with
 | none=>rfl
 | some u=>exact (show False from r).elim
section
variable {P:Program}{w:World}{H H':Hp}{h h':Heap}{a C dx:Addr}{fs fs':List (Str×V)}
theorem ins_get (hok:HOk P w H h) (e:H a=some (.ins C dx fs)):∃ mA,ObjM h a dx C mA∧(∀ f,RelO (fs.lookup f) (mA f))∧PySem.Within mA (fs.map (·.1))∧fs.length≤1000∧H dx=some (.own a):=by
 obtain ⟨d,z,ne,ob,mA,n,r,q⟩:=(show ObjOk P w H h a (.ins C dx fs) from hok a _ e)
 exact ⟨mA,⟨ob,n,ne⟩,r,q,z,d⟩
end
structure Cls (K:PySem.W.Frag) (C:Addr):Prop where
 pg:PySem.W.plainGet K C Str.empty=true
 hd:PySem.W.hasDictIn K C=true
 po:PySem.W.plainOver K C=true
 sa:PySem.W.findIn K (.ref C) "__setattr__" = some (some (.builtin "object.__setattr__"))
theorem Cls.get {K:PySem.W.Frag}{C:Addr}(c:Cls K C) (f:Str):PySem.W.plainGet K C f=true:=c.pg
section
variable {X:Cx}{pins:List (Addr×Obj)}{σ:St}{H:Hp}{s:Shared}{a C dx:Addr}{fs:List (Str×V)}{f:Str}{v:V}{A:Around}{E:Value→Shared→Prop}
end
section
variable {X:Cx}{o e value:Expr}{f:Str}{pos pos' tpos:Pos}{ta tv:TE}
end
section
variable {X:Cx}{pins:List (Addr×Obj)}{σ:St}{H:Hp}{s:Shared}{A:Around}{E:Value→Shared→Prop}{Q:Value→Shared→Prop}{c:Value}{b:Bool}
inductive TyOf (K:PySem.W.Frag) (H:Hp):V→Value→Prop where
 | non:TyOf K H .non (.type "NoneType")
 | bl (x:Bool):TyOf K H (.bl x) (.type "bool")
 | int (i:Int):TyOf K H (.int i) (.type "int")
 | str (x:Str):TyOf K H (.str x) (.type "str")
 | flt (x:UInt64):TyOf K H (.flt x) (.type "float")
 | lst {a:Addr} {xs:List V} (e:H a=some (.lst xs)):TyOf K H (.ref a) (.type "list")
 | frz {a:Addr} {o:Obj} {xs:List V} (e:H a=some (.frz o (.lst xs))):TyOf K H (.ref a) (.type "list")
 | tup {a:Addr} {xs:List V} (e:H a=some (.tup xs)):TyOf K H (.ref a) (.type "tuple")
 | dK {a:Addr} {kvs:List (Key×V)} (e:H a=some (.dK kvs)):TyOf K H (.ref a) (.type "dict")
 | dT {a:Addr} {kvs:List (List Key×V)} (e:H a=some (.dT kvs)):TyOf K H (.ref a) (.type "dict")
 | ins {a C dx:Addr} {fs:List (Str×V)} (e:H a=some (.ins C dx fs)) (cl:Cls K C) (ha:PySem.W.findIn K (.ref C) "__class__" = some (some (.builtin "object.__class__")))
  (hn:PySem.W.specialIn K (.builtin "object.__class__") "__get__" = some (some (.builtin "getset_descriptor.__get__"))) (htk:PySem.W.takesIn K (.builtin "object.__class__")=some true)
  (hm:PySem.W.mroIn K C (.type "object")=some true):TyOf K H (.ref a) (.ref C)
theorem isinst_ok {x:V}{u t:Value}(I:Inv X pins σ H s) (rx:RelV x u) (ty:TyOf X.K H x t) (e:PySem.W.kitOne X.K t c=some b) (h:∀ tk,Q (.bool b) { s with toks:=tk }) :
 wpAny (model X.prog X.w) A (call (.builtin "isinstance") [u,c]) Q E s:=by
 cases ty with
 | non=>cases (show u=Value.none from rx);exact PySem.W.kia_one PySem.W.kitx_none I.kIn True.intro e (fun z=>nomatch z) h
 | bl y=>cases (show u=Value.bool y from rx);exact PySem.W.kia_one PySem.W.kitx_bool I.kIn True.intro e (fun z=>nomatch z) h
 | int i=>obtain ⟨t,q⟩:=(show ∃ t,u=Value.int i t from rx);cases q;exact PySem.W.kia_one PySem.W.kitx_int I.kIn True.intro e (fun z=>nomatch z) h
 | str y=>obtain ⟨t,q⟩:=(show ∃ t,u=Value.str y t from rx);cases q;exact PySem.W.kia_one PySem.W.kitx_str I.kIn True.intro e (fun z=>nomatch z) h
 | flt y=>obtain ⟨t,q⟩:=(show ∃ t,u=Value.float y t from rx);cases q;exact PySem.W.kia_one PySem.W.kitx_float I.kIn True.intro e (fun z=>nomatch z) h
 | @lst a xs ea=>
  cases (show u=Value.ref a from rx)
  obtain ⟨_,_,n,_,h1⟩:=(show ObjOk X.prog X.w H s.heap a (.lst xs) from I.hok a _ ea)
  exact PySem.W.kia_one PySem.W.kitx_list I.kIn ⟨_,h1,rfl⟩ e (fun z=>nomatch z) h
 | @frz a ob xs ea=>
  cases (show u=Value.ref a from rx)
  obtain ⟨_,_,_,n,_,h1⟩:=(show ObjOk X.prog X.w H s.heap a (.frz ob (.lst xs)) from I.hok a _ ea)
  exact PySem.W.kia_one PySem.W.kitx_list I.kIn ⟨_,h1,rfl⟩ e (fun z=>nomatch z) h
 | @tup a xs ea=>
  cases (show u=Value.ref a from rx)
  obtain ⟨_,_,_,p⟩:=(show ObjOk X.prog X.w H s.heap a (.tup xs) from I.hok a _ ea)
  obtain ⟨o,h1,h2,_⟩:=p
  exact PySem.W.kia_one PySem.W.kitx_tuple I.kIn ⟨o,h1,h2⟩ e (fun z=>nomatch z) h
 | @dK a kvs ea=>
  cases (show u=Value.ref a from rx)
  obtain ⟨_,_,vs,_,p⟩:=(show ObjOk X.prog X.w H s.heap a (.dK kvs) from I.hok a _ ea)
  obtain ⟨o,es,ep,h1,h2,_⟩:=p
  exact PySem.W.kia_one PySem.W.kitx_dict I.kIn ⟨o,h1,h2.1⟩ e (fun z=>nomatch z) h
 | @dT a kvs ea=>
  cases (show u=Value.ref a from rx)
  obtain ⟨_,_,xs,_,o,es,ep,h1,h2,_⟩:=(show ObjOk X.prog X.w H s.heap a (.dT kvs) from I.hok a _ ea)
  exact PySem.W.kia_one PySem.W.kitx_dict I.kIn ⟨o,h1,h2.1⟩ e (fun z=>nomatch z) h
 | @ins a C dx fs ea cl ha hn htk hm=>
  cases (show u=Value.ref a from rx)
  obtain ⟨mA,O,_⟩:=ins_get I.hok ea
  obtain ⟨od,J,_⟩:=O.look
  exact PySem.W.kia_one (PySem.W.kitx_own (cl.get _) cl.hd ha hn htk hm) I.kIn J e (fun z=>nomatch z) h
end
structure Room (k:Nat) (A:Around):Prop where
 hd:A.handled=none
 dp:A.depth+3*k+5<recursionLimit
 un:A.units+16*k+200<cLine
 gd:A.guards=some []
theorem Room.mono {j k:Nat}{A:Around}(r:Room k A) (h:j≤k):Room j A:=⟨r.hd,by have:=r.dp;omega,by have:=r.un;omega,r.gd⟩
theorem Room.deeper {k:Nat}{A:Around}(r:Room (k+1) A) (env:Env):Room k (A.deeper env):=
 ⟨r.hd,by have:=r.dp;show A.depth+1+3*k+5<_;omega,by have:=r.un;show A.units+3+16*k+200<_;omega,r.gd⟩
theorem Room.depth {k:Nat}{A:Around}(r:Room k A):A.depth<recursionLimit:=by have:=r.dp;omega
theorem Room.units {k:Nat}{A:Around}(r:Room k A):A.units+64<cLine:=by have:=r.un;omega
noncomputable def tNil:TA:=fun _ H Q=>Q [] H
noncomputable def tCons (ta:TE) (tr:TA):TA:=fun σ H Q=>ta σ H fun x H1=>tr σ H1 fun xs H2=>Q (x::xs) H2
section
variable {X:Cx}{e:Expr}{es:List Expr}{te:TE}{t:TA}{pos:Pos}
theorem pa_nil:PA X [] tNil:=fun _ _ _ _ H Q I h=>Calls.spliced_nil ⟨[],H,I,.nil,h⟩
theorem pa_cons (ha:PE X e te) (hr:PA X es t) (hs:starEach (e::es) X.env=(false,eval e X.env)::starEach es X.env:=by rfl):PA X (e::es) (tCons te t):=by
 intro pos pins s σ H Q I h
 rw [hs]
 show wpAny _ _ (spliced ((false,eval e X.env)::backTo pos (starEach es X.env))) _ _ s
 refine Calls.spliced_cons (thn (ha pins s σ H _ I h) fun u s1 ⟨x,H1,I1,r1,q1⟩=>?_)
 exact thn (hr pos pins s1 σ H1 _ I1 q1) fun us s2 ⟨xs,H2,I2,r2,q2⟩=>⟨x::xs,H2,I2,.cons r1 r2,q2⟩
noncomputable def tTup (t:TA):TE:=fun σ H Q=>t σ H fun xs H1=>xs.length≤sizeLine∧∀ p,H1 p=none→Q (.ref p) (upd H1 p (.tup xs))
noncomputable def tLst (t:TA):TE:=fun σ H Q=>t σ H fun xs H1=>xs.length≤sizeLine∧∀ p,H1 p=none→Q (.ref p) (upd H1 p (.lst xs))
theorem pe_tup {x1} (h:PA X es t):PE X (.Tuple es x1 pos) (tTup t):=by
 intro pins s σ H Q I hq
 refine wpAny_Tuple_spliced (thn (h pos pins s σ H _ I hq) fun us s1 ⟨xs,H1,I1,r,z,q⟩=>⟨by rw [← r.length];exact z,?_⟩)
 have hf:H1 s1.heap.objs.size=none:=I1.hok.fresh (Nat.le_refl _)
 refine ⟨.ref s1.heap.objs.size,upd H1 s1.heap.objs.size (.tup xs),I1.laid (t':=s1.toks) (fun b u e=>Heap.get?_push_of_some _ e) (Nat.le_refl _) ?_,rfl,q _ hf⟩
 exact ⟨z,us,r,⟨_,Heap.get?_push_size _ rfl,rfl,_,rfl⟩⟩
theorem pe_lst (h:PA X es t):PE X (.List es pos) (tLst t):=by
 intro pins s σ H Q I hq
 refine wpAny_List_spliced (thn (h pos pins s σ H _ I hq) fun us s1 ⟨xs,H1,I1,r,z,q⟩=>⟨by rw [← r.length];exact z,?_⟩)
 have hf:H1 s1.heap.objs.size=none:=I1.hok.fresh (Nat.le_refl _)
 refine ⟨.ref s1.heap.objs.size,upd H1 s1.heap.objs.size (.lst xs),I1.laid (t':=s1.toks) (fun b u e=>Heap.get?_push_of_some _ e) (Nat.le_refl _) ?_,rfl,q _ hf⟩
 exact ⟨z,us,0,r,Heap.get?_push_size _ rfl⟩
end
noncomputable abbrev Sp:=List V→Hp→VK→XK→Prop
noncomputable abbrev CXT:=List Env→Hp→Shared→XK→Value→Shared→Prop
structure Env0 (P:Program) (w:World) (K:PySem.W.Frag) (mg:Str→Option Value) (base:Heap) (A:Around) (outer:List Env) (s:Shared) (H:Hp):Prop where
 frames:A.frames=some outer
 mod:Mod K mg base
 bs:∀ b o,base.get? b=some o→s.heap.get? b=some o∧H b=none
 bsz:base.objs.size≤s.heap.objs.size
 funs:s.heap.FunFrames base outer
 frf:∀ b∈frs outer,H b=none
 hok:HOk P w H s.heap
 bare:AllBare s.gens
noncomputable def CE (outer:List Env) (P:Program) (w:World) (H:Hp) (s:Shared) (Q:VK) (u:Value) (s':Shared):Prop:=
 ∃ v H',s'.os=s.os∧AllBare s'.gens∧Un (frs outer) [] H H' s.heap s'.heap∧HOk P w H' s'.heap∧RelV v u∧Q v H'
noncomputable def CR (CX:CXT) (outer:List Env) (P:Program) (w:World) (H:Hp) (s:Shared) (Q:VK) (E:XK) (r:Result) (s':Shared):Prop:=
 match r with
 | .ok (.ret u)=>CE outer P w H s Q u s'
 | .ok _=>False
 | .error e=>CX outer H s E e s'
structure FnOk (P:Program) (w:World) (K:PySem.W.Frag) (mg:Str→Option Value) (base:Heap) (CX:CXT) (k:Nat) (f:Addr) (fd:FuncData) (ps:List Str) (sp:Sp):Prop where
 len:∀ vs H Q E,sp vs H Q E→vs.length=ps.length
 run:∀ (A:Around) (outer:List Env) (s:Shared) (H:Hp) (args:Args) (us:List Value) (vs:List V) (Q:VK) (E:XK),Room k A→Env0 P w K mg base A outer s H→BindsTo s fd args (ps.zip us)→Vals vs us→sp vs H Q E →
  codeAny (model P w) A (.call (.ref f) args) (CR CX outer P w H s Q E) s
theorem FnOk.imp {P:Program}{w:World}{K:PySem.W.Frag}{mg:Str→Option Value}{base:Heap}{CX:CXT}{k:Nat}{f:Addr}{fd:FuncData}{ps:List Str}{sp sp':Sp}(F:FnOk P w K mg base CX k f fd ps sp)
 (h:∀ vs H Q E,sp' vs H Q E→sp vs H Q E):FnOk P w K mg base CX k f fd ps sp':=
 ⟨fun vs H Q E q=>F.len vs H Q E (h _ _ _ _ q),fun A outer s H args us vs Q E hr he hb hv hs=>F.run A outer s H args us vs Q E hr he hb hv (h _ _ _ _ hs)⟩
section
variable {X:Cx}{pins:List (Addr×Obj)}{σ:St}{H:Hp}{s s':Shared}
theorem Inv.env0 (I:Inv X pins σ H s):Env0 X.prog X.w X.K X.mg X.base X.A X.stack s H:=
 ⟨I.ok.frames,I.ok.mod,I.bs,Nat.le_trans I.ok.bsz I.sz,I.stack,I.stkFree,I.hok,I.bare⟩
theorem Inv.after {Q:VK}{u:Value}(I:Inv X pins σ H s) (h:CE X.stack X.prog X.w H s Q u s'):EP X pins σ Q u s':=by
 obtain ⟨v,H',os,bare,un,hok,r,q⟩:=h
 obtain ⟨hh,g,d,t,os'⟩:=s'
 obtain rfl:os'=s.os:=os
 exact ⟨v,H',I.call (h':=hh) (g':=g) (d':=d) (t':=t) (ch:=[]) un hok bare (fun b z=>absurd z (by simp)),r,q⟩
end
noncomputable def tCall (sp:Sp) (dvs:List V) (E:XK) (t:TA):TE:=fun σ H Q=>t σ H fun vs H1=>sp (vs++dvs) H1 Q E
noncomputable def Binds (K:PySem.W.Frag) (fd:FuncData) (ps:List Str) (ds:List Value):Prop:=
 ∀ (s:Shared) (us:List Value),K.In s.heap→(us++ds).length=ps.length→BindsTo s fd ⟨us,[]⟩ (ps.zip (us++ds))
theorem Binds.all {K:PySem.W.Frag}{fd:FuncData}{ps:List Str}(h:∀ us:List Value,us.length=ps.length→bindArgs fd ⟨us,[]⟩=pure (ps.zip us)):Binds K fd ps []:=fun s us _ hl=>by
 rw [List.append_nil] at hl ⊢
 exact .of_eq (h us hl)
noncomputable def Passes (CX:CXT) (X:Cx) (E:XK):Prop:=∀ (pins:List (Addr×Obj)) (σ:St) (H:Hp) (s:Shared) (e:Value) (s':Shared),Inv X pins σ H s→CX X.stack H s E e s'→X.xe e s'
section
variable {X:Cx}{CX:CXT}{k:Nat}{f C:Addr}{fd:FuncData}{ps:List Str}{sp:Sp}{dvs:List V}{ds:List Value}{E:XK}{x m:Str}{p pos apos:Pos}{e o:Expr}{es:List Expr}{ta:TE}{t:TA}
theorem run_fn {pins:List (Addr×Obj)}{σ:St}{H:Hp}{s:Shared}{Q:VK}{us:List Value}{vs:List V}(F:FnOk X.prog X.w X.K X.mg X.base CX k f fd ps sp) (hr:Room k X.A) (hb:Binds X.K fd ps ds) (hd:Vals dvs ds) (hx:Passes CX X E)
 (I:Inv X pins σ H s) (r:Vals vs us) (h:sp (vs++dvs) H Q E):wpAny (model X.prog X.w) X.A (call (.ref f) us) (EP X pins σ Q) X.xe s:=by
 have r2:Vals (vs++dvs) (us++ds):=r.append hd
 have hl:(us++ds).length=ps.length:=by rw [← r2.length];exact F.len _ _ _ _ h
 refine wpAny_call (codeAny_mono (F.run X.A X.stack s H ⟨us,[]⟩ (us++ds) (vs++dvs) Q E hr I.env0 (hb s us I.kIn hl) r2 h) fun r s' hq=>?_)
 cases r with
 | error e=>exact hx pins σ H s e s' I hq
 | ok fl=>
  cases fl with
  | ret u=>exact I.after hq
  | next=>exact False.elim hq
  | brk=>exact False.elim hq
  | cont=>exact False.elim hq
theorem pe_call (F:FnOk X.prog X.w X.K X.mg X.base CX k f fd ps sp) (hr:Room k X.A) (hg:Gl X x) (hm:X.mg x=some (.ref f)) (hk:PySem.W.keepIn X.K (.ref f)=true) (hb:Binds X.K fd ps ds) (hd:Vals dvs ds) (hx:Passes CX X E)
 (ha:PA X (e::es) t) (hdb:(x==("__debug__":Str))=false:=by decide) (he:starEach (e::es) X.env=(false,eval e X.env)::starEach es X.env:=by rfl) (hpl:(backTo pos (starEach es X.env)).any (·.1)=false:=by rfl) :
 PE X (.Call (.Name x p) (e::es) [] pos) (tCall sp dvs E t):=by
 intro pins s σ H Q I h
 refine wpAny_Call_Name_kw (ld_glob I hg hm ?_ hdb)
 refine PySem.W.callWith_K (h₀:=X.base) I.ok.mod.kin hk (thn (ha pos pins s σ H _ I h) fun us s1 ⟨vs,H1,I1,r,q⟩=>⟨I1.kIn,?_⟩) he hpl
 exact run_fn F hr hb hd hx I1 r q
end
section
variable {X:Cx}{CX:CXT}{k:Nat}{f C:Addr}{fd:FuncData}{ps ks:List Str}{sp:Sp}{E:XK}{x m:Str}{p pos apos kpos:Pos}{e o:Expr}{es:List Expr}{kws:List Keyword}{te ta:TE}{t tk:TA}{nm:Option Str}
variable {g:List Value→List Value→List Value}{gV:List V→List V→List V}
end
structure FnScope (N P:List Str) (sc:Scope):Prop where
 kind:sc.kind = .function
 co:sc.isCoroutine=false
 gen:sc.isGenerator=false
 nd:N.Nodup
 pre:N.take P.length=P
 par:∀ x∈P,sc.names.lookup x=some .local ∨ sc.names.lookup x=some .cell
 nofree:∀ y∈sc.names,y.2≠.free
theorem bindL_out {kindOf:Str→Option NameKind}{x:Str}:∀ {binds:List (Str×Value)}{m:Str→Option Value},(∀ v,(x,v)∉binds)→bindL kindOf binds m x=m x
 | [],_,_=>rfl
 | (n,v)::r,m,h=>by
  unfold bindL
  rw [bindL_out fun w hw=>h w (List.mem_cons_of_mem _ hw)]
  split
  · have:x≠n:=by rintro rfl;exact h v List.mem_cons_self
    simp [this]
  · rfl
theorem bindC_out {kindOf:Str→Option NameKind}{x:Str}:∀ {binds:List (Str×Value)}{m:Str→Option Value},(∀ v,(x,v)∉binds)→bindC kindOf binds m x=m x
 | [],_,_=>rfl
 | (n,v)::r,m,h=>by
  unfold bindC
  rw [bindC_out fun w hw=>h w (List.mem_cons_of_mem _ hw)]
  split
  · rfl
  · have:x≠n:=by rintro rfl;exact h v List.mem_cons_self
    simp [this]
theorem bindL_get {kindOf:Str→Option NameKind}{x:Str}{v:Value}:∀ {P:List Str}{vs:List Value}{i:Nat}{m:Str→Option Value},P.Nodup→P[i]? = some x→vs[i]? = some v→kindOf x=some .local →
 bindL kindOf (P.zip vs) m x=some v
 | [],_,_,_,_,h,_,_=>by simp at h
 | _::_,[],_,_,_,_,h,_=>by simp at h
 | p::P,w::vs,0,m,nd,h1,h2,hk=>by
  simp at h1 h2;subst h1;subst h2
  show bindL kindOf ((p,w)::P.zip vs) m p=_
  unfold bindL
  rw [bindL_out fun v hv=>(List.nodup_cons.mp nd).1 (List.of_mem_zip hv).1,if_pos hk]
  simp
 | p::P,w::vs,i+1,m,nd,h1,h2,hk=>by
  show bindL kindOf ((p,w)::P.zip vs) m x=_
  unfold bindL
  exact bindL_get (i:=i) (List.nodup_cons.mp nd).2 (by simpa using h1) (by simpa using h2) hk
theorem bindC_get {kindOf:Str→Option NameKind}{x:Str}{v:Value}:∀ {P:List Str}{vs:List Value}{i:Nat}{m:Str→Option Value},P.Nodup→P[i]? = some x→vs[i]? = some v→kindOf x≠some .local →
 bindC kindOf (P.zip vs) m x=some v
 | [],_,_,_,_,h,_,_=>by simp at h
 | _::_,[],_,_,_,_,h,_=>by simp at h
 | p::P,w::vs,0,m,nd,h1,h2,hk=>by
  simp at h1 h2;subst h1;subst h2
  show bindC kindOf ((p,w)::P.zip vs) m p=_
  unfold bindC
  rw [bindC_out fun v hv=>(List.nodup_cons.mp nd).1 (List.of_mem_zip hv).1,if_neg hk]
  simp
 | p::P,w::vs,i+1,m,nd,h1,h2,hk=>by
  show bindC kindOf ((p,w)::P.zip vs) m x=_
  unfold bindC
  exact bindC_get (i:=i) (List.nodup_cons.mp nd).2 (by simpa using h1) (by simpa using h2) hk
noncomputable def start (N:List Str) (vs:List V):St:=vs.map some++List.replicate (N.length-vs.length) none
noncomputable def cxOf (CX:CXT) (P:Program) (w:World) (K:PySem.W.Frag) (mg:Str→Option Value) (base:Heap) (N:List Str) (qual:Str) (scope:Scope) (f:Addr) (cd:Value) (A:Around) (outer:List Env) (s:Shared) (H:Hp) (E:XK):Cx where
 prog:=P
 w:=w
 K:=K
 mg:=mg
 base:=base
 A:=A.deeper (envOfC qual scope s.heap.objs.size f cd)
 N:=N
 s₀:=s
 H₀:=H
 env:=envOfC qual scope s.heap.objs.size f cd
 outer:=outer
 stack:=envOfC qual scope s.heap.objs.size f cd::outer
 ex:=[]
 calm:=true
 fn:=fun _=>true
 pn:=[]
 xe:=fun e s'=>wpAny (model P w) (A.deeper (envOfC qual scope s.heap.objs.size f cd)) (leaving (envOfC qual scope s.heap.objs.size f cd) e) (fun _ s''=>CX outer H s E e s'') (fun e' s''=>CX outer H s E e' s'') s'
theorem cell_has {sc:Scope}{n:Nat}{x:Str}(h:sc.names.lookup x=some .cell):∃ c,(cellsFrom n sc.names []).lookup x=some c:=by
 have q:=PySem.W.cellsFrom_some sc.names n [] (.inl h)
 exact Option.isSome_iff_exists.mp q
theorem inv_start {CX:CXT}{P:Program}{w:World}{K:PySem.W.Frag}{mg:Str→Option Value}{base:Heap}{N ps:List Str}{qual:Str}{scope:Scope}{f:Addr}{cd:Value}{A:Around}{outer:List Env}{s s1:Shared}{H:Hp}{E:XK}{us:List Value}{vs:List V}
 (S:FnScope N ps scope) (hd:A.handled=none) (e0:Env0 P w K mg base A outer s H) (hl:vs.length=ps.length) (r:Vals vs us)
 (x:InCallC s s.heap.objs.size (bindL (envOfC qual scope s.heap.objs.size f cd).kindOf (ps.zip us) fun _=>none) (cellsFrom (s.heap.objs.size+1) scope.names []) (bindC (envOfC qual scope s.heap.objs.size f cd).kindOf (ps.zip us) fun _=>none) s1) :
 Inv (cxOf CX P w K mg base N qual scope f cd A outer s H E) [] (start N vs) H s1:=by
 have hpl:ps.length≤N.length:=by have:=congrArg List.length S.pre;rw [List.length_take] at this;omega
 obtain ⟨h1,tk,rfl,hk⟩:=x.done
 have noA:∀ b:Addr,b∉(cxOf CX P w K mg base N qual scope f cd A outer s H E).ex:=fun b z=>absurd (show b∈([]:List Addr) from z) (by simp)
 refine ⟨⟨e0.mod,S.kind,rfl,rfl,Nat.le_refl _,fun y z c h1 h2=>?_,fun y hy=>?_,fun y c _ h=>?_,fun _=>hd,Around.frames_deeper e0.frames,.inr ⟨rfl,rfl⟩,fun b z=>absurd z (noA b),e0.bs,e0.bsz,fun b _ _=>noA b,fun b z=>absurd z (noA b),e0.funs,e0.frf⟩,
  rfl,e0.bare,Un.kept hk,⟨_,x.toInCall.ns,fun i y v h1 h2 h3=>?_⟩,fun y c h=>⟨_,x.cell y c h⟩,e0.hok.fresh (Nat.le_refl _),fun y c h=>?_,fun p hp=>absurd (show p∈([]:List (Addr×Obj)) from hp) (by simp),e0.hok.kept hk,?_⟩
 · exact name_of_addr x.apart (PySem.mem_of_lookup h1) (PySem.mem_of_lookup h2)
 · have hy:scope.names.lookup y=some .cell∨scope.names.lookup y=some .free:=hy
   rcases hy with hy | hy
   · exact cell_has hy
   · exact absurd rfl (S.nofree _ (PySem.mem_of_lookup hy))
 · exact Nat.le_of_lt (x.above y c (PySem.mem_of_lookup h))
 · have hi:i<vs.length:=by
    unfold start at h2
    by_cases hi:i<vs.length
    · exact hi
    · rw [List.getElem?_append_right (by simpa using hi)] at h2
      rw [List.getElem?_replicate] at h2
      split at h2<;>cases h2
   have ha:vs[i]? = some v:=by
    unfold start at h2
    rw [List.getElem?_append_left (by simpa using hi),List.getElem?_map] at h2
    cases e:vs[i]? with
    | none=>rw [e] at h2;cases h2
    | some a=>rw [e] at h2;cases h2;rfl
   obtain ⟨u,hu,rv⟩:=r.get ha
   have hp:ps[i]? = some y:=by
    rw [← S.pre,List.getElem?_take_of_lt (by omega)];exact h1
   have ndP:ps.Nodup:=by rw [← S.pre];exact S.nd.sublist (List.take_sublist _ _)
   refine ⟨u,rv,?_⟩
   rcases S.par y (List.mem_of_getElem? hp) with k | k
   · exact .inl ⟨k,bindL_get ndP hp hu k⟩
   · obtain ⟨c,e⟩:=cell_has (n:=s.heap.objs.size+1) k
     refine .inr ⟨.inl k,c,e,?_⟩
     have q:=x.cell y c e
     rw [bindC_get ndP hp hu (by show scope.names.lookup y≠_;rw [k];decide)] at q
     exact q
 · exact e0.hok.fresh (Nat.le_of_lt (x.above y c (PySem.mem_of_lookup h)))
 · unfold start
   show _=N.length
   rw [List.length_append,List.length_map,List.length_replicate]
   omega
theorem fn_of {CX:CXT}{P:Program}{w:World}{K:PySem.W.Frag}{mg:Str→Option Value}{base:Heap}{k:Nat}{f:Addr}{name qual:Str}{params:Arguments}{body:List Stmt}{scope:Scope}{dV kV doc pm cdv ct oc:Value}{an od:Option Addr}
 {osl:Array (Option Value)} {N ps:List Str} {sp:Sp} (lk:K.lookup f=some ⟨oc,od,.func (PySem.W.fnOf name qual params body scope dV kV doc pm an cdv ct),osl⟩) (hcd:PySem.W.codeIn K cdv qual=true) (S:FnScope N ps scope)
 (len:∀ vs H Q E,sp vs H Q E→vs.length=ps.length)
 (hbody:∀ (A:Around) (outer:List Env) (s:Shared) (H:Hp) (vs:List V) (Q:VK) (E:XK),Room k (A.deeper (envOfC qual scope s.heap.objs.size f cdv))→sp vs H Q E →
  ∃ t,PSs (cxOf CX P w K mg base N qual scope f cdv A outer s H E) body t∧t { nx:=fun _ H'=>Q .non H',rt:=Q } (start N vs) H) :
 FnOk P w K mg base CX (k+1) f (PySem.W.fnOf name qual params body scope dV kV doc pm an cdv ct) ps sp:=by
 refine ⟨len,fun A outer s H args us vs Q E hr e0 hb r hsp=>?_⟩
 have hl:=len _ _ _ _ hsp
 have KX:K.In s.heap:=e0.mod.kin.keeps fun b o e=>(e0.bs b o e).1
 have lim:s.heap.NoLimit:=e0.mod.nolimit.keeps fun b o e=>(e0.bs b o e).1
 have hkind:∀ y∈ps.zip us,scope.names.lookup y.1=some .local ∨ (scope.names.lookup y.1=some .cell∧((cellsFrom (s.heap.objs.size+1) scope.names []).lookup y.1).isSome=true):=fun ⟨n,v⟩ hy=>by
  rcases S.par n (List.of_mem_zip hy).1 with q | q
  · exact .inl q
  · exact .inr ⟨q,PySem.W.cellsFrom_some _ _ _ (.inl q)⟩
 refine codeAny_call_function hr.depth (KX _ _ lk) rfl S.co S.gen rfl (PySem.W.codeRec_of KX hcd) (hb _ _ _ _ ?_)
 refine wpAny_newFunctionEnv_cells S.kind hkind fun env he s1 x=>?_
 subst he
 refine ⟨lim.keeps x.toInCall.keep,codeAny_func ?_⟩
 obtain ⟨t,ht,hq⟩:=hbody A outer s H vs Q E (hr.deeper _) hsp
 have I:Inv (cxOf CX P w K mg base N qual scope f cdv A outer s H E) [] (start N vs) H s1:=inv_start S hr.hd e0 hl r x
 refine wpAny_mono (ht [] s1 (start N vs) H _ I hq) (fun fl s' hs=>?_) fun e s' hs=>hs
 have fin:∀ {σ':St} {H':Hp} {v:V} {u:Value},Inv (cxOf CX P w K mg base N qual scope f cdv A outer s H E) [] σ' H' s'→RelV v u→Q v H'→CE outer P w H s Q u s':=
  fun {σ' H' v u} J rv q=>⟨v,H',J.os,J.bare,J.base,J.hok,rv,q⟩
 cases fl with
 | ret u=>
  obtain ⟨v,σ',H',J,rv,q⟩:=hs
  exact fin J rv q
 | next=>
  obtain ⟨σ',H',J,q⟩:=hs
  exact fin (v:=V.non) (u:=Value.none) J rfl q
 | brk=>
  obtain ⟨_,_,_,q⟩:=hs
  exact False.elim q
 | cont=>
  obtain ⟨_,_,_,q⟩:=hs
  exact False.elim q
section
variable {X:Cx}{x:Str}{p pos:Pos}{e:Expr}{es:List Expr}{t:TA}{id T:String}{r:List V→Hp→VK→Prop}
noncomputable def tCB (r:List V→Hp→VK→Prop) (t:TA):TE:=fun σ H Q=>t σ H fun vs H1=>r vs H1 Q
theorem pe_callB (hc:CallR X (.builtin id) r) (hg:Gl X x) (hm:X.mg x=none) (hv:bootBuiltins x=some (.builtin id)) (ha:PA X (e::es) t) (hn:x≠"__name__":=by decide) (hdb:(x==("__debug__":Str))=false:=by decide)
 (he:starEach (e::es) X.env=(false,eval e X.env)::starEach es X.env:=by rfl) (hpl:(backTo pos (starEach es X.env)).any (·.1)=false:=by rfl):PE X (.Call (.Name x p) (e::es) [] pos) (tCB r t):=by
 intro pins s σ H Q I h
 refine wpAny_Call_Name_kw (ld_blt I hg hm hv ?_ hn hdb)
 exact PyProof.Rows.callWith_builtin1 (thn (ha pos pins s σ H _ I h) fun us s1 ⟨vs,H1,I1,r1,q1⟩=>hc pins s1 σ H1 vs us Q I1 r1 q1) he hpl
theorem pe_callTy (hc:CallR X (.type T) r) (hg:Gl X x) (hm:X.mg x=none) (hv:bootBuiltins x=some (.type T)) (ha:PA X (e::es) t) (hn:x≠"__name__":=by decide) (hdb:(x==("__debug__":Str))=false:=by decide)
 (he:starEach (e::es) X.env=(false,eval e X.env)::starEach es X.env:=by rfl) (hpl:(backTo pos (starEach es X.env)).any (·.1)=false:=by rfl):PE X (.Call (.Name x p) (e::es) [] pos) (tCB r t):=by
 intro pins s σ H Q I h
 refine wpAny_Call_Name_kw (ld_blt I hg hm hv ?_ hn hdb)
 exact PyProof.Rows.callWith_type1 (thn (ha pos pins s σ H _ I h) fun us s1 ⟨vs,H1,I1,r1,q1⟩=>hc pins s1 σ H1 vs us Q I1 r1 q1) he hpl
end
end L2
namespace HT
open PySem PyProof.Rows
section
open PySem.SeqAt
open PySem.AutoSeq1 (wpAny_loadPart')
open PySem.MeetsSeq PySem.MeetsSeq2 PySem.MeetsSeq3
end
section
variable {prog:Program}{w:World}{A:Around}{E:Value→Shared→Prop}{s:Shared}
noncomputable def sIx (n d:Nat):Option Int→Nat
 | none=>d
 | some v=>if v<0 then (v+(n:Int)).toNat else min v.toNat n
theorem sIx_none (n d:Nat):sIx n d none=d:=rfl
theorem sIx_nat (n d k:Nat):sIx n d (some (k:Int))=min k n:=by
 show (if (k:Int)<0 then ((k:Int)+(n:Int)).toNat else min (k:Int).toNat n)=min k n
 rw [if_neg (by omega),Int.toNat_natCast]
theorem sIx_le (n d:Nat) (hd:d≤n) (o:Option Int):sIx n d o≤n:=by
 cases o with
 | none=>exact hd
 | some v=>
  show (if v<0 then (v+(n:Int)).toNat else min v.toNat n)≤n
  by_cases hv:v<0
  · rw [if_pos hv];omega
  · rw [if_neg hv];exact Nat.min_le_right _ _
theorem clip_eq (v:Int) (n d:Nat):(if v<0 then max (v+(n:Int)) 0 else min v (n:Int))=((sIx n d (some v):Nat):Int):=by
 show (if v<0 then max (v+(n:Int)) 0 else min v (n:Int))=(((if v<0 then (v+(n:Int)).toNat else min v.toNat n):Nat):Int)
 by_cases hv:v<0
 · simp only [if_pos hv];omega
 · simp only [if_neg hv];omega
theorem adjust_gen (lo hi:Option Int) (n:Nat):Builtin.Slice.sliceAdjust lo hi 1 (n:Int)=(((sIx n 0 lo:Nat):Int),((sIx n n hi:Nat):Int)):=by
 have h1:¬ ((1:Int)<0):=by omega
 unfold Builtin.Slice.sliceAdjust
 simp only [h1,if_false]
 refine Prod.ext ?_ ?_
 · cases lo with
   | none=>rfl
   | some v=>exact clip_eq v n 0
 · cases hi with
   | none=>rfl
   | some v=>exact clip_eq v n n
theorem places_gen (i j:Nat):Builtin.Slice.slicePlaces (i:Int) (j:Int) 1=j-i:=by
 unfold Builtin.Slice.slicePlaces
 have h1:(1:Int)>0:=by omega
 simp only [h1,if_true,Int.ediv_one]
 split<;>omega
theorem slicePart_ {v:Value}{o:Option Int}{Q:Option Int→Shared→Prop}(p:IsPart v o) (h:Q o s):wpAny (model prog w) A (Builtin.Slice.slicePartIndex v) Q E s:=by
 cases p with
 | none=>exact slicePart_none h
 | int i t=>exact slicePart_int h
theorem sliceApplied_gen {sl:Addr}{vl vu:Value}{lo hi:Option Int}{n:Nat}{Q:Int×Int×Nat→Shared→Prop}(hs:s.heap.IsSliceOf sl vl vu .none) (pl:IsPart vl lo) (pu:IsPart vu hi)
 (h:Q (((sIx n 0 lo:Nat):Int),1,sIx n n hi-sIx n 0 lo) s):wpAny (model prog w) A (Builtin.Slice.sliceApplied (.ref sl) (pure (n:Int))) Q E s:=by
 obtain ⟨os,hos,hcs,hds⟩:=id hs
 unfold Builtin.Slice.sliceApplied Builtin.Slice.sliceFields
 refine wpAny_bind (wpAny_bind (wpAny_field hos hds (x:=vl) rfl (wpAny_bind (wpAny_field hos hds (x:=vu) rfl (wpAny_bind (wpAny_field hos hds (x:=.none) rfl (wpAny_pure ?_)))))))
 refine wpAny_bind (slicePart_none ?_)
 show wpAny _ _ (if ((1:Int)==0)=true then _ else _) _ _ s
 rw [if_neg (by decide)]
 refine wpAny_bind (slicePart_ pl (wpAny_bind (slicePart_ pu (wpAny_bind (wpAny_pure ?_)))))
 show wpAny _ _ (match Builtin.Slice.sliceAdjust lo hi 1 (n:Int) with | (lo,hi)=>pure (lo,(1:Int),Builtin.Slice.slicePlaces lo hi 1)) _ _ s
 rw [adjust_gen lo hi n]
 show wpAny _ _ (pure (((sIx n 0 lo:Nat):Int),(1:Int),Builtin.Slice.slicePlaces ((sIx n 0 lo:Nat):Int) ((sIx n n hi:Nat):Int) 1)) _ _ s
 rw [places_gen]
 exact wpAny_pure h
theorem pick_gen (xs:Array Value) (i k:Nat):((List.range k).filterMap fun (m:Nat)=>xs[((i:Int)+(m:Int)*1).toNat]?).toArray=((xs.toList.drop i).take k).toArray:=by
 have e:(fun (m:Nat)=>xs[((i:Int)+(m:Int)*1).toNat]?)=fun m=>xs[i+m]?:=by
  funext m
  have:((i:Int)+(m:Int)*1).toNat=i+m:=by omega
  rw [this]
 rw [e]
 have:=pick_run xs i k
 rw [List.filterMap_map] at this
 have e2:((fun x=>xs[x]?)∘fun x=>i+x)=fun m=>xs[i+m]?:=rfl
 rw [e2] at this
 rw [this]
theorem getItem_tuple_cut {t sl:Addr}{items:Array Value}{vl vu:Value}{lo hi:Option Int}{Q:Value→Shared→Prop}(ht:IsTup s.heap t items) (hs:s.heap.IsSliceOf sl vl vu .none) (pl:IsPart vl lo) (pu:IsPart vu hi)
 (hw:¬ (sIx items.size 0 lo=0∧sIx items.size items.size hi=items.size))
 (h:Q (.ref s.heap.objs.size) { s with heap:=s.heap.push { cls:=.type "tuple",data:=.seq ((items.toList.drop (sIx items.size 0 lo)).take (sIx items.size items.size hi-sIx items.size 0 lo)).toArray } })
 (hsz:items.size≤sizeLine):wpAny (model prog w) A (getItem (.ref t) (.ref sl)) Q E s:=by
 have htake:sizeOk (.seq ((items.toList.drop (sIx items.size 0 lo)).take (sIx items.size items.size hi-sIx items.size 0 lo)).toArray):=by
  show ((items.toList.drop (sIx items.size 0 lo)).take (sIx items.size items.size hi-sIx items.size 0 lo)).toArray.size≤sizeLine
  rw [List.size_toArray,List.length_take,List.length_drop,Array.length_toList]
  omega
 have hj:sIx items.size items.size hi≤items.size:=sIx_le _ _ (Nat.le_refl _) hi
 obtain ⟨os,hos,hcs,hds⟩:=id hs
 have hTs:s.TypeIs (.ref sl) "slice":=⟨os,hos,hcs⟩
 unfold getItem
 try with_reducible refine wpAny_holding ?_
 first | refine wpAny_bind (wpAny_pure ?_) | skip
 refine wpAny_bind (wpAny_sequenceKey ht.typeIs (by decide) ?_)
 refine wpAny_bind (wpAny_callSpecial?_slot (name:=Str.ofString "__getitem__") ht.typeIs PyProof.Rows.slot_tuple_getitem
  (wpAny_call_entry PyProof.Rows.slot_tuple_getitem ht.typeIs entry_tuple_getitem ?_ (args_tuple_getitem _ _)))
 show wpAny _ _ (Builtin.Tuple.tupleItemsOf (.ref t) >>= _) _ _ s
 refine wpAny_bind (tupleItemsOf_ ht ?_)
 refine wpAny_bind (wpAny_typeOf hTs ?_)
 rw [if_pos (by decide)]
 refine wpAny_bind (sliceApplied_gen hs pl pu ?_)
 have hno:¬ ((((sIx items.size 0 lo:Nat):Int)==0&&(1:Int)==1&&(sIx items.size items.size hi-sIx items.size 0 lo)==items.size)=true):=by
  intro q
  rw [Bool.and_eq_true,Bool.and_eq_true] at q
  have q1:((sIx items.size 0 lo:Nat):Int)=0:=eq_of_beq q.1.1
  have q2:sIx items.size items.size hi-sIx items.size 0 lo=items.size:=eq_of_beq q.2
  exact hw ⟨by omega,by omega⟩
 show wpAny _ _ (if (((sIx items.size 0 lo:Nat):Int)==0&&(1:Int)==1&&(sIx items.size items.size hi-sIx items.size 0 lo)==items.size)=true then _ else _) _ _ s
 rw [if_neg hno,pick_gen]
 first
  | exact wpAny_bind (m:=Builtin.Tuple.tupleExact _) (wpAny_newObj_type (wpAny_pure ⟨_,rfl,wpAny_pure h⟩) htake)
  | exact wpAny_bind (m:=Builtin.Tuple.tupleExact _) (wpAny_newObj_type (wpAny_bind (wpAny_pure (wpAny_pure ⟨_,rfl,wpAny_pure h⟩))) htake)
  | exact wpAny_bind (wpAny_bind (m:=Builtin.Tuple.tupleExact _) (wpAny_newObj_type (wpAny_pure (wpAny_pure ⟨_,rfl,wpAny_pure h⟩)) htake))
  | exact wpAny_bind (wpAny_bind (m:=Builtin.Tuple.tupleExact _) (wpAny_newObj_type (wpAny_pure ⟨_,rfl,wpAny_pure h⟩) htake))
end
end HT
namespace L2
open PySem PySem.Spec PyProof.Rows
noncomputable abbrev TO:=St→Hp→(Option Int→Hp→Prop)→Prop
noncomputable def PO (X:Cx) (e:Option Expr) (t:TO):Prop:=
 ∀ (pins:List (Addr×Obj)) (s:Shared) (σ:St) (H:Hp) (Q:Option Int→Hp→Prop),Inv X pins σ H s→t σ H Q →
  wpAny (model X.prog X.w) X.A (evalPart e X.env) (fun u s'=>∃ o H',Inv X pins σ H' s'∧IsPart u o∧Q o H') X.xe s
noncomputable def tNoPart:TO:=fun _ H Q=>Q none H
noncomputable def tPart (t:TE):TO:=fun σ H Q=>t σ H fun x H1=>∃ i,x = .int i∧Q (some i) H1
theorem intsAre_of {ns:List Int}:∀ {us:List Value},Vals (ns.map V.int) us→IntsAre us ns:=by
 induction ns with
 | nil=>intro us r;rw [List.map_nil] at r;cases r;exact .nil
 | cons n ns ih=>
  intro us r
  rw [List.map_cons] at r
  cases r with
  | cons r1 r2=>
   obtain ⟨t,e⟩:=r1
   subst e
   exact .cons n t (ih r2)
section
variable {X:Cx}{e:Expr}{te:TE}{lo hi:Option Expr}{tl th:TO}{pos p2:Pos}
theorem po_none:PO X none tNoPart:=by
 intro pins s σ H Q I h
 rw [evalPart_none]
 exact wpAny_pure ⟨none,H,I,.none,h⟩
theorem po_some (h:PE X e te):PO X (some e) (tPart te):=by
 intro pins s σ H Q I hw
 rw [evalPart_some]
 refine thn (h pins s σ H _ I hw) fun u s1 ⟨x,H1,I1,r1,q1⟩=>?_
 obtain ⟨i,rfl,q⟩:=q1
 obtain ⟨t,rfl⟩:=r1
 exact ⟨some i,H1,I1,.int i t,q⟩
noncomputable def SlR (X:Cx) (r:V→Option Int→Option Int→Hp→VK→Prop):Prop:=
 ∀ (pins:List (Addr×Obj)) (s:Shared) (σ:St) (H:Hp) (x:V) (v vl vu:Value) (lo hi:Option Int) (sl:Addr) (Q:VK),Inv X pins σ H s→RelV x v→s.heap.IsSliceOf sl vl vu .none→IsPart vl lo→IsPart vu hi→r x lo hi H Q →
  ∃ T id,typeLookup (.type T) "__getitem__" = pure (some (.builtin id))∧s.TypeIs v T∧wpAny (model X.prog X.w) X.A (getItem v (.ref sl)) (EP X pins σ Q) X.xe s
noncomputable def tSl (r:V→Option Int→Option Int→Hp→VK→Prop) (te:TE) (tl th:TO):TE:=fun σ H Q=>te σ H fun x H1=>tl σ H1 fun l H2=>th σ H2 fun u H3=>r x l u H3 Q
theorem pe_slice {r:V→Option Int→Option Int→Hp→VK→Prop}(hr:SlR X r) (he:PE X e te) (hl:PO X lo tl) (hu:PO X hi th):PE X (.Subscript e (.Slice lo hi none p2) pos) (tSl r te tl th):=by
 intro pins s σ H Q I h
 refine Subscript_ (thn (he pins s σ H _ I h) fun v s1 ⟨x,H1,I1,r1,q1⟩=>?_)
 refine wpAny_Slice (thn (hl pins s1 σ H1 _ I1 q1) fun vl s2 ⟨l,H2,I2,pl,q2⟩=>thn (hu pins s2 σ H2 _ I2 q2) fun vu s3 ⟨u,H3,I3,pu,q3⟩=>?_)
 rw [evalPart_none]
 refine wpAny_pure ?_
 have I4:Inv X pins σ H3 { s3 with heap:=s3.heap.push { cls:=.type "slice",data:=.fields #[vl,vu,.none] } }:=I3.kept (t':=s3.toks) fun b ob q=>Heap.get?_push_of_some _ q
 obtain ⟨T,id,hT,ht,hg⟩:=hr pins { s3 with heap:=s3.heap.push { cls:=.type "slice",data:=.fields #[vl,vu,.none] } } σ H3 x v vl vu l u s3.heap.objs.size Q I4 r1 (Heap.IsSliceOf.new ..) pl pu q3
 show wpAny (model X.prog X.w) X.A (subscriptTail e (.Slice lo hi none p2) v (.ref s3.heap.objs.size)) (EP X pins σ Q) X.xe { s3 with heap:=s3.heap.push { cls:=.type "slice",data:=.fields #[vl,vu,.none] } }
 exact tail_any (ops:=[.ref s3.heap.objs.size,v]) ht hT hg (by with_unfolding_all rfl)
noncomputable def cutV (xs:List V) (lo hi:Option Int):List V:=(xs.drop (HT.sIx xs.length 0 lo)).take (HT.sIx xs.length xs.length hi-HT.sIx xs.length 0 lo)
theorem cutV_length (xs:List V) (lo hi:Option Int):(cutV xs lo hi).length≤xs.length:=by
 unfold cutV
 rw [List.length_take,List.length_drop]
 omega
noncomputable def rSlT (K:PySem.W.Frag):V→Option Int→Option Int→Hp→VK→Prop:=fun x lo hi H Q=>∃ a xs,x = .ref a∧SqT K H a xs ∧
 ¬ (HT.sIx xs.length 0 lo=0∧HT.sIx xs.length xs.length hi=xs.length)∧∀ p,H p=none→Q (.ref p) (upd H p (.tup (cutV xs lo hi)))
theorem sl_tup:SlR X (rSlT X.K):=by
 intro pins s σ H x v vl vu lo hi sl Q I rx hs pl pu h
 obtain ⟨a,xs,rfl,hx,hw,q⟩:=h
 cases rx
 obtain ⟨its,r,ht,hz⟩:=I.tuple hx
 have hlen:its.toArray.size=xs.length:=by rw [List.size_toArray];exact r.length.symm
 refine ⟨"tuple",_,PyProof.Rows.slot_tuple_getitem.lookup,ht.typeIs,?_⟩
 refine HT.getItem_tuple_cut ht hs pl pu (by rw [hlen];exact hw) ?_ (by rw [hlen];exact hz)
 rw [hlen]
 refine ⟨.ref s.heap.objs.size,_,I.laid (t':=s.toks) (o:=.tup (cutV xs lo hi)) (fun b ob q=>Heap.get?_push_of_some _ q) (Nat.le_refl _) ?_,rfl,q _ (I.hok.fresh (Nat.le_refl _))⟩
 exact ⟨Nat.le_trans (cutV_length xs lo hi) hz,_,(r.drop (HT.sIx xs.length 0 lo)).take (HT.sIx xs.length xs.length hi-HT.sIx xs.length 0 lo),IsTup.new _ _⟩
end
noncomputable def ixN (n:Nat) (i:Int):Option Nat:=if 0≤i then (if i<n then some i.toNat else none) else if -(n:Int)≤i then some (i+n).toNat else none
noncomputable def atI {α:Type}(xs:List α) (i:Int):Option α:=(ixN xs.length i).bind fun j=>xs[j]?
theorem ixN_seq {n:Nat}{i:Int}{j:Nat}(h:ixN n i=some j):seqIndex? i n=some j∧j<n∧-(n:Int)≤i∧i<n:=by
 unfold ixN at h
 by_cases h0:0≤i
 · rw [if_pos h0] at h
   by_cases h1:i<n
   · rw [if_pos h1] at h
     have e:i.toNat=j:=Option.some.inj h
     exact ⟨by rw [seqIndex_of h0 h1,e],by omega,by omega,h1⟩
   · rw [if_neg h1] at h;cases h
 · rw [if_neg h0] at h
   by_cases h1:-(n:Int)≤i
   · rw [if_pos h1] at h
     have e:(i+n).toNat=j:=Option.some.inj h
     exact ⟨by rw [seqIndex_neg (by omega) h1,e],by omega,h1,by omega⟩
   · rw [if_neg h1] at h;cases h
theorem atI_get {α:Type}{xs:List α}{i:Int}{v:α}(h:atI xs i=some v):∃ j,seqIndex? i xs.length=some j∧xs[j]? = some v∧j<xs.length∧-(xs.length:Int)≤i∧i<xs.length:=by
 unfold atI at h
 cases e:ixN xs.length i with
 | none=>rw [e] at h;cases h
 | some j=>
  rw [e] at h
  obtain ⟨h1,h2,h3,h4⟩:=ixN_seq e
  exact ⟨j,h1,h,h2,h3,h4⟩
theorem atI_nat {α:Type}{xs:List α}{j:Nat}{v:α}(h:xs[j]? = some v):atI xs (j:Int)=some v:=by
 have hj:j<xs.length:=(List.getElem?_eq_some_iff.mp h).1
 have e:ixN xs.length (j:Int)=some j:=by
  unfold ixN
  rw [if_pos (by omega),if_pos (by omega)];simp
 unfold atI;rw [e];exact h
noncomputable def PlainIx (b:Expr):Prop:=∀ o i,subscripted b false o i=operate [o,i] (getItem o i)
noncomputable def IxR (X:Cx) (r:R2):Prop:=
 ∀ (value slice:Expr) (pins:List (Addr×Obj)) (s:Shared) (σ:St) (H:Hp) (x y:V) (v u:Value) (Q:VK),Inv X pins σ H s→RelV x v→RelV y u→r x y H Q →
  subscripted slice false v u=operate [v,u] (getItem v u)→wpAny (model X.prog X.w) X.A (subscriptTail value slice v u) (EP X pins σ Q) X.xe s
noncomputable def MtR (X:Cx) (id:String) (r:V→List V→Hp→VK→Prop):Prop:=
 ∀ (pins:List (Addr×Obj)) (s:Shared) (σ:St) (H:Hp) (x:V) (xs:List V) (v:Value) (us:List Value) (Q:VK),Inv X pins σ H s→RelV x v→Vals xs us→r x xs H Q →
  wpAny (model X.prog X.w) X.A (call (.builtin id) (v::us)) (EP X pins σ Q) X.xe s
section
variable {X:Cx}{a b:Expr}{ta tb:TE}{pos:Pos}
theorem pe_ix {r:R2}(hr:IxR X r) (ha:PE X a ta) (hb:PE X b tb) (hs:PlainIx b):PE X (.Subscript a b pos) (tOp r ta tb):=by
 intro pins s σ H Q I h
 exact Subscript_ (binT ha hb I h fun v u s2 x y H2 I2 rx ry q=>hr a b pins s2 σ H2 x y v u Q I2 rx ry q (hs _ _))
noncomputable def rIxL (K:PySem.W.Frag):R2:=fun x y H Q=>∃ p xs i v,x = .ref p∧y = .int i∧SqL K H p xs∧atI xs i=some v∧Q v H
noncomputable def rIxT (K:PySem.W.Frag):R2:=fun x y H Q=>∃ p xs i v,x = .ref p∧y = .int i∧SqT K H p xs∧atI xs i=some v∧Q v H
theorem ix_list:IxR X (rIxL X.K):=by
 intro value slice pins s σ H x y v u Q I rx ry h hs
 obtain ⟨p,xs,i,z,rfl,rfl,hq,he,q⟩:=h
 cases rx
 obtain ⟨t,rfl⟩:=ry
 obtain ⟨its,r,pl,hz⟩:=I.list hq
 obtain ⟨j,h1,h2,h3,h4,h5⟩:=atI_get he
 obtain ⟨w,ew,rw'⟩:=r.get h2
 have hl:=r.length
 have hn:=line63
 have fin:EP X pins σ Q w s:=⟨z,H,I,rw',q⟩
 by_cases h0:0≤i
 · have hj:i.toNat=j:=by
    rw [seqIndex_of h0 h5] at h1
    exact Option.some.inj h1
   exact item_listR pl.isList h0 (by omega) (by rw [hj];simpa using ew) fin hs
 · have hj:(i+(its.toArray.size:Int)).toNat=j:=by
    rw [seqIndex_neg (by omega) h4] at h1
    rw [List.size_toArray,← hl]
    exact Option.some.inj h1
   exact subscriptTail_builtinR (x:=w) pl.isList.typeIs slot_list_getitem.lookup
    (wpAny_getItem_list_neg (Q:=fun r s'=>r=w∧EP X pins σ Q r s') pl.isList (by omega) (by rw [List.size_toArray]<;>omega) (by omega) (by rw [hj];simpa using ew) ⟨rfl,fin⟩) hs
theorem ix_tup:IxR X (rIxT X.K):=by
 intro value slice pins s σ H x y v u Q I rx ry h hs
 obtain ⟨p,xs,i,z,rfl,rfl,hq,he,q⟩:=h
 cases rx
 obtain ⟨t,rfl⟩:=ry
 obtain ⟨its,r,pl,hz⟩:=I.tuple hq
 obtain ⟨j,h1,h2,h3,h4,h5⟩:=atI_get he
 obtain ⟨w,ew,rw'⟩:=r.get h2
 have hl:=r.length
 have hn:=line63
 have fin:EP X pins σ Q w s:=⟨z,H,I,rw',q⟩
 exact subscriptTail_builtinR (x:=w) pl.typeIs slot_tuple_getitem.lookup
  (getItem_tuple (j:=j) (Q:=fun r s'=>r=w∧EP X pins σ Q r s') pl (by omega) (by omega) (by rw [List.size_toArray,← hl];exact h1) (by simpa using ew) ⟨rfl,fin⟩) hs
theorem mapSeq_set (its:List Value) (n j:Nat) (u:Value):Obj.mapSeq (·.setIfInBounds j u) { cls:=.type "list",data:=.seq its.toArray n } = { cls:=.type "list",data:=.seq (its.set j u).toArray n }:=by
 simp [Obj.mapSeq]
theorem Inv.lst {pins:List (Addr×Obj)}{σ:St}{H:Hp}{s:Shared}{p:Addr}{xs:List V}(I:Inv X pins σ H s) (h:H p=some (.lst xs)) :
 ∃ (its:List Value) (n:Nat),Vals xs its∧s.heap.get? p=some { cls:=.type "list",data:=.seq its.toArray n }∧xs.length≤sizeLine:=by
 obtain ⟨z,its,n,r,e⟩:=I.hok p _ h
 exact ⟨its,n,r,e,z⟩
theorem Inv.lstUpd {pins:List (Addr×Obj)}{σ:St}{H:Hp}{s:Shared}{p:Addr}{xs ys:List V}{its its':List Value}{n n':Nat}{f:Obj→Obj}(I:Inv X pins σ H s) (h:H p=some (.lst xs))
 (ho:s.heap.get? p=some { cls:=.type "list",data:=.seq its.toArray n }) (hf:f { cls:=.type "list",data:=.seq its.toArray n } = { cls:=.type "list",data:=.seq its'.toArray n' }) (r:Vals ys its') (hz:ys.length≤sizeLine) (t:Nat) :
 Inv X pins σ (upd H p (.lst ys)) { s with heap:=s.heap.update p f,toks:=t }:=by
 have e:(s.heap.update p f).get? p=some { cls:=.type "list",data:=.seq its'.toArray n' }:=by
  rw [Heap.get?_update_self f ho (by rw [hf]<;>rfl),hf]
 refine I.write (x:=p) (e:=p) (by rw [h];trivial) (.inl rfl) (fun b u hb q=>(Heap.get?_update_other _ _ (Ne.symm hb)).trans q) ⟨_,e⟩ ?_
 exact ⟨hz,its',n',r,e⟩
noncomputable def rSetL:V→V→V→Hp→(Hp→Prop)→Prop:=fun o i v H Q=>∃ p xs k j,o = .ref p∧i = .int k∧H p=some (.lst xs)∧ixN xs.length k=some j∧Q (upd H p (.lst (xs.set j v)))
theorem set_list:PSet X rSetL:=by
 intro pins s σ H o i v ov iv u Q I ro ri rv h
 obtain ⟨p,xs,k,j,rfl,rfl,hp,hj,q⟩:=h
 cases ro
 obtain ⟨t,rfl⟩:=ri
 obtain ⟨its,n,r,ho,hz⟩:=I.lst hp
 obtain ⟨h1,h2,h3,h4⟩:=ixN_seq hj
 have hl:=r.length
 have hn:=line63
 have I':Inv X pins σ (upd H p (.lst (xs.set j v))) { s with heap:=s.heap.update p (Obj.mapSeq (·.setIfInBounds j u)) }:=
  I.lstUpd hp ho (mapSeq_set its n j u) (r.set rv j) (by rw [List.length_set];exact hz) s.toks
 by_cases h0:0≤k
 · have hk:k.toNat=j:=by
    rw [seqIndex_of h0 h4] at h1
    exact Option.some.inj h1
   exact PySem.W.ki_setAt ho h0 (by omega) (by rw [List.size_toArray,← hl];exact h4) (by rw [hk];exact ⟨_,I',q⟩)
 · have hk:(k+(its.toArray.size:Int)).toNat=j:=by
    rw [seqIndex_neg (by omega) h3] at h1
    rw [List.size_toArray,← hl]
    exact Option.some.inj h1
   exact PySem.W.ki_setBack ho (by omega) (by rw [List.size_toArray,← hl];exact h3) (by omega) (by rw [hk];exact ⟨_,I',q⟩)
theorem slice_bounds (lo hi:Option Int) (n:Nat):(sliceBounds lo hi none n).1=((HT.sIx n 0 lo:Nat):Int)∧(sliceBounds lo hi none n).2.1=((HT.sIx n n hi:Nat):Int)∧(sliceBounds lo hi none n).2.2=1:=by
 refine ⟨?_,?_,rfl⟩
 · cases lo with
   | none=>simp [sliceBounds,HT.sIx]
   | some i=>
    simp only [sliceBounds,HT.sIx,Option.getD_none,show (1:Int)>0 by decide,if_true]
    by_cases h:i<0
    · simp only [h,if_true]<;>omega
    · simp only [h,if_false]<;>omega
 · cases hi with
   | none=>simp [sliceBounds,HT.sIx]
   | some i=>
    simp only [sliceBounds,HT.sIx,Option.getD_none,show (1:Int)>0 by decide,if_true]
    by_cases h:i<0
    · simp only [h,if_true]<;>omega
    · simp only [h,if_false]<;>omega
theorem slicePick_cut (its:List Value) (lo hi:Option Int):slicePick its.toArray lo hi none=((its.drop (HT.sIx its.length 0 lo)).take (HT.sIx its.length its.length hi-HT.sIx its.length 0 lo)).toArray:=by
 obtain ⟨h1,h2,h3⟩:=slice_bounds lo hi its.toArray.size
 unfold slicePick
 rw [h1,h2,h3]
 simp only [sliceRange_one,pick_run,List.size_toArray]<;>rfl
noncomputable def rSlL (K:PySem.W.Frag):V→Option Int→Option Int→Hp→VK→Prop:=fun x lo hi H Q=>∃ a xs,x = .ref a∧SqL K H a xs∧∀ p,H p=none→Q (.ref p) (upd H p (.lst (cutV xs lo hi)))
theorem sl_list:SlR X (rSlL X.K):=by
 intro pins s σ H x v vl vu lo hi sl Q I rx hs pl pu h
 obtain ⟨a,xs,rfl,hx,q⟩:=h
 cases rx
 obtain ⟨its,r,ht,hz⟩:=I.list hx
 have hlen:=r.length
 refine ⟨"list",_,slot_list_getitem.lookup,ht.isList.typeIs,?_⟩
 refine wpAny_getItem_list_slice ht.isList hs pl pu .none (by simp) ?_ (by rw [List.size_toArray]<;>omega)
 rw [slicePick_cut,← hlen]
 refine ⟨.ref s.heap.objs.size,_,I.laid (t':=s.toks) (o:=.lst (cutV xs lo hi)) (fun b ob q=>Heap.get?_push_of_some _ q) (Nat.le_refl _) ?_,rfl,q _ (I.hok.fresh (Nat.le_refl _))⟩
 exact ⟨Nat.le_trans (cutV_length xs lo hi) hz,_,0,(r.drop (HT.sIx xs.length 0 lo)).take (HT.sIx xs.length xs.length hi-HT.sIx xs.length 0 lo),Heap.get?_push_size _ rfl⟩
noncomputable def flatV:V→Bool
 | .non=>true
 | .bl _=>true
 | .int _=>true
 | .str _=>true
 | _=>false
noncomputable def eqV:V→V→Bool
 | .non,.non=>true
 | .bl a,.bl b=>a==b
 | .bl a,.int b=>(if a then 1 else 0)==b
 | .int a,.bl b=>a==(if b then 1 else 0)
 | .int a,.int b=>a==b
 | .str a,.str b=>a==b
 | _,_=>false
theorem eqAt_V {A:Around}{s:Shared}{y x:V}{u v:Value}(ry:RelV y u) (rx:RelV x v) (fy:flatV y=true) (fx:flatV x=true):SeqAt.EqAt A s u v (eqV y x):=by
 cases y with
 | non=>
  cases ry
  cases x with
  | non=>cases rx;exact SeqAt.EqAt.same _
  | bl b=>cases rx;exact SeqAt.EqAt.none_bool b
  | int b=>obtain ⟨t,rfl⟩:=rx;exact SeqAt.EqAt.none_int b t
  | str b=>obtain ⟨t,rfl⟩:=rx;exact SeqAt.EqAt.none_str b t
  | _=>exact absurd (show false=true from fx) Bool.false_ne_true
 | bl a=>
  cases ry
  cases x with
  | non=>cases rx;exact SeqAt.EqAt.bool_none a
  | bl b=>cases rx;exact SeqAt.EqAt.bool_bool a b
  | int b=>obtain ⟨t,rfl⟩:=rx;exact SeqAt.EqAt.bool_int a b t
  | str b=>obtain ⟨t,rfl⟩:=rx;exact SeqAt.EqAt.bool_str a b t
  | _=>exact absurd (show false=true from fx) Bool.false_ne_true
 | int a=>
  obtain ⟨t',rfl⟩:=ry
  cases x with
  | non=>cases rx;exact SeqAt.EqAt.int_none a t'
  | bl b=>cases rx;exact SeqAt.EqAt.int_bool a t' b
  | int b=>obtain ⟨t,rfl⟩:=rx;exact SeqAt.EqAt.int_int a t' b t
  | str b=>obtain ⟨t,rfl⟩:=rx;exact SeqAt.EqAt.int_str a t' b t
  | _=>exact absurd (show false=true from fx) Bool.false_ne_true
 | str a=>
  obtain ⟨t',rfl⟩:=ry
  cases x with
  | non=>cases rx;exact SeqAt.EqAt.str_none a t'
  | bl b=>cases rx;exact SeqAt.EqAt.str_bool a t' b
  | int b=>obtain ⟨t,rfl⟩:=rx;exact SeqAt.EqAt.str_int a t' b t
  | str b=>obtain ⟨t,rfl⟩:=rx;exact SeqAt.EqAt.str_str a t' b t
  | _=>exact absurd (show false=true from fx) Bool.false_ne_true
 | _=>exact absurd (show false=true from fy) Bool.false_ne_true
noncomputable def eqU (x:V) (u:Value):Bool:=match u with
 | .none=>eqV .non x
 | .bool b=>eqV (.bl b) x
 | .int i _=>eqV (.int i) x
 | .str z _=>eqV (.str z) x
 | _=>false
theorem eqU_of {x y:V}{u:Value}(r:RelV y u) (f:flatV y=true):eqU x u=eqV y x:=by
 cases y with
 | non=>cases r;rfl
 | bl b=>cases r;rfl
 | int i=>obtain ⟨t,rfl⟩:=r;rfl
 | str z=>obtain ⟨t,rfl⟩:=r;rfl
 | _=>exact absurd (show false=true from f) Bool.false_ne_true
theorem any_eqU {x:V}:∀ {xs:List V}{us:List Value},Vals xs us→xs.all flatV=true→us.any (eqU x)=xs.any fun y=>eqV y x
 | _,_,.nil,_=>rfl
 | y::xs,u::us,.cons r t,f=>by
  rw [List.all_cons,Bool.and_eq_true] at f
  rw [List.any_cons,List.any_cons,eqU_of r f.1,any_eqU t f.2]
theorem mem_eqAt {A:Around}{s:Shared}{x:V}{v:Value}(rx:RelV x v) (fx:flatV x=true):∀ {xs:List V}{us:List Value},Vals xs us→xs.all flatV=true→∀ u∈us,SeqAt.EqAt A s u v (eqU x u)
 | _,_,.nil,_=>fun u hu=>by cases hu
 | y::xs,u::us,.cons r t,f=>fun u' hu=>by
  rw [List.all_cons,Bool.and_eq_true] at f
  rcases List.mem_cons.mp hu with rfl | hu
  · rw [eqU_of r f.1];exact eqAt_V r rx f.1 fx
  · exact mem_eqAt rx fx t f.2 u' hu
noncomputable def inV (x:V) (xs:List V):Bool:=xs.any fun y=>eqV y x
noncomputable def rIn (K:PySem.W.Frag) (neg:Bool):R2:=fun x y H Q=>∃ p xs,y = .ref p∧(SqL K H p xs∨SqT K H p xs)∧flatV x=true∧xs.all flatV=true∧Q (.bl (if neg then !inV x xs else inV x xs)) H
theorem op_in_seq:OpR X (compareOp .In) (rIn X.K false):=by
 intro pins s σ H x y v u Q I rx ry h
 obtain ⟨p,xs,rfl,hq,fx,fs,q⟩:=h
 cases ry
 rcases hq with hq | hq
 · obtain ⟨its,r,pl,hz⟩:=I.list hq
   refine SeqAt.in_listAt (eqU x) pl.isList (fun w hw=>mem_eqAt rx fx r fs w (by simpa using hw)) ⟨.bl _,H,I,rfl,?_⟩
   rw [show its.toArray.any (eqU x)=its.any (eqU x) by simp,any_eqU r fs]
   exact q
 · obtain ⟨its,r,pl,hz⟩:=I.tuple hq
   refine SeqAt.in_tupleAt (eqU x) pl (fun w hw=>mem_eqAt rx fx r fs w (by simpa using hw)) ⟨.bl _,H,I,rfl,?_⟩
   rw [show its.toArray.any (eqU x)=its.any (eqU x) by simp,any_eqU r fs]
   exact q
theorem op_notIn_seq:OpR X (compareOp .NotIn) (rIn X.K true):=by
 intro pins s σ H x y v u Q I rx ry h
 obtain ⟨p,xs,rfl,hq,fx,fs,q⟩:=h
 cases ry
 rcases hq with hq | hq
 · obtain ⟨its,r,pl,hz⟩:=I.list hq
   refine SeqAt.notIn_listAt (eqU x) pl.isList (fun w hw=>mem_eqAt rx fx r fs w (by simpa using hw)) ⟨.bl _,H,I,rfl,?_⟩
   rw [show its.toArray.any (eqU x)=its.any (eqU x) by simp,any_eqU r fs]
   exact q
 · obtain ⟨its,r,pl,hz⟩:=I.tuple hq
   refine SeqAt.notIn_tupleAt (eqU x) pl (fun w hw=>mem_eqAt rx fx r fs w (by simpa using hw)) ⟨.bl _,H,I,rfl,?_⟩
   rw [show its.toArray.any (eqU x)=its.any (eqU x) by simp,any_eqU r fs]
   exact q
theorem call_len_seq:CallR X (.builtin "len") (fun xs H Q=>∃ p ys,xs=[.ref p]∧(SqL X.K H p ys∨SqT X.K H p ys)∧Q (.int ys.length) H):=by
 intro pins s σ H xs us Q I r h
 obtain ⟨p,ys,rfl,hq,q⟩:=h
 obtain ⟨u,rfl,rx⟩:=vals1 r
 cases rx
 have hn:=line63
 rcases hq with hq | hq
 · obtain ⟨its,r',pl,hz⟩:=I.list hq
   have hlen:=r'.length
   exact Calls.call_len_list pl.isList (by simp only [List.size_toArray]<;>omega) ⟨.int ys.length,H,I.tok _,⟨s.toks+1,by rw [List.size_toArray,hlen]⟩,q⟩
 · obtain ⟨its,r',pl,hz⟩:=I.tuple hq
   have hlen:=r'.length
   exact len_tuple pl (by simp only [List.size_toArray]<;>omega) ⟨.int ys.length,H,I.tok _,⟨s.toks+1,by rw [List.size_toArray,hlen]⟩,q⟩
theorem call_list_of:CallR X (.type "list") (fun xs H Q=>∃ p ys,xs=[.ref p]∧(SqL X.K H p ys∨SqT X.K H p ys)∧∀ l,H l=none→Q (.ref l) (upd H l (.lst ys))):=by
 intro pins s σ H xs us Q I r h
 obtain ⟨p,ys,rfl,hq,q⟩:=h
 obtain ⟨u,rfl,rx⟩:=vals1 r
 cases rx
 have fin:∀ (its:List Value),Vals ys its→ys.length≤sizeLine→∀ (h':Heap) (c':Nat),(∀ b o',s.heap.get? b=some o'→h'.get? b=some o') →
  h'.get? s.heap.objs.size=some { cls:=.type "list",dict:=none,data:=.seq its.toArray c',slots:=#[] }→EP X pins σ Q (.ref s.heap.objs.size) { s with heap:=h' }:=fun its r' hz h' c' kp e=>
  ⟨.ref s.heap.objs.size,_,I.laid (t':=s.toks) kp (Nat.le_refl _) (show ObjOk X.prog X.w _ h' _ (.lst ys) from ⟨hz,its,c',r',e⟩),rfl,q _ (I.hok.fresh (Nat.le_refl _))⟩
 rcases hq with hq | hq
 · obtain ⟨its,r',pl,hz⟩:=I.list hq
   have hlen:=r'.length
   obtain ⟨o,ho,hc,n,hd⟩:=pl.isList
   exact call_list_seq p (.inl rfl) ho hc hd (fun h' c' kp e=>fin its r' hz h' c' kp e) (by simp only [List.size_toArray]<;>omega)
 · obtain ⟨its,r',pl,hz⟩:=I.tuple hq
   have hlen:=r'.length
   obtain ⟨o,ho,hc,n,hd⟩:=pl
   exact call_list_seq p (.inr rfl) ho hc hd (fun h' c' kp e=>fin its r' hz h' c' kp e) (by simp only [List.size_toArray]<;>omega)
theorem call_tuple_of:CallR X (.type "tuple") (fun xs H Q=>∃ p ys,xs=[.ref p]∧((SqL X.K H p ys∧∀ l,H l=none→Q (.ref l) (upd H l (.tup ys)))∨(SqT X.K H p ys∧Q (.ref p) H))):=by
 intro pins s σ H xs us Q I r h
 obtain ⟨p,ys,rfl,h⟩:=h
 obtain ⟨u,rfl,rx⟩:=vals1 r
 cases rx
 rcases h with ⟨hq,q⟩ | ⟨hq,q⟩
 · obtain ⟨its,r',pl,hz⟩:=I.list hq
   have hlen:=r'.length
   refine call_tuple_list pl.isList (fun h' kp=>?_) (by simp only [List.size_toArray]<;>omega)
   have I1:Inv X pins σ H { s with heap:=h' }:=I.kept (t':=s.toks) kp
   have I2:Inv X pins σ (upd H h'.objs.size (.tup ys)) { s with heap:=h'.push { cls:=.type "tuple",data:=.seq its.toArray } }:=
    I1.laid (t':=s.toks) (fun b o e=>Heap.get?_push_of_some _ e) (Nat.le_refl _) (show ObjOk X.prog X.w _ _ _ (.tup ys) from ⟨hz,its,r',IsTup.new _ _⟩)
   exact ⟨.ref h'.objs.size,_,I2,rfl,q _ (I1.hok.fresh (Nat.le_refl _))⟩
 · obtain ⟨its,r',pl,hz⟩:=I.tuple hq
   exact call_tuple_same pl ⟨.ref p,H,I,rfl,q⟩
noncomputable def tyV (K:PySem.W.Frag) (T:String) (x:V) (H:Hp):Prop:=match x with
 | .str _=>T = "str"
 | .int _=>T = "int"
 | .ref p=>(T = "list"∧∃ xs,SqL K H p xs)∨(T = "tuple"∧∃ o,K.lookup p=some o∧o.cls = .type "tuple"∧o.dict=none) ∨
  (T = "dict"∧((∃ kvs,H p=some (.dK kvs))∨∃ kvs,H p=some (.dT kvs)))∨(T = "set"∧∃ S n,H p=some (.set S n))
 | _=>False
theorem tyV_is {pins:List (Addr×Obj)}{σ:St}{H:Hp}{s:Shared}{T:String}{x:V}{v:Value}(I:Inv X pins σ H s) (r:RelV x v) (ty:tyV X.K T x H) :
 s.TypeIs v T∧∀ a,v = .ref a→∃ ob,s.heap.get? a=some ob∧ob.dict=none:=by
 cases x with
 | str z=>
  obtain ⟨t,rfl⟩:=r
  cases (show T = "str" from ty)
  exact ⟨typeIs_str s z t,fun _ e=>nomatch e⟩
 | int i=>
  obtain ⟨t,rfl⟩:=r
  cases (show T = "int" from ty)
  exact ⟨typeIs_int s i t,fun _ e=>nomatch e⟩
 | ref p=>
  cases r
  rcases ty with ⟨rfl,xs,hq⟩ | ⟨rfl,o,hk,hc,hd⟩ | ⟨rfl,hk⟩ | ⟨rfl,S,n,hk⟩
  · obtain ⟨its,_,pl,_⟩:=I.list hq
    refine ⟨pl.isList.typeIs,fun a e=>?_⟩
    cases e
    obtain ⟨o,n,e,c,hd,_⟩:=pl
    exact ⟨o,e,hd⟩
  · refine ⟨⟨o,I.kIn p o hk,hc⟩,fun a e=>?_⟩
    cases e
    exact ⟨o,I.kIn _ o hk,hd⟩
  · have z:∃ o,s.heap.get? p=some o∧o.ExactDict:=by
     rcases hk with ⟨kvs,hk⟩ | ⟨kvs,hk⟩
     · obtain ⟨_,_,_,_,o,_,_,e,ex,_⟩:=I.hok p _ hk
       exact ⟨o,e,ex⟩
     · obtain ⟨_,_,_,_,o,_,_,e,ex,_⟩:=I.hok p _ hk
       exact ⟨o,e,ex⟩
    obtain ⟨o,e,ex⟩:=z
    refine ⟨⟨o,e,ex.1⟩,fun a e2=>?_⟩
    cases e2
    exact ⟨o,e,ex.2.1⟩
  · obtain ⟨o,_,_,_,e,ex,_⟩:=I.hok p _ hk
    refine ⟨⟨o,e,ex.1⟩,fun a e2=>?_⟩
    cases e2
    exact ⟨o,e,ex.2.1⟩
 | _=>exact False.elim ty
noncomputable def tBM (K:PySem.W.Frag) (T:String) (r:V→List V→Hp→VK→Prop) (to:TE) (t:TA):TE:=fun σ H Q=>to σ H fun x H1=>tyV K T x H1∧t σ H1 fun xs H2=>r x xs H2 Q
variable {o e:Expr}{es:List Expr}{to:TE}{t:TA}{name:Str}{apos cpos:Pos}{T id:String}{r:V→List V→Hp→VK→Prop}
theorem pe_bm (pa:PlainAttrs T) (slot:Slot T name id) (hty:typeOf (.builtin id)=pure (.type "method_descriptor")) (hm:MtR X id r) (ho:PE X o to) (ha:PA X (e::es) t)
 (hbase:attributeBase o name X.env (eval o X.env)=eval o X.env:=by rfl)
 (hfew:((backTo cpos (starEach (e::es) X.env)).all (fun x=>!x.1)&&(backToKw cpos (keywordEach [] X.env)).all (fun x=>x.1.isSome)
  && decide ((e::es).length+([]:List Keyword).length+(if ([]:List Keyword).isEmpty then 0 else 1)<30))=true:=by rfl)
 (hline:(apos.endLine==cpos.line)=true:=by rfl) (hs:starEach (e::es) X.env=(false,eval e X.env)::starEach es X.env:=by rfl) (hplain:(backTo cpos (starEach es X.env)).any (·.1)=false:=by rfl) :
 PE X (.Call (.Attribute o name apos) (e::es) [] cpos) (tBM X.K T r to t):=by
 intro pins s σ H Q I h
 refine wpAny_Call_method_late hbase hfew hline rfl (thn (ho pins s σ H _ I h) fun v s1 ⟨x,H1,I1,r1,ty,q1⟩=>?_)
 obtain ⟨h1,h2⟩:=tyV_is I1 r1 ty
 refine ⟨T,id,pa,slot,hty,h1,h2,?_⟩
 have hA:=ha cpos pins s1 σ H1 _ I1 q1
 rw [hs] at hA ⊢
 refine Calls.callWith_builtin (by show (false||(backTo cpos (starEach es X.env)).any (·.1))=false;rw [hplain]<;>rfl) (Calls.evalArgs_plain ?_)
 exact thn hA fun us s2 ⟨vs,H2,I2,r2,q2⟩=>hm pins s2 σ H2 x vs v us Q I2 r1 r2 q2
end
noncomputable def MtM (X:Cx) (id:String) (r:V→List V→Hp→VK→Prop):Prop:=
 ∀ (pins:List (Addr×Obj)) (s:Shared) (σ:St) (H:Hp) (x:V) (xs:List V) (v:Value) (us:List Value) (Q:VK),Inv X pins σ H s→RelV x v→Vals xs us→r x xs H Q →
  wpAny (model X.prog X.w) X.A (call (.builtin id) (v::us)) (EP X pins σ Q) X.xe s
theorem Vals.one:∀ {x:V}{us:List Value},Vals [x] us→∃ u,us=[u]∧RelV x u
 | _,_,.cons r .nil=>⟨_,rfl,r⟩
theorem Vals.eraseIdx:∀ {xs:List V}{us:List Value}(i:Nat),Vals xs us→Vals (xs.eraseIdx i) (us.eraseIdx i)
 | _,_,_,.nil=>.nil
 | _,_,0,.cons _ t=>t
 | _,_,i+1,.cons r t=>.cons r (Vals.eraseIdx i t)
theorem Vals.rep {xs:List V}{us:List Value}(h:Vals xs us):∀ k:Nat,Vals (List.replicate k xs).flatten (List.replicate k us).flatten
 | 0=>.nil
 | k+1=>by
  rw [List.replicate_succ,List.replicate_succ,List.flatten_cons,List.flatten_cons]
  exact Vals.append h (Vals.rep h k)
theorem len_erase {α:Type}:∀ (l:List α) (i:Nat),(l.eraseIdx i).length≤l.length
 | [],_=>Nat.le_refl _
 | _::_,0=>Nat.le_succ _
 | _::r,i+1=>Nat.succ_le_succ (len_erase r i)
theorem foldl_rep (its:List Value):∀ (k:Nat) (acc:List Value),
 List.foldl (fun x1 x2=>x1++x2) acc.toArray (List.replicate k its.toArray)=(acc++(List.replicate k its).flatten).toArray
 | 0,acc=>by simp
 | k+1,acc=>by
  have e:acc.toArray++its.toArray=(acc++its).toArray:=by simp
  have e2:(acc++its)++(List.replicate k its).flatten=acc++(List.replicate (k+1) its).flatten:=by
   rw [List.replicate_succ,List.flatten_cons,List.append_assoc]
  rw [← e2,← foldl_rep its k (acc++its),← e,List.replicate_succ,List.foldl_cons]
section
variable {X:Cx}{pins:List (Addr×Obj)}{σ:St}{H:Hp}{s:Shared}{l b:Addr}{xs ys zs:List V}
theorem Inv.lset {its its':List Value}{n:Nat}{f:Array Value→Array Value}{t':Nat}(I:Inv X pins σ H s) (hH:H l=some (.lst xs))
 (e:s.heap.get? l=some { cls:=.type "list",data:=.seq its.toArray n }) (hf:f its.toArray=its'.toArray) (hv:Vals ys its') (hz:ys.length≤sizeLine) :
 Inv X pins σ (upd H l (.lst ys)) { s with heap:=s.heap.update l (Obj.mapSeq f),toks:=t' }:=by
 have q:=PySem.IsL.update e f
 rw [hf] at q
 refine I.write (x:=l) (e:=l) (by rw [hH];exact trivial) (.inl rfl) (fun b' u hb hu=>(Heap.get?_update_other s.heap (Obj.mapSeq f) (Ne.symm hb)).trans hu) ⟨_,q⟩ ?_
 exact ⟨hz,its',_,hv,q⟩
theorem Inv.lnew {its:List Value}{t':Nat}(I:Inv X pins σ H s) (hv:Vals ys its) (hz:ys.length≤sizeLine) :
 Inv X pins σ (upd H s.heap.objs.size (.lst ys)) { s with heap:=s.heap.push { cls:=.type "list",data:=.seq its.toArray },toks:=t' }:=
 I.laid (fun _ _ q=>Heap.get?_push_of_some _ q) (Nat.le_refl _) ⟨hz,its,0,hv,Heap.get?_push_size _ rfl⟩
theorem Inv.fresh (I:Inv X pins σ H s):H s.heap.objs.size=none:=I.hok.fresh (Nat.le_refl _)
theorem Inv.lstM (I:Inv X pins σ H s) (hH:H l=some (.lst xs)):xs.length≤sizeLine∧∃ (its:List Value) (n:Nat),Vals xs its∧xs.length=its.length∧s.heap.get? l=some { cls:=.type "list",data:=.seq its.toArray n }:=by
 obtain ⟨z,its,n,r,e⟩:=I.hok l _ hH
 exact ⟨z,its,n,r,r.length,e⟩
theorem notLongL {n:Nat}(h:n≤sizeLine):Builtin.List.listTooLong n=false:=by
 unfold Builtin.List.listTooLong
 exact decide_eq_false (by omega)
end
section
variable {X:Cx}
noncomputable def rAppend:V→List V→Hp→VK→Prop:=fun x vs H Q=>∃ l xs y,x = .ref l∧vs=[y]∧H l=some (.lst xs)∧xs.length<sizeLine∧Q .non (upd H l (.lst (xs++[y])))
theorem mt_append:MtM X "list.append" rAppend:=by
 intro pins s σ H x vs v us Q I rx rv h
 obtain ⟨l,xs,y,rfl,rfl,hH,hz,q⟩:=h
 cases rx
 obtain ⟨u,rfl,ru⟩:=rv.one
 obtain ⟨z,its,n,r,hl,e⟩:=I.lstM hH
 refine call_meets F.slot_list_append ⟨_,e,rfl⟩ F.entry_list_append (F.args_list_append_2 _ _) (PySem.list_append l its.toArray n u (by rw [List.size_toArray];omega)) ⟨e,?_⟩
 refine ⟨.non,_,I.lset (its':=its++[u]) hH e (by simp) (r.append (.cons ru .nil)) ?_,rfl,q⟩
 rw [List.length_append,List.length_singleton]
 omega
noncomputable def rPopAt:V→List V→Hp→VK→Prop:=fun x vs H Q=>∃ l xs i k y,x = .ref l∧vs=[.int i]∧H l=some (.lst xs)∧-(2^63)≤i∧i<2^63∧seqIndex? i xs.length=some k∧xs[k]? = some y∧Q y (upd H l (.lst (xs.eraseIdx k)))
theorem mt_popAt:MtM X "list.pop" rPopAt:=by
 intro pins s σ H x vs v us Q I rx rv h
 obtain ⟨l,xs,i,k,y,rfl,rfl,hH,h1,h2,hk,hy,q⟩:=h
 cases rx
 obtain ⟨u,rfl,ru⟩:=rv.one
 obtain ⟨t,rfl⟩:=ru
 obtain ⟨z,its,n,r,hl,e⟩:=I.lstM hH
 obtain ⟨w,hw,rw'⟩:=r.get hy
 refine call_meets F.slot_list_pop ⟨_,e,rfl⟩ F.entry_list_pop (F.args_list_pop_2 _ _)
  (MeetsSeq.list_pop_at l its.toArray n i t k w (fitsIndex_both h1 h2) (by rw [List.size_toArray,← hl];exact hk) (by rw [← Array.getElem?_toList];exact hw) (by rw [List.size_toArray];omega)) ⟨e,?_⟩
 refine ⟨y,_,I.lset (its':=its.eraseIdx k) hH e ?_ (r.eraseIdx k) ?_,rw',q⟩
 · show its.toArray.eraseIdxIfInBounds k=(its.eraseIdx k).toArray
   rw [List.eraseIdxIfInBounds_toArray]
 · have:=len_erase xs k
   omega
noncomputable def rCat:R2:=fun x y H Q=>∃ l b xs zs,x = .ref l∧y = .ref b∧H l=some (.lst xs)∧H b=some (.lst zs)∧xs.length+zs.length≤sizeLine∧∀ p,H p=none→Q (.ref p) (upd H p (.lst (xs++zs)))
theorem op_cat:OpR X (binaryOp .Add) rCat:=by
 intro pins s σ H x y v u Q I rx ry h
 obtain ⟨l,b,xs,zs,rfl,rfl,hH,hB,hz,q⟩:=h
 cases rx
 cases ry
 obtain ⟨z,its,n,r,hl,e⟩:=I.lstM hH
 obtain ⟨z2,its2,n2,r2,hl2,e2⟩:=I.lstM hB
 refine PySem.P.add_list e e2 ?_ (by rw [List.size_toArray,List.size_toArray];omega)
 have ea:its.toArray++its2.toArray=(its++its2).toArray:=by simp
 rw [ea]
 exact ⟨.ref _,_,I.lnew (t':=s.toks) (r.append r2) (by rw [List.length_append];omega),rfl,q _ I.fresh⟩
noncomputable def rRep:R2:=fun x y H Q=>∃ l k xs,x = .ref l∧y = .int k∧H l=some (.lst xs)∧-(2^63)≤k∧k<2^63∧xs.length*k.toNat≤sizeLine ∧
 ∀ p,H p=none→Q (.ref p) (upd H p (.lst (List.replicate k.toNat xs).flatten))
theorem len_rep {α:Type}(xs:List α) (k:Nat):(List.replicate k xs).flatten.length=k*xs.length:=by
 induction k with
 | zero=>simp
 | succ k ih=>rw [List.replicate_succ,List.flatten_cons,List.length_append,ih,Nat.succ_mul,Nat.add_comm]
theorem op_rep:OpR X (binaryOp .Mult) rRep:=by
 intro pins s σ H x y v u Q I rx ry h
 obtain ⟨l,k,xs,rfl,rfl,hH,h1,h2,hz,q⟩:=h
 cases rx
 obtain ⟨t,rfl⟩:=ry
 obtain ⟨z,its,n,r,hl,e⟩:=I.lstM hH
 have hlen:its.toArray.size*k.toNat≤sizeLine:=by rw [List.size_toArray,← hl];exact hz
 have hcap:¬ its.toArray.size*k.toNat>(2^63-1)/8:=by
  have:(sizeLine:Nat)≤(2^63-1)/8:=by decide
  omega
 have hfit:¬ (!Builtin.List.listFitsIndex k)=true:=by
  rw [fitsIndex_both h1 h2]
  exact Bool.false_ne_true
 have hlong:¬ Builtin.List.listTooLong (its.toArray.size*k.toNat)=true:=by
  rw [notLongL hlen]
  exact Bool.false_ne_true
 have hnew:List.foldl (fun x1 x2=>x1++x2) #[] (List.replicate (if its.toArray.isEmpty=true then 0 else k.toNat) its.toArray)=(List.replicate k.toNat its).flatten.toArray:=by
  have f0:∀ m:Nat,List.foldl (fun x1 x2=>x1++x2) #[] (List.replicate m its.toArray)=(List.replicate m its).flatten.toArray:=fun m=>by
   have:=foldl_rep its m []
   rw [List.nil_append] at this
   exact this
  rw [f0]
  cases its with
  | nil=>simp
  | cons a r'=>rw [if_neg (by simp)]
 refine wpAny_binaryOp_repeat_ref (T:="list") (U:="int") (by decide) ⟨_,e,rfl⟩ (fun s'=>typeIs_int s' k t) noFill_list_mul F.fills_int_mul F.slot_int_rmul repeat_list F.slot_int_index.lookup
  (call_meets F.slot_int_rmul (typeIs_int s k t) F.entry_int_rmul (F.args_int_rmul_2 _ _) (int___rmul___int_list k t l its.toArray n)
   ⟨e,rfl,⟨_,e,rfl⟩,call_meets F.slot_list_mul ⟨_,e,rfl⟩ F.entry_list_mul (F.args_list_mul_2 _ _) (AutoListH.list___mul___list_int_3 l its.toArray n k t hfit hcap hlong) ⟨e,?_⟩⟩)
 rw [hnew]
 exact ⟨.ref _,_,I.lnew (t':=s.toks) (r.rep k.toNat) (by rw [len_rep,Nat.mul_comm];exact hz),rfl,q _ I.fresh⟩
end
section
variable {prog:Program}{w:World}{A:Around}{E:Value→Shared→Prop}{s:Shared}
theorem splice_eq (its its2:List Value) (a c:Nat):its.toArray.extract 0 a++its2.toArray++its.toArray.extract c its.toArray.size=(its.take a++its2++its.drop c).toArray:=by
 apply Array.toList_inj.mp
 first
  | (simp
     exact List.take_of_length_le (by simp))
  | simp [List.take_of_length_le]
  | simp
theorem bounds_run {a c n:Nat}(hac:a≤c) (hc:c≤n):sliceBounds (some (a:Int)) (some (c:Int)) none n=((a:Int),(c:Int),1):=by
 simp only [sliceBounds,Option.getD_none]
 have h1:¬ ((a:Int)<0):=by omega
 have h2:¬ ((c:Int)<0):=by omega
 simp only [h1,h2,if_false,show (1:Int)>0 by decide,if_true]
 congr 1
 · omega
 · congr 1;omega
set_option maxRecDepth 100000 in
theorem setItem_slice {l b sl:Addr}{items new:Array Value}{n n2:Nat}{vl vu:Value}{a c:Nat}{Q:Unit→Shared→Prop}
 (e:s.heap.get? l=some { cls:=.type "list",data:=.seq items n }) (e2:s.heap.get? b=some { cls:=.type "list",data:=.seq new n2 }) (hne:l≠b)
 (hs:s.heap.IsSliceOf sl vl vu .none) (pl:IsPart vl (some (a:Int))) (pu:IsPart vu (some (c:Int))) (hac:a≤c) (hc:c≤items.size)
 (hsz:items.size+new.size≤sizeLine) (h:Q () { s with heap:=s.heap.update l (Obj.mapSeq fun xs=>xs.extract 0 a++new++xs.extract c xs.size) }) :
 wpAny (model prog w) A (setItem (.ref l) (.ref sl) (.ref b)) Q E s:=by
 have hl:s.heap.IsList l items:=PySem.IsL.isList e
 have hb:s.heap.IsList b new:=PySem.IsL.isList e2
 obtain ⟨os,hos,hcs,hds⟩:=id hs
 have hTs:s.TypeIs (.ref sl) "slice":=⟨os,hos,hcs⟩
 have hstep:¬ ((rawPart none==rawInt 0)=true):=Bool.false_ne_true
 have hsame:Builtin.List.listSameRef (.ref l) (.ref b)=false:=by
  unfold Builtin.List.listSameRef
  exact beq_eq_false_iff_ne.mpr hne
 have hmax:(max (a:Int) (c:Int)).toNat=c:=by omega
 have hz':((fun xs:Array Value=>xs.extract 0 a++new++xs.extract c xs.size) items).size≤sizeLine+1:=by
  simp only [Array.size_append,Array.size_extract]
  omega
 unfold setItem
 try with_reducible refine wpAny_holding ?_
 first | refine wpAny_bind (wpAny_pure ?_) | skip
 refine wpAny_bind (wpAny_sequenceKey hl.typeIs (by decide) ?_)
 refine wpAny_bind (wpAny_callSpecial?_slot (name:=Str.ofString "__setitem__") hl.typeIs slot_list_setitem
  (wpAny_call_entry slot_list_setitem hl.typeIs entry_list_setitem ?_ (args_list_setitem _ _ _)))
 show wpAny _ _ (Builtin.List.listSubscript? (.ref sl) >>= _) _ _ s
 refine wpAny_bind ?_
 unfold Builtin.List.listSubscript?
 refine wpAny_bind (wpAny_specialOf hTs slice_no_index ?_)
 simp only [Option.isNone_none,if_true]
 refine wpAny_pure ?_
 show wpAny _ _ (typeOf (.ref sl) >>= _) _ _ s
 refine wpAny_bind (wpAny_typeOf hTs ?_)
 first
  | rw [if_neg (by decide)]
  | refine PySem.W.KFB.if_not (by decide) ?_
 rw [listSliceParts_eq]
 refine wpAny_bind (wpAny_bind (wpAny_field hos hds (x:=.none) rfl (wpAny_bind (wpAny_listPart .none ?_))))
 rw [if_neg hstep]
 refine wpAny_bind (wpAny_field hos hds (x:=vl) rfl (wpAny_bind (wpAny_listPart pl ?_)))
 refine wpAny_bind (wpAny_field hos hds (x:=vu) rfl (wpAny_bind (wpAny_listPart pu (wpAny_pure ?_))))
 first
  | simp only [hsame,Bool.false_eq_true,if_false]
  | refine PySem.W.KFB.if_not hsame ?_
  | (dsimp only
     rw [if_neg (by rw [hsame];exact Bool.false_ne_true)])
 refine wpAny_bind (m:=Builtin.List.listAllItems (.ref b) "must assign iterable to extended slice") ?_
 unfold Builtin.List.listAllItems
 refine wpAny_bind (wpAny_typeOf hb.typeIs ?_)
 first
  | refine PySem.W.KFB.if_so (by decide) ?_
  | rw [if_pos (by decide)]
  | simp only [beq_self_eq_true,Bool.true_or,if_true]
 unfold Builtin.List.listItems
 refine wpAny_bind (wpAny_seqItems e2 rfl (wpAny_pure ?_))
 refine wpAny_bind (wpAny_bind (wpAny_seqItems e rfl (wpAny_pure ?_)))
 refine wpAny_bind (wpAny_of_eq ((sliceIndices_raw (some (a:Int)) (some (c:Int)) none items.size (by simp)).trans (congrArg (pure:Int×Int×Int→Sem (Int×Int×Int)) (bounds_run hac hc))) ?_)
 show wpAny _ _ (if ((1:Int)==1)=true then _ else _) _ _ s
 rw [if_pos (by decide)]
 refine wpAny_bind (wpAny_rule ?_)
 first
  | simp only [notLongL hsz,Bool.false_eq_true,if_false]
  | refine PySem.W.KFB.if_not (notLongL hsz) ?_
 first | refine wpAny_bind (wpAny_pure ?_) | skip
 show wpAny _ _ (updateSeq l (fun xs=>xs.extract 0 ((a:Int)).toNat++new++xs.extract (max (a:Int) (c:Int)).toNat xs.size) >>= _) _ _ s
 rw [hmax,Int.toNat_natCast]
 refine wpAny_bind (wpAny_updateSeq (hz:=Nat.le_trans (Nat.le_add_right _ _) hsz) (_hz':=hz') e rfl ?_)
 refine wpAny_bind (wpAny_letGo ?_)
 first
  | exact wpAny_bind (wpAny_pure (wpAny_pure ⟨.none,rfl,wpAny_pure h⟩))
  | exact wpAny_pure ⟨.none,rfl,wpAny_pure h⟩
end
section
variable {X:Cx}
theorem set_slice {pins:List (Addr×Obj)}{s:Shared}{σ:St}{H:Hp}{l b sl:Addr}{xs ys:List V}{a c:Int}{vl vu:Value}{Q:Unit→Shared→Prop}(I:Inv X pins σ H s)
 (hH:H l=some (.lst xs)) (hB:H b=some (.lst ys)) (hne:l≠b) (hs:s.heap.IsSliceOf sl vl vu .none) (ra:RelV (.int a) vl) (rc:RelV (.int c) vu) (h0:0≤a) (hac:a≤c) (hc:c≤xs.length)
 (hz:xs.length+ys.length≤sizeLine) (h:∀ s',Inv X pins σ (upd H l (.lst (xs.take a.toNat++ys++xs.drop c.toNat))) s'→Q () s') :
 wpAny (model X.prog X.w) X.A (setItem (.ref l) (.ref sl) (.ref b)) Q X.xe s:=by
 obtain ⟨ta,rfl⟩:=ra
 obtain ⟨tc,rfl⟩:=rc
 obtain ⟨z,its,n,r,hl,e⟩:=I.lstM hH
 obtain ⟨z2,its2,n2,r2,hl2,e2⟩:=I.lstM hB
 obtain ⟨a',rfl⟩:=Int.eq_ofNat_of_zero_le h0
 obtain ⟨c',rfl⟩:=Int.eq_ofNat_of_zero_le (Int.le_trans h0 hac)
 simp only [Int.toNat_natCast] at h
 refine setItem_slice (a:=a') (c:=c') e e2 hne hs (.int _ _) (.int _ _) (by omega) (by rw [List.size_toArray];omega) (by rw [List.size_toArray,List.size_toArray];omega) (h _ ?_)
 refine I.lset (its':=its.take a'++its2++its.drop c') (t':=s.toks) hH e ?_ (Vals.append (Vals.append (r.take _) r2) (r.drop _)) ?_
 · exact splice_eq its its2 a' c'
 · rw [List.length_append,List.length_append,List.length_take,List.length_drop]
   omega
end
section
variable {κ:Type} [DecidableEq κ]
noncomputable def valV (kvs:List (κ×V)) (k:κ):Option V:=(kvs.find? fun kv=>decide (kv.1=k)).map (·.2)
noncomputable def putK (kvs:List (κ×V)) (k:κ) (v:V):List (κ×V):=
 if (kvs.any fun kv=>decide (kv.1=k))=true then kvs.map (fun kv=>if kv.1=k then (kv.1,v) else kv) else kvs++[(k,v)]
theorem valV_nil {k:κ}:valV ([]:List (κ×V)) k=none:=rfl
theorem valV_pos {p:κ×V}{r:List (κ×V)}{k:κ}(e:p.1=k):valV (p::r) k=some p.2:=by simp [valV,List.find?_cons,e]
theorem valV_neg {p:κ×V}{r:List (κ×V)}{k:κ}(e:¬ p.1=k):valV (p::r) k=valV r k:=by simp [valV,List.find?_cons,e]
theorem valV_any (k:κ):∀ kvs:List (κ×V),(kvs.any fun kv=>decide (kv.1=k))=(valV kvs k).isSome
 | []=>rfl
 | p::r=>by
  rw [List.any_cons]
  by_cases e:p.1=k
  · simp only [valV_pos e,decide_eq_true e,Bool.true_or,Option.isSome_some]
  · rw [valV_neg e,decide_eq_false e,Bool.false_or];exact valV_any k r
theorem length_putK (kvs:List (κ×V)) (k:κ) (v:V):(putK kvs k v).length≤kvs.length+1:=by
 unfold putK
 split
 · rw [List.length_map];omega
 · rw [List.length_append,List.length_cons,List.length_nil];omega
theorem putK_new {kvs:List (κ×V)}{k:κ}(v:V) (h:valV kvs k=none):putK kvs k v=kvs++[(k,v)]:=by
 unfold putK
 rw [valV_any,h]
 exact if_neg (by decide)
theorem RelO.isSome_eq {o:Option V}{u:Option Value}(r:RelO o u):o.isSome=u.isSome:=by
 cases o with
 | none=>cases u with
  | none=>rfl
  | some _=>exact (show False from r).elim
 | some _=>cases u with
  | none=>exact (show False from r).elim
  | some _=>rfl
theorem RelO.getD {o:Option V}{u:Option Value}{d:V}{d':Value}(r:RelO o u) (rd:RelV d d'):RelV (o.getD d) (u.getD d'):=by
 cases o with
 | none=>cases u with
  | none=>exact rd
  | some _=>exact (show False from r).elim
 | some _=>cases u with
  | none=>exact (show False from r).elim
  | some _=>exact r
theorem KV.val {kvs:List (κ×V)}{vs:List (κ×Value)}(r:KV kvs vs) (k:κ):RelO (valV kvs k) (valueAt vs k):=by
 unfold KV at r
 induction r with
 | nil=>exact True.intro
 | @cons p q ps qs h t ih=>
  obtain ⟨h1,h2⟩:=h
  by_cases e:p.1=k
  · have e':q.1=k:=h1.symm.trans e
    have b:valueAt (q::qs) k=some q.2:=by simp [valueAt,List.find?_cons,e']
    rw [valV_pos e,b];exact h2
  · have e':¬ q.1=k:=fun z=>e (h1.trans z)
    have b:valueAt (q::qs) k=valueAt qs k:=by simp [valueAt,List.find?_cons,e']
    rw [valV_neg e,b];exact ih
theorem KV.any {kvs:List (κ×V)}{vs:List (κ×Value)}(r:KV kvs vs) (k:κ):(kvs.any fun kv=>decide (kv.1=k))=vs.any fun kv=>decide (kv.1=k):=by
 unfold KV at r
 induction r with
 | nil=>rfl
 | cons h t ih=>rw [List.any_cons,List.any_cons,ih,h.1]
theorem KV.repl {kvs:List (κ×V)}{vs:List (κ×Value)}(r:KV kvs vs) (k:κ) {y:V}{u:Value}(ry:RelV y u) :
 KV (kvs.map fun kv=>if kv.1=k then (kv.1,y) else kv) (vs.map fun kv=>if kv.1=k then (kv.1,u) else kv):=by
 unfold KV at r ⊢
 induction r with
 | nil=>exact .nil
 | @cons p q ps qs h t ih=>
  rw [List.map_cons,List.map_cons]
  refine .cons ?_ ih
  obtain ⟨h1,h2⟩:=h
  by_cases e:p.1=k
  · rw [if_pos e,if_pos (h1.symm.trans e)];exact ⟨h1,ry⟩
  · rw [if_neg e,if_neg (fun z=>e (h1.trans z))];exact ⟨h1,h2⟩
theorem KV.put {kvs:List (κ×V)}{vs:List (κ×Value)}(r:KV kvs vs) (k:κ) {y:V}{u:Value}(ry:RelV y u):KV (putK kvs k y) (stored vs k u):=by
 unfold putK stored
 rw [r.any k]
 by_cases e:(vs.any fun kv=>decide (kv.1=k))=true
 · rw [if_pos e,if_pos e];exact r.repl k ry
 · rw [if_neg e,if_neg e];exact Paired.snoc r ⟨rfl,ry⟩
theorem KV.length {kvs:List (κ×V)}{vs:List (κ×Value)}(r:KV kvs vs):kvs.length=vs.length:=Paired.length r
end
theorem kV_is {P:Program}{w:World}{k:Key}{u:Value}(r:RelV (kV k) u):(mixKind P w).is k u=true:=by
 cases k with
 | inl i=>obtain ⟨t,e⟩:=(show ∃ t,u=Value.int i t from r);subst e;exact mixKind_int P w i t
 | inr x=>obtain ⟨t,e⟩:=(show ∃ t,u=Value.str x t from r);subst e;exact mixKind_str P w x t
theorem items_are {P:Program}{w:World}:∀ {ks:List Key}{us:List Value},Vals (ks.map kV) us→ItemsAre (mixKind P w) ks us
 | [],_,r=>by rw [List.map_nil] at r;cases r;exact .nil
 | k::ks,_,r=>by
  rw [List.map_cons] at r
  cases r with
  | cons h t=>exact .cons (kV_is h) (items_are t)
noncomputable abbrev KT (H:Hp):List (List Key×V)→List (List Key×Addr×Value)→Prop:=Paired fun p q=>p.1=q.1∧H q.2.1=some (.tup (p.1.map kV))∧RelV p.2 q.2.2
theorem KT.val {H:Hp}{kvs:List (List Key×V)}{xs:List (List Key×Addr×Value)}(r:KT H kvs xs) (k:List Key):RelO (valV kvs k) ((atKey xs k).map (·.2)):=by
 induction r with
 | nil=>exact True.intro
 | @cons p q ps qs h t ih=>
  obtain ⟨h1,_,h2⟩:=h
  by_cases e:p.1=k
  · have e':q.1=k:=h1.symm.trans e
    have b:atKey (q::qs) k=some q.2:=by simp [atKey,List.find?_cons,e']
    rw [valV_pos e,b];exact h2
  · have e':¬ q.1=k:=fun z=>e (h1.trans z)
    have b:atKey (q::qs) k=atKey qs k:=by simp [atKey,List.find?_cons,e']
    rw [valV_neg e,b];exact ih
theorem KT.repl {H:Hp}{kvs:List (List Key×V)}{xs:List (List Key×Addr×Value)}(r:KT H kvs xs) (k:List Key) {y:V}{u:Value}(ry:RelV y u) :
 KT H (kvs.map fun kv=>if kv.1=k then (kv.1,y) else kv) (xs.map (putAt k u)):=by
 induction r with
 | nil=>exact .nil
 | @cons p q ps qs h t ih=>
  rw [List.map_cons,List.map_cons]
  refine .cons ?_ ih
  obtain ⟨h1,h2,h3⟩:=h
  unfold putAt
  by_cases e:p.1=k
  · rw [if_pos e,if_pos (h1.symm.trans e)];exact ⟨h1,h2,ry⟩
  · rw [if_neg e,if_neg (fun z=>e (h1.trans z))];exact ⟨h1,h2,h3⟩
theorem KT.put {H:Hp}{kvs:List (List Key×V)}{xs:List (List Key×Addr×Value)}(r:KT H kvs xs) (k:List Key) {b:Addr}{y:V}{u:Value}(hb:H b=some (.tup (k.map kV))) (ry:RelV y u) :
 KT H (putK kvs k y) (storedH xs k b u):=by
 have e:(kvs.any fun kv=>decide (kv.1=k))=(atKey xs k).isSome:=by
  rw [valV_any,(r.val k).isSome_eq,Option.isSome_map]
 unfold putK storedH
 rw [e]
 by_cases q:(atKey xs k).isSome=true
 · rw [if_pos q,if_pos q];exact r.repl k ry
 · rw [if_neg q,if_neg q];exact Paired.snoc r ⟨rfl,hb,ry⟩
theorem KT.keeps {H H':Hp}{kvs:List (List Key×V)}{xs:List (List Key×Addr×Value)}(r:KT H kvs xs) (ht:∀ b ys,H b=some (.tup ys)→H' b=some (.tup ys)):KT H' kvs xs:=
 Paired.mapP r fun _ _ z=>⟨z.1,ht _ _ z.2.1,z.2.2⟩
section
variable {P:Program}{w:World}{H:Hp}{h:Heap}{a:Addr}
theorem rd_of {u:HO}(ok:HOk P w H h) (e:Rd H a u):ObjOk P w H h a u:=e.ok ok
theorem dk_rd {kvs:List (Key×V)}(ok:HOk P w H h) (e:Rd H a (.dK kvs)):kvs.length≤sizeLine∧(a==sysModules)=false∧∃ vs,KV kvs vs∧h.DictOf (mixKind P w) a vs:=
 show ObjOk P w H h a (.dK kvs) from rd_of ok e
theorem dk_of {kvs:List (Key×V)}(ok:HOk P w H h) (e:H a=some (.dK kvs)):kvs.length≤sizeLine∧(a==sysModules)=false∧∃ vs,KV kvs vs∧h.DictOf (mixKind P w) a vs:=dk_rd ok (.inl e)
theorem key_of {ks:List Key}(ok:HOk P w H h) (e:H a=some (.tup (ks.map kV))):(tupleKind (mixKind P w)).is h ks a:=by
 obtain ⟨_,its,r,o,h1,h2,n,h3⟩:=(show ObjOk P w H h a (.tup (ks.map kV)) from ok a _ e)
 exact ⟨o,its.toArray,n,h1,h2,h3,by simpa using items_are r⟩
theorem dt_rd {kvs:List (List Key×V)}(ok:HOk P w H h) (e:Rd H a (.dT kvs)):kvs.length≤sizeLine∧(a==sysModules)=false ∧
 ∃ xs,KT H kvs xs∧h.DictOfH (tupleKind (mixKind P w)) a xs:=by
 obtain ⟨z,y,xs,r,o,es,ep,h1,h2,h3,h4,h5⟩:=(show ObjOk P w H h a (.dT kvs) from rd_of ok e)
 refine ⟨z,y,xs,r,o,es,ep,h1,h2,h3,h4,fun x hx=>?_,h5⟩
 have all:∀ {l:List (List Key×V)} {m:List (List Key×Addr×Value)},KT H l m→∀ x∈m,(tupleKind (mixKind P w)).is h x.1 x.2.1:=by
  intro l m q
  induction q with
  | nil=>intro x hx;exact nomatch hx
  | @cons p q ps qs hq t ih=>
   intro x hx
   rcases List.mem_cons.mp hx with e | hx
   · subst e
     exact key_of ok (by rw [← hq.1];exact hq.2.1)
   · exact ih x hx
 exact all r x hx
theorem dt_of {kvs:List (List Key×V)}(ok:HOk P w H h) (e:H a=some (.dT kvs)):kvs.length≤sizeLine∧(a==sysModules)=false ∧
 ∃ xs,KT H kvs xs∧h.DictOfH (tupleKind (mixKind P w)) a xs:=dt_rd ok (.inl e)
end
noncomputable def DGet (H:Hp) (a:Addr) (y:V) (r:Option V):Prop:=
 (∃ kvs k,Rd H a (.dK kvs)∧y=kV k∧r=valV kvs k)∨∃ kvs k b,Rd H a (.dT kvs)∧y = .ref b∧H b=some (.tup (k.map kV))∧r=valV kvs k
noncomputable def DPut (H:Hp) (a:Addr) (y v:V) (H':Hp):Prop:=
 (∃ kvs k,H a=some (.dK kvs)∧y=kV k∧kvs.length<sizeLine∧H'=upd H a (.dK (putK kvs k v))) ∨
 ∃ kvs k b,H a=some (.dT kvs)∧y = .ref b∧H b=some (.tup (k.map kV))∧kvs.length<sizeLine∧H'=upd H a (.dT (putK kvs k v))
theorem DGet.k {H:Hp}{a:Addr}{kvs:List (Key×V)}{k:Key}(e:H a=some (.dK kvs)):DGet H a (kV k) (valV kvs k):=.inl ⟨kvs,k,.inl e,rfl,rfl⟩
theorem DPut.k {H:Hp}{a:Addr}{kvs:List (Key×V)}{k:Key}{v:V}(e:H a=some (.dK kvs)) (hl:kvs.length<sizeLine):DPut H a (kV k) v (upd H a (.dK (putK kvs k v))):=.inl ⟨kvs,k,e,rfl,hl,rfl⟩
section
variable {X:Cx}{pins:List (Addr×Obj)}{σ:St}{H:Hp}{s:Shared}{a:Addr}{y v:V}{u r:Value}{o:Option V}{A:Around}{E:Value→Shared→Prop}
theorem Inv.big (I:Inv X pins σ H s):sysModules<s.heap.objs.size:=by
 have h:mainGlobals<s.heap.objs.size:=(I.mod.glob.keeps I.bk).lt
 exact Nat.lt_trans (by decide) h
theorem d_getItem {Q:Value→Shared→Prop}(hu:A.units+1<cLine) (I:Inv X pins σ H s) (g:DGet H a y (some v)) (ry:RelV y u) (h:∀ w' s',Inv X pins σ H s'→RelV v w'→Q w' s') :
 wpAny (model X.prog X.w) A (getItem (.ref a) u) Q E s:=by
 rcases g with ⟨kvs,k,e,ey,l⟩ | ⟨kvs,k,b,e,ey,eb,l⟩
 · subst ey
   obtain ⟨z,hd,vs,rel,dd⟩:=dk_rd I.hok e
   obtain ⟨w',hw,rw'⟩:=RelO.some_of (v:=v) (o:=valueAt vs k) (by rw [l];exact rel.val k)
   exact wpAny_getItem_of (kV_is ry) dd.mapOf hw (h w' _ (I.tok _) rw')
 · subst ey
   cases (show u=Value.ref b from ry)
   obtain ⟨z,hd,xs,rel,dd⟩:=dt_rd I.hok e
   obtain ⟨w',hw,rw'⟩:=RelO.some_of (v:=v) (o:=(atKey xs k).map (·.2)) (by rw [l];exact rel.val k)
   obtain ⟨p,hp,hp2⟩:=Option.map_eq_some_iff.mp hw
   refine wpAny_getItem_heap (tupleKind_room_in1 hu) (key_of I.hok eb) dd hp ?_
   rw [hp2]
   exact h w' _ (I.tok _) rw'
theorem d_notIn {Q:Value→Shared→Prop}(hu:A.units+1<cLine) (I:Inv X pins σ H s) (g:DGet H a y o) (ry:RelV y u) (h:∀ s',Inv X pins σ H s'→Q (.bool (!o.isSome)) s') :
 wpAny (model X.prog X.w) A (compareOp .NotIn u (.ref a)) Q E s:=by
 rcases g with ⟨kvs,k,e,ey,l⟩ | ⟨kvs,k,b,e,ey,eb,l⟩
 · subst ey
   obtain ⟨z,hd,vs,rel,dd⟩:=dk_rd I.hok e
   refine wpAny_notIn_of (kV_is ry) hd dd.mapOf ?_
   rw [← (rel.val k).isSome_eq,← l]
   exact h _ (I.tok _)
 · subst ey
   cases (show u=Value.ref b from ry)
   obtain ⟨z,hd,xs,rel,dd⟩:=dt_rd I.hok e
   refine wpAny_notIn_heap (tupleKind_room_in1 hu) (key_of I.hok eb) hd dd ?_
   have q:=(rel.val k).isSome_eq
   rw [Option.isSome_map] at q
   rw [← q,← l]
   exact h _ (I.tok _)
theorem d_write {h':Heap}{t':Nat}{ob:HO}(I:Inv X pins σ H s) (mu:Mut (H a)) (hs:Heap.SameBut a s.heap h') (he:∃ q,h'.get? a=some q) (new:ObjOk X.prog X.w (upd H a ob) h' a ob) :
 Inv X pins σ (upd H a ob) { s with heap:=h',toks:=t' }:=
 I.write (x:=a) (e:=a) mu (.inl rfl) (fun b q hb z=>(hs.2 b hb).trans z) he new
theorem dk_new {P:Program}{w:World}{H':Hp}{h':Heap}{kvs:List (Key×V)}{vs:List (Key×Value)}(z:kvs.length≤sizeLine) (hd:(a==sysModules)=false) (rel:KV kvs vs) (dd:h'.DictOf (mixKind P w) a vs) :
 ObjOk P w H' h' a (.dK kvs):=⟨z,hd,vs,rel,dd⟩
theorem d_setItem {H':Hp}{Q:Unit→Shared→Prop}(hu:A.units+1<cLine) (I:Inv X pins σ H s) (g:DPut H a y v H') (ry:RelV y u) (rv:RelV v r) (h:∀ s',Inv X pins σ H' s'→Q () s') :
 wpAny (model X.prog X.w) A (setItem (.ref a) u r) Q E s:=by
 rcases g with ⟨kvs,k,e,ey,l,eH⟩ | ⟨kvs,k,b,e,ey,eb,l,eH⟩
 · subst ey eH
   obtain ⟨z,hd,vs,rel,dd⟩:=dk_of I.hok e
   have hz:vs.length≤sizeLine:=by rw [← rel.length];exact z
   have hl:(putK kvs k v).length≤sizeLine:=by have:=length_putK kvs k v;omega
   refine wpAny_setItem_pairs (hsz:=hz) (kV_is ry) dd fun h' dd' hs=>h _ ?_
   have he:∃ q,h'.get? a=some q:=let ⟨q,_,_,hq,_⟩:=dd';⟨q,hq⟩
   exact d_write I (by rw [e];exact True.intro) hs he (dk_new hl hd (rel.put k rv) dd')
 · subst ey eH
   cases (show u=Value.ref b from ry)
   obtain ⟨z,hd,xs,rel,dd⟩:=dt_of I.hok e
   have hz:xs.length≤sizeLine:=by rw [← Paired.length rel];exact z
   have hl:(putK kvs k v).length≤sizeLine:=by have:=length_putK kvs k v;omega
   refine wpAny_setItem_heap (hsz:=hz) (tupleKind_room_in1 hu) (key_of I.hok eb) dd fun h' dd' hs=>h _ ?_
   obtain ⟨q,es,ep,hq,h2,h3,h4,_,h5⟩:=dd'
   refine d_write I (by rw [e];exact True.intro) hs ⟨q,hq⟩ ⟨hl,hd,_,(rel.put k eb rv).keeps fun c ys ec=>?_,q,es,ep,hq,h2,h3,h4,h5⟩
   rw [upd_ne (ne_of ec e (fun z=>nomatch z))]
   exact ec
end
section
variable {X:Cx}{pins:List (Addr×Obj)}{σ:St}{H:Hp}{s:Shared}{a:Addr}{kvs:List (Key×V)}{k:Key}{u:Value}{A:Around}{E:Value→Shared→Prop}
end
noncomputable def NoSl (i:Expr):Prop:=∀ ov iv,subscripted i false ov iv=operate [ov,iv] (getItem ov iv)
theorem subD_of {prog:Program}{w:World}{A:Around}{E:Value→Shared→Prop}{s:Shared}{env:Env}{value slice:Expr}{pos:Pos}{T id:String}{Q:Value→Shared→Prop}
 (hl:typeLookup (.type T) "__getitem__" = pure (some (.builtin id))) (hs:NoSl slice)
 (h:wpAny (model prog w) A (eval value env) (fun o s₁=>wpAny (model prog w) A (eval slice env) (fun i s₂=>s₂.TypeIs o T∧wpAny (model prog w) A (getItem o i) Q E s₂) E s₁) E s) :
 wpAny (model prog w) A (eval (.Subscript value slice pos) env) Q E s:=by
 refine Subscript_ (wpAny_mono h (fun o s₁ h₁=>wpAny_mono h₁ (fun i s₂ h₂=>?_) fun _ _ x=>x) fun _ _ x=>x)
 obtain ⟨hT,h₂⟩:=h₂
 unfold subscriptTail
 refine wpAny_bind ?_
 rw [getitemInPython_of_ne hT.not_modules]
 refine wpAny_bind (wpAny_specialOf hT hl ?_)
 have fin:wpAny (model prog w) A (subscripted slice false o i) (fun r s₃=>wpAny (model prog w) A (letTemporaryGo value o r >>= fun _=>pure r) Q E s₃) E s₂:=by
  rw [hs o i]
  exact wpAny_operating (wpAny_mono h₂ (fun r s₃ h₃=>wpAny_bind (wpAny_letTemporaryGo (wpAny_pure h₃))) fun _ _ x=>x)
 first
  | exact wpAny_pure (wpAny_bind fin)
  | exact wpAny_bind (wpAny_pure (wpAny_bind fin))
  | exact wpAny_bind fin
theorem dict_typeIs {X:Cx}{pins:List (Addr×Obj)}{σ:St}{H:Hp}{s:Shared}{a:Addr}{y:V}{o:Option V}(I:Inv X pins σ H s) (g:DGet H a y o):s.TypeIs (.ref a) "dict":=by
 rcases g with ⟨kvs,k,e,_,_⟩ | ⟨kvs,k,b,e,_,_,_⟩
 · obtain ⟨_,_,vs,_,dd⟩:=dk_rd I.hok e
   exact dd.typeIs
 · obtain ⟨_,_,xs,_,dd⟩:=dt_rd I.hok e
   exact dd.typeIs
noncomputable def tDGet (td ty:TE):TE:=fun σ H Q=>td σ H fun x H1=>ty σ H1 fun y H2=>∃ a v,x = .ref a∧DGet H2 a y (some v)∧Q v H2
noncomputable def tDNotIn (ty td:TE):TE:=fun σ H Q=>ty σ H fun y H1=>td σ H1 fun x H2=>∃ a o,x = .ref a∧DGet H2 a y o∧Q (.bl (!o.isSome)) H2
noncomputable def sDPut (td ty tv:TE):TS:=fun D σ H=>tv σ H fun v H1=>td σ H1 fun x H2=>ty σ H2 fun y H3=>∃ a H4,x = .ref a∧DPut H3 a y v H4∧D.nx σ H4
section
variable {X:Cx}{o i e value:Expr}{pos pos' tpos:Pos}{td ty tv:TE}
theorem pe_dget (hu:X.A.units+1<cLine) (ho:PE X o td) (hi:PE X i ty) (hs:NoSl i):PE X (.Subscript o i pos) (tDGet td ty):=by
 intro pins s σ H Q I h
 refine subD_of PySem.F.slot_dict_getitem.lookup hs (thn (ho pins s σ H _ I h) fun u s1 ⟨x,H1,I1,rx,q1⟩=>thn (hi pins s1 σ H1 _ I1 q1) fun iv s2 ⟨y,H2,I2,ry,a,v,ex,g,q2⟩=>?_)
 subst ex
 obtain rfl:u=Value.ref a:=rx
 exact ⟨dict_typeIs I2 g,d_getItem hu I2 g ry fun w' s3 I3 rw'=>⟨v,H2,I3,rw',q2⟩⟩
theorem pc_dnotin (hu:X.A.units+1<cLine) (hi:PE X i ty) (ho:PE X o td):PC X .NotIn i o (tDNotIn ty td):=by
 intro pins s σ H Q I h
 refine thn (hi pins s σ H _ I h) fun iv s1 ⟨y,H1,I1,ry,q1⟩=>thn (ho pins s1 σ H1 _ I1 q1) fun u s2 ⟨x,H2,I2,rx,a,ov,ex,g,q2⟩=>?_
 subst ex
 obtain rfl:u=Value.ref a:=rx
 exact d_notIn hu I2 g ry fun s3 I3=>⟨.bl (!ov.isSome),H2,I3,rfl,q2⟩
theorem ps_dput (hu:X.A.units+1<cLine) (ho:PE X o td) (hi:PE X i ty) (hv:PE X value tv) (hs:swapsWith value (some (.Subscript o i pos')) pos.line X.env=pure false) :
 PS X (.Assign [.Subscript o i pos'] value pos) (sDPut td ty tv):=by
 intro pins s σ H D I h
 refine wpAny_Assign_Subscript (thn (hv pins s σ H _ I h) fun r s1 ⟨v,H1,I1,rv,q1⟩=>thn (ho pins s1 σ H1 _ I1 q1) fun u s2 ⟨x,H2,I2,rx,q2⟩=>thn (hi pins s2 σ H2 _ I2 q2) fun iv s3 ⟨y,H3,I3,ry,a,H4,ex,g,q3⟩=>?_) hs
 subst ex
 obtain rfl:u=Value.ref a:=rx
 exact d_setItem hu I3 g ry rv fun s4 I4=>⟨σ,H4,I4,q3⟩
end
theorem dk_empty {P:Program}{w:World}{H:Hp}(h:Heap) (hb:sysModules<h.objs.size):ObjOk P w H (h.push { cls:=.type "dict",data:=.dict #[] }) h.objs.size (.dK []):=
 ⟨Nat.zero_le _,beq_eq_false_iff_ne.mpr (Ne.symm (Nat.ne_of_lt hb)),[],.nil,Heap.DictOf.new h⟩
noncomputable def tDNewK:TE:=fun _ H Q=>∀ p,H p=none→Q (.ref p) (upd H p (.dK []))
section
variable {X:Cx}{pos:Pos}
theorem pe_dnewK:PE X (.Dict [] [] pos) tDNewK:=fun pins s σ H Q I h=>
 wpAny_Dict_empty ⟨.ref s.heap.objs.size,_,I.laid (a:=s.heap.objs.size) (o:=.dK []) (t':=s.toks) (fun _ _ q=>Heap.get?_push_of_some _ q) (Nat.le_refl _) (dk_empty s.heap I.big),rfl,h _ (I.hok.fresh (Nat.le_refl _))⟩
end
noncomputable def tPairs:List (TE×TE)→St→Hp→(List (V×V)→Hp→Prop)→Prop
 | [],_,H,Q=>Q [] H
 | (tk,tv)::r,σ,H,Q=>tk σ H fun x H1=>tv σ H1 fun y H2=>tPairs r σ H2 fun ps H3=>Q ((x,y)::ps) H3
noncomputable abbrev VV:List (V×V)→List (Value×Value)→Prop:=Paired fun p q=>RelV p.1 q.1∧RelV p.2 q.2
noncomputable def PPs (X:Cx) (pos:Pos) (keys:List (Option Expr)) (values:List Expr) (trs:List (TE×TE)):Prop:=
 ∀ (pins:List (Addr×Obj)) (s:Shared) (σ:St) (H:Hp) (Q:List (V×V)→Hp→Prop),Inv X pins σ H s→tPairs trs σ H Q →
  wpAny (model X.prog X.w) X.A (evalPairs (pairTrees keys values X.env pos)) (fun vs s'=>∃ ps H',Inv X pins σ H' s'∧VV ps vs∧Q ps H') X.xe s
theorem pps_nil {X:Cx}{pos:Pos}:PPs X pos [] [] []:=fun pins s σ H Q I h=>pairTrees_nil_walk ⟨[],H,I,.nil,h⟩
theorem pps_cons {X:Cx}{pos:Pos}{k v:Expr}{ks:List (Option Expr)}{vs:List Expr}{tk tv:TE}{trs:List (TE×TE)}(hk:PE X k tk) (hv:PE X v tv) (hr:PPs X pos ks vs trs) :
 PPs X pos (some k::ks) (v::vs) ((tk,tv)::trs):=fun pins s σ H Q I h=>
 pairTrees_cons_walk (thn (hk pins s σ H _ I h) fun u s1 ⟨x,H1,I1,rx,q1⟩=>thn (hv pins s1 σ H1 _ I1 q1) fun w2 s2 ⟨y,H2,I2,ry,q2⟩=>
  thn (hr pins s2 σ H2 _ I2 q2) fun ws s3 ⟨ps,H3,I3,rel,q3⟩=>⟨(x,y)::ps,H3,I3,.cons ⟨rx,ry⟩ rel,q3⟩)
noncomputable def mergeK (kvs more:List (Key×V)):List (Key×V):=more.foldl (fun acc kv=>putK acc kv.1 kv.2) kvs
theorem KV.merge:∀ {more:List (Key×V)}{rs:List (Key×Value)}{kvs:List (Key×V)}{vs:List (Key×Value)},KV more rs→KV kvs vs→KV (mergeK kvs more) (merged vs rs):=by
 intro more rs kvs vs r
 unfold KV at r
 induction r generalizing kvs vs with
 | nil=>intro q;exact q
 | @cons p q ps qs h t ih=>
  intro r0
  have e:KV (putK kvs p.1 p.2) (stored vs q.1 q.2):=by
   have:=r0.put p.1 h.2
   rw [← h.1];exact this
  exact ih e
theorem length_mergeK:∀ (more kvs:List (Key×V)),(mergeK kvs more).length≤kvs.length+more.length
 | [],kvs=>by show kvs.length≤kvs.length+0;omega
 | p::r,kvs=>by
  have h1:=length_mergeK r (putK kvs p.1 p.2)
  have h2:=length_putK kvs p.1 p.2
  show (mergeK (putK kvs p.1 p.2) r).length≤_
  rw [List.length_cons];omega
theorem carries_of {P:Program}{w:World}:∀ {kvs:List (Key×V)}{ws:List (Value×Value)},VV (kvs.map fun kv=>(kV kv.1,kv.2)) ws→∃ rs,Carries (mixKind P w) ws rs∧KV kvs rs
 | [],_,r=>by rw [List.map_nil] at r;cases r;exact ⟨[],True.intro,.nil⟩
 | p::kvs,_,r=>by
  rw [List.map_cons] at r
  cases r with
  | @cons a b as bs h t=>
   obtain ⟨rs,c,q⟩:=carries_of (P:=P) (w:=w) t
   obtain ⟨b1,b2⟩:=b
   exact ⟨(p.1,b2)::rs,⟨kV_is h.1,rfl,c⟩,.cons ⟨rfl,h.2⟩ q⟩
noncomputable def tDisp (trs:List (TE×TE)):TE:=fun σ H Q=>∀ p,H p=none→tPairs trs σ (upd H p (.dK [])) fun ps H2=>H2 p=some (.dK [])∧∃ kvs:List (Key×V),ps=kvs.map (fun kv=>(kV kv.1,kv.2))∧kvs.length≤15∧Q (.ref p) (upd H2 p (.dK (mergeK [] kvs)))
theorem pe_disp {X:Cx}{pos:Pos}{keys:List (Option Expr)}{values:List Expr}{trs:List (TE×TE)}(h:PPs X pos keys values trs) (hall:keys.all (·.isSome)=true) (hl:keys.length=values.length) (h0:keys≠[])
 (h15:keys.length≤15):PE X (.Dict keys values pos) (tDisp trs):=by
 intro pins s σ H Q I q
 have hn:=I.hok.fresh (Nat.le_refl s.heap.objs.size)
 have I1:=I.laid (a:=s.heap.objs.size) (o:=.dK []) (h':=s.heap.push { cls:=.type "dict",data:=.dict #[] }) (t':=s.toks) (fun _ _ q=>Heap.get?_push_of_some _ q) (Nat.le_refl _) (dk_empty s.heap I.big)
 refine wpAny_Dict_walk (knd:=mixKind X.prog X.w) hall hl h0 h15 (thn (h pins _ σ _ _ I1 (q _ hn)) fun ws s2 ⟨ps,H2,I2,rel,e,kvs,ep,lk,q2⟩=>?_)
 subst ep
 obtain ⟨rs,c,rk⟩:=carries_of (P:=X.prog) (w:=X.w) rel
 obtain ⟨z,hd,vs0,r0,dd⟩:=dk_of I2.hok e
 cases r0
 refine ⟨rs,c,dd,fun h' dd' hs=>⟨.ref s.heap.objs.size,_,?_,rfl,q2⟩⟩
 have hz:(mergeK [] kvs).length≤sizeLine:=by
  have h1:=length_mergeK kvs []
  rw [List.length_nil] at h1
  rw [sizeLine_eq];omega
 have he:∃ q,h'.get? s.heap.objs.size=some q:=let ⟨q,_,_,hq,_⟩:=dd';⟨q,hq⟩
 exact d_write I2 (by rw [e];exact True.intro) hs he (dk_new hz hd (rk.merge .nil) dd')
structure M2 (X:Cx) (o:Expr) (m:Str) (apos:Pos) (e f:Expr) (cpos:Pos):Prop where
 base:attributeBase o m X.env (eval o X.env)=eval o X.env
 few:((backTo cpos (starEach [e,f] X.env)).all (fun x=>!x.1)&&(backToKw cpos (keywordEach [] X.env)).all (fun x=>x.1.isSome)
  && decide (([e,f]:List Expr).length+([]:List Keyword).length+(if ([]:List Keyword).isEmpty then 0 else 1)<30))=true
 line:(apos.endLine==cpos.line)=true
 trees:backTo cpos (starEach [e,f] X.env)=[(false,eval e X.env),(false,eval f X.env)]
noncomputable def IsD (H:Hp) (a:Addr):Prop:=(∃ kvs,Rd H a (.dK kvs))∨∃ kvs,Rd H a (.dT kvs)
theorem isD_at {X:Cx}{pins:List (Addr×Obj)}{σ:St}{H:Hp}{s:Shared}{a:Addr}(I:Inv X pins σ H s) (d:IsD H a) :
 s.TypeIs (.ref a) "dict"∧(∀ b,Value.ref a = .ref b→∃ ob,s.heap.get? b=some ob∧ob.dict=none)∧(a==sysModules)=false:=by
 rcases d with ⟨kvs,e⟩ | ⟨kvs,e⟩
 · obtain ⟨_,hd,vs,_,dd⟩:=dk_rd I.hok e
   refine ⟨dd.typeIs,fun b q=>?_,hd⟩
   cases q
   obtain ⟨ob,_,_,h1,h2,_⟩:=dd
   exact ⟨ob,h1,h2.2.1⟩
 · obtain ⟨_,hd,xs,_,dd⟩:=dt_rd I.hok e
   refine ⟨dd.typeIs,fun b q=>?_,hd⟩
   cases q
   obtain ⟨ob,_,_,h1,h2,_⟩:=dd
   exact ⟨ob,h1,h2.2.1⟩
section
variable {X:Cx}{pins:List (Addr×Obj)}{σ:St}{H:Hp}{s:Shared}{a:Addr}{y d:V}{u r:Value}{o:Option V}{A:Around}{E:Value→Shared→Prop}
theorem d_get2 {Q:Value→Shared→Prop}(hu:A.units+1<cLine) (I:Inv X pins σ H s) (g:DGet H a y o) (ry:RelV y u) (rd:RelV d r) (h:∀ w' s',Inv X pins σ H s'→RelV (o.getD d) w'→Q w' s') :
 wpAny (model X.prog X.w) A (call (.builtin "dict.get") [.ref a,u,r]) Q E s:=by
 rcases g with ⟨kvs,k,e,ey,l⟩ | ⟨kvs,k,b,e,ey,eb,l⟩
 · subst ey
   obtain ⟨z,hd,vs,rel,dd⟩:=dk_rd I.hok e
   refine call_meetsIn PySem.F.slot_dict_get dd.typeIs PySem.F.entry_dict_get (PySem.F.args_dict_get_3 _ _ _) (meets_dict_get_default (mixKind X.prog X.w) a (kV_is ry) hd r) ⟨_,dd.mapOf,h _ _ (I.tok _) ?_⟩
   rw [l]
   exact (rel.val k).getD rd
 · subst ey
   cases (show u=Value.ref b from ry)
   obtain ⟨z,hd,xs,rel,dd⟩:=dt_rd I.hok e
   refine call_meetsIn PySem.F.slot_dict_get dd.typeIs PySem.F.entry_dict_get (PySem.F.args_dict_get_3 _ _ _) (meetsH_dict_get_default (tupleKind (mixKind X.prog X.w)) a b hd r) ⟨tupleKind_room_in1 hu,k,xs,key_of I.hok eb,dd,h _ _ (I.tok _) ?_⟩
   rw [l]
   exact (rel.val k).getD rd
end
noncomputable def tDGet2 (td ty tx:TE):TE:=fun σ H Q=>td σ H fun x H1=>∃ a,x = .ref a∧IsD H1 a∧ty σ H1 fun y H2=>tx σ H2 fun z H3=>∃ o,DGet H3 a y o∧Q (o.getD z) H3
section
variable {X:Cx}{o e f:Expr}{apos cpos:Pos}{td ty tx:TE}
theorem pe_dget2 (hu:X.A.units+1<cLine) (ho:PE X o td) (he:PE X e ty) (hf:PE X f tx) (m:M2 X o "get" apos e f cpos):PE X (.Call (.Attribute o "get" apos) [e,f] [] cpos) (tDGet2 td ty tx):=by
 intro pins s σ H Q I h
 refine wpAny_Call_method m.base m.few m.line PySem.F.plainAttrs_dict PySem.F.slot_dict_get PySem.F.type_dict_get (thn (ho pins s σ H _ I h) fun u s1 ⟨x,H1,I1,rx,a,ex,d,q1⟩=>?_)
 subst ex
 obtain rfl:u=Value.ref a:=rx
 obtain ⟨t1,t2,_⟩:=isD_at I1 d
 refine ⟨t1,t2,?_⟩
 rw [m.trees]
 refine Calls.callWith_builtin rfl (Calls.evalArgs_plain (Calls.spliced_cons (thn (he pins s1 σ H1 _ I1 q1) fun iv s2 ⟨y,H2,I2,ry,q2⟩=>
  Calls.spliced_cons (thn (hf pins s2 σ H2 _ I2 q2) fun fv s3 ⟨z,H3,I3,rz,ov,g,q3⟩=>Calls.spliced_nil ?_))))
 exact d_get2 hu I3 g ry rz fun w' s4 I4 rw'=>⟨_,H3,I4,rw',q3⟩
end
section
variable {X:Cx}{pins:List (Addr×Obj)}{σ:St}{H:Hp}{s:Shared}{a:Addr}{kvs:List (Key×V)}{A:Around}{E:Value→Shared→Prop}
end
section
variable {X:Cx}{pins:List (Addr×Obj)}{σ:St}{H:Hp}{s:Shared}{a:Addr}{y:V}{u:Value}{A:Around}{E:Value→Shared→Prop}
end
end L2
namespace Att
open PySem PySem.W PySem.Calls PyProof.Rows
theorem ints_of_wellAll {P:Params}{h:Heap}:∀ (ns:List Int) (vs:List Value),WellAll P h vs (ns.map WData.int)→IntsAre vs ns:=by
 intro ns
 induction ns with
 | nil=>
  intro vs w
  rw [List.map_nil] at w
  cases w
  exact .nil
 | cons n ns ih=>
  intro vs w
  rw [List.map_cons] at w
  cases w with
  | cons a b=>
   cases a
   exact .cons _ _ (ih _ b)
theorem script_of {l:OpenLaw}{n:Nat}(hn:l.most=some n) {P:Params}{h:Heap}{args:List WData}{vals:List Value}
 (hpre:l.row.toRowW.claim.pre args=true) (hwl:WellAll P h vals args) :
 ∃ a vs ns,vals=[Value.ref a]∧args=[WData.list (ns.map WData.int)]∧h.get? a=some { cls:=.type "list",data:=.seq vs.toArray }∧IntsAre vs ns∧ns.length≤n:=by
 have hsh:WShape.hasAll [] args [.list .int]=true:=(pre_splitW hpre).1
 have hc:l.pre.holds [] { args:=args }=true:=(pre_splitW hpre).2
 obtain ⟨d,r,rfl,h1,h2⟩:=hasAllW_cons hsh
 obtain rfl:=hasAllW_nil h2
 obtain ⟨xs,rfl,h3⟩:=hasW_list h1
 obtain ⟨ns,rfl⟩:=items_int h3
 have hlen:ns.length≤n:=by
  unfold OpenLaw.pre at hc
  have h4:(WTm.not (.lt (.lit (.int (n:Int))) (.len (.arg 0)))).holds [] { args:=[.list (ns.map .int)] }=true:=by
   have h4:=(holds_andW hc).1
   rw [hn] at h4
   exact h4
  have h5:=condW_of h4 (w_not (w_lt w_lit (w_len_list (w_arg rfl))))
  rw [List.length_map] at h5
  refine Nat.le_of_not_lt fun q=>?_
  have q':(n:Int)<((ns.length:Nat):Int):=by omega
  first
   | (rw [decide_eq_true q'] at h5;exact absurd h5 (by decide))
   | (simp at h5;omega)
 cases hwl with
 | cons w1 w2=>
  cases w2
  cases w1 with
  | list ho hall=>exact ⟨_,_,ns,rfl,rfl,ho,ints_of_wellAll ns _ hall,hlen⟩
theorem post_true (l:OpenLaw) (args:List WData):l.row.toRowW.claim.post args (.bool true) args=true:=
 postW_of (r:=l.row.toRowW) (X:=(true==true))
  (show WShape.has [] (.bool true) .bool=true by first | rfl | decide | simp [WShape.has,WShape.arms,WShape.armsAll])
  (show (WTm.eq .res (.lit (.bool true))).value [] { args:=args,res:=some (.bool true),after:=args }=some (.bool (true==true)) from w_eq_bool (w_res rfl) w_lit) rfl
theorem attach_call {l:OpenLaw}{n:Nat}{q:Program}{loose:List Str}{XP:(Str→Option Value)→Heap→Prop}{YP:World→Heap→Prop}{d:DefRec}
 (hn:l.most=some n) (hdf:d.params.defaults=[])
 (call:∀ (w:World) (s₀ s₁:Shared) (mg mb:Str→Option Value) (fa:Addr) (o:Obj) (pm cd doc:Value) (a:Addr) (vs:List Value) (ns:List Int),
  Ground q loose [] XP w s₀ mg mb s₁.heap→YP w s₁.heap →
  s₁.heap.get? fa=some o→o.data = .func (docDef d.name d.params d.body d.scope pm cd doc)→s₁.heap.CodeRec cd d.name→mg d.name=some (.ref fa) →
  s₁.heap.get? a=some { cls:=.type "list",data:=.seq vs.toArray }→IntsAre vs ns→ns.length≤n→s₁.gens = #[] →
  codeAny (model l.prog w) callerA (.call (.ref fa) ⟨[.ref a],[]⟩) (fun r s'=>r = .ok (.ret (.bool true))∧OldK s₁.heap s'.heap∧s'.os=s₁.os∧AllBare s'.gens) s₁) :
 WalkO q loose XP YP l.row.toRowW d [] (fun f vs=>PySem.call f vs):=by
 intro w s₀ s₁ mg mb G Y fa o pm cd doc dV kV ho hd hcd hD hmg hg args vals as hpre hlay hrd hwl hlo
 obtain rfl:dV = .none:=Dflts.none hD hdf
 obtain rfl:kV = .none:=Dflts.noKw hD
 obtain ⟨a,vs,ns,rfl,rfl,hobj,hints,hlen⟩:=script_of hn hpre hwl
 refine enter_call (codeAny_mono (call w s₀ s₁ mg mb fa o pm cd doc a vs ns G Y ho (fd_plain hd) hcd hmg hobj hints hlen hg) fun r s' hq=>?_)
 obtain ⟨rfl,h2,h3,h4⟩:=hq
 exact ⟨.inl ⟨.bool true,.bool true,[],rfl,fun _=>rfl,.bool true,post_true l _,fun _=>⟨List.Pairwise.nil,fun _ hm=>(nomatch hm)⟩⟩,h2,h3,h4⟩
section
variable {prog:Program}{w:World}{A:Around}{E:Value→Shared→Prop}{s:Shared}{K:Frag}
end
end Att
namespace L2
open PySem PySem.Spec PyProof.Rows
theorem vals_ints:∀ {vs:List Value}{ns:List Int},IntsAre vs ns→Vals (ns.map V.int) vs
 | _,_,.nil=>.nil
 | _,_,.cons n t h=>.cons ⟨t,rfl⟩ (vals_ints h)
noncomputable def Only (H:Hp):Prop:=∀ b,H b=none∨∃ o xs,H b=some (.frz o (.lst xs))
theorem law_call {P:Program}{w:World}{K:PySem.W.Frag}{mg mb:Str→Option Value}{CX:CXT}{k:Nat}{fa a:Addr}{fd:FuncData}{x:Str}{sp:Sp}{s₁:Shared}{vs:List Value}{ns:List Int}
 (KX:K.In s₁.heap) (hns:s₁.heap.Ns mainGlobals mg) (hb:s₁.heap.Ns builtinsNs mb) (hbb:∀ x:Str,x≠"__name__"→mb x=bootBuiltins x) (hlim:s₁.heap.NoLimit) (hg:s₁.gens = #[])
 (ha:s₁.heap.get? a=some { cls:=.type "list",data:=.seq vs.toArray }) (hi:IntsAre vs ns) (hl:ns.length≤sizeLine) (hr:Room k callerA)
 (F:∀ base:Heap,K.In base→base.Ns mainGlobals mg→FnOk P w K mg base CX k fa fd [x] sp) (hbind:∀ (s:Shared) (u:Value),BindsTo s fd ⟨[u],[]⟩ [(x,u)])
 (hsp:∀ H:Hp,Only H→SqL K H a (ns.map V.int)→sp [.ref a] H (fun v _=>v = .bl true) fun _ _ _=>False)
 (hCX:∀ H e s',CX [] H s₁ (fun _ _ _=>False) e s'→False) :
 codeAny (model P w) callerA (.call (.ref fa) ⟨[.ref a],[]⟩) (fun r s'=>r = .ok (.ret (.bool true))∧OldK s₁.heap s'.heap∧s'.os=s₁.os∧AllBare s'.gens) s₁:=by
 have rv:=vals_ints hi
 have lenV:=hi.length
 -- from an abstract heap in which nothing but the script may be tracked
 have core:∀ H:Hp,Only H→SqL K H a (ns.map V.int)→HOk P w H s₁.heap→(∀ b,H b≠none→b=a)→(H a≠none→K.lookup a=none) →
  codeAny (model P w) callerA (.call (.ref fa) ⟨[.ref a],[]⟩) (fun r s'=>r = .ok (.ret (.bool true))∧OldK s₁.heap s'.heap∧s'.os=s₁.os∧AllBare s'.gens) s₁:=by
  intro H hO hS hok hA hK
  have base_of:∀ {b:Addr} {o:Obj},s₁.heap.get? b=some o→H b=none→(hidT s₁.heap H).get? b=some o:=fun e n=>hidT_get e n
  have noA:∀ {b:Addr} {o:Obj} {es:Array DictEntry} {ep:Nat},s₁.heap.get? b=some o→o.data = .dict es ep→H b=none:=fun {b o es ep} e d=>by
   cases q:H b with
   | none=>rfl
   | some u=>
    have e':b=a:=hA b (by rw [q];simp)
    subst e'
    rw [ha] at e;cases e
    have d':Data.seq vs.toArray _=Data.dict es ep:=d
    cases d'
  have nsK:∀ {b:Addr} {m:Str→Option Value},s₁.heap.Ns b m→(hidT s₁.heap H).Ns b m:=fun {b m} ⟨o,es,ep,e,d,r⟩=>⟨o,es,ep,base_of e (noA e d),d,r⟩
  have hKb:K.In (hidT s₁.heap H):=fun b o e=>base_of (KX b o e) (by
   cases q:H b with
   | none=>rfl
   | some u=>
    have e':b=a:=hA b (by rw [q];simp)
    subst e'
    rw [hK (by rw [q];simp)] at e;cases e)
  have hM:Mod K mg (hidT s₁.heap H):=⟨hKb,nsK hns,⟨mb,nsK hb,hbb⟩,let ⟨mc,h1,h2⟩:=hlim;⟨mc,nsK h1,h2⟩⟩
  have e0:Env0 P w K mg (hidT s₁.heap H) callerA [] s₁ H:=⟨rfl,hM,fun b o e=>of_hidT e,Nat.le_of_eq (hidT_size _ _),trivial,fun b hb=>absurd (show b∈([]:List Addr) from hb) (by simp),hok,.of_eq hg⟩
  refine codeAny_mono ((F _ hKb (nsK hns)).run callerA [] s₁ H ⟨[.ref a],[]⟩ [.ref a] [.ref a] _ _ hr e0 (hbind s₁ (.ref a)) (.cons rfl .nil) (hsp H hO hS)) fun r s' h=>?_
  cases r with
  | error e=>exact (hCX H e s' h).elim
  | ok fl=>
   cases fl with
   | next=>exact False.elim h
   | brk=>exact False.elim h
   | cont=>exact False.elim h
   | ret u=>
    obtain ⟨v,H',os,bare,un,hok',r',q⟩:=h
    have q':v = .bl true:=q
    subst q'
    obtain rfl:u=Value.bool true:=r'
    refine ⟨rfl,OldK.of_keep fun b o e=>?_,os,bare⟩
    cases q:H b with
    | none=>exact un.keep b o e q (by intro z;exact absurd (show b∈([]:List Addr) from z) (by simp)) (by simp)
    | some u=>
     rcases hO b with z | ⟨ob,xs,z⟩
     · rw [q] at z;cases z
     · have z2:=un.frzs b ob _ z
       obtain ⟨e1,_⟩:=hok b _ z
       obtain ⟨e2,_⟩:=hok' b _ z2
       rw [e] at e1;cases e1
       exact e2
 cases hk:K.lookup a with
 | some o=>
  -- the script is one of the module's own objects
  have e:=KX a o hk
  rw [ha] at e
  cases e
  refine core (fun _=>none) (fun _=>.inl rfl) (.inr ⟨_,vs.toArray,_,hk,rfl,rfl,rfl,by rw [List.size_toArray,lenV];exact hl,by simpa using rv⟩) (fun b u z=>by have z':(none:Option HO)=some u:=z;cases z') (fun b z=>absurd rfl z) fun z=>absurd rfl z
 | none=>
  refine core (fun b=>if b=a then some (.frz { cls:=.type "list",data:=.seq vs.toArray } (.lst (ns.map V.int))) else none) (fun b=>?_) (.inl (.inr ⟨{ cls:=.type "list",data:=.seq vs.toArray },if_pos rfl⟩)) (fun b u z=>?_) (fun b z=>?_) fun _=>hk
  · by_cases hb:b=a
    · exact .inr ⟨_,_,if_pos hb⟩
    · exact .inl (if_neg hb)
  · by_cases hb:b=a
    · have z':=(if_pos hb).symm.trans z
      cases z'
      subst hb
      exact ⟨ha,by rw [List.length_map];exact hl,vs,_,rv,ha⟩
    · have z':=(if_neg hb).symm.trans z
      cases z'
  · by_cases hb:b=a
    · exact hb
    · exact absurd (if_neg hb) z
theorem walk_of {l:PySem.W.OpenLaw}{n k:Nat}{q:Program}{loose:List Str}{XP:(Str→Option Value)→Heap→Prop}{YP:World→Heap→Prop}{d:DefRec}{K:Params→PySem.W.Frag}{CX:World→CXT}{sp:World→Sp}{x:Str}
 (hn:l.most=some n) (hn2:n≤sizeLine) (hdf:d.params.defaults=[]) (hr:Room k callerA)
 (hY:∀ (w:World) (h:Heap),YP w h→(K w.params).In h)
 (F:∀ (w:World) (mg:Str→Option Value) (fa:Addr) (h:Heap),(K w.params).In h→h.Ns mainGlobals mg→mg d.name=some (.ref fa) →
  ∃ fd:FuncData,(∀ (s:Shared) (u:Value),BindsTo s fd ⟨[u],[]⟩ [(x,u)]) ∧
   ∀ base:Heap,(K w.params).In base→base.Ns mainGlobals mg→FnOk l.prog w (K w.params) mg base (CX w) k fa fd [x] (sp w))
 (hsp:∀ (w:World) (H:Hp) (a:Addr) (ns:List Int),ns.length≤n→Only H→SqL (K w.params) H a (ns.map V.int)→sp w [.ref a] H (fun v _=>v = .bl true) fun _ _ _=>False)
 (hCX:∀ (w:World) (H:Hp) (s:Shared) (e:Value) (s':Shared),CX w [] H s (fun _ _ _=>False) e s'→False) :
 PySem.W.WalkO q loose XP YP l.row.toRowW d [] (fun f vs=>PySem.call f vs):=by
 refine Att.attach_call hn hdf fun w s₀ s₁ mg mb fa o pm cd doc a vs ns G Y ho hd hcd hmg hobj hints hlen hg=>?_
 have KX:=hY w _ Y
 obtain ⟨fd,hb,hF⟩:=F w mg fa _ KX G.T.g hmg
 exact law_call KX G.T.g G.T.b G.T.builtins G.T.nolimit hg hobj hints (Nat.le_trans hlen hn2) hr hF hb (fun H hO hS=>hsp w H a ns hlen hO hS) fun H e s'=>hCX w H s₁ e s'
noncomputable def defArgs (s:Stmt):Arguments:=match s with
 | .FunctionDef _ a _ _ _ _ _ _ _ _=>a
 | _=>{ posonlyargs:=[],args:=[],vararg:=none,kwonlyargs:=[],kw_defaults:=[],kwarg:=none,defaults:=[] }
noncomputable def defBody (s:Stmt):List Stmt:=match s with
 | .FunctionDef _ _ b _ _ _ _ _ _ _=>b
 | _=>[]
noncomputable def defScope (s:Stmt):Scope:=match s with
 | .FunctionDef _ _ _ _ _ _ sc _ _ _=>sc
 | _=>{ kind:=.function,names:=[],isGenerator:=false,isCoroutine:=false }
noncomputable abbrev CX0:CXT:=fun _ _ _ _ _ _=>False
noncomputable abbrev E0:XK:=fun _ _ _=>False
theorem pass0 {X:Cx}:Passes CX0 X E0:=fun _ _ _ _ _ _ _ h=>h.elim
structure Fun (K:PySem.W.Frag) (x qual:Str) (st:Stmt) (f:Addr) (fd:FuncData):Prop where
 ex:∃ (oc:Value) (od:Option Addr) (kV doc pm:Value) (an:Option Addr) (cdv ct:Value) (osl:Array (Option Value)),
  fd=PySem.W.fnOf x qual (defArgs st) (defBody st) (defScope st) .none kV doc pm an cdv ct∧K.lookup f=some ⟨oc,od,.func fd,osl⟩∧PySem.W.codeIn K cdv qual=true
 kp:PySem.W.keepIn K (.ref f)=true
section
variable {P:Program}{w:World}{K:PySem.W.Frag}{mg:Str→Option Value}{base:Heap}
theorem Fun.ok {x qual:Str}{st:Stmt}{f:Addr}{fd:FuncData}{N ps:List Str}{k:Nat}{sp:Sp}(F:Fun K x qual st f fd) (S:FnScope N ps (defScope st)) (len:∀ vs H Q E,sp vs H Q E→vs.length=ps.length)
 (hbody:∀ (cdv:Value) (A:Around) (outer:List Env) (s:Shared) (H:Hp) (vs:List V) (Q:VK) (E:XK),Room k (A.deeper (envOfC qual (defScope st) s.heap.objs.size f cdv))→sp vs H Q E →
  ∃ t,PSs (cxOf CX0 P w K mg base N qual (defScope st) f cdv A outer s H E).nox (defBody st) t∧t { nx:=fun _ H'=>Q .non H',rt:=Q } (start N vs) H):FnOk P w K mg base CX0 (k+1) f fd ps sp:=by
 obtain ⟨oc,od,kV,doc,pm,an,cdv,ct,osl,rfl,lk,hcd⟩:=F.ex
 refine fn_of lk hcd S len fun A outer s H vs Q E hr hsp=>?_
 obtain ⟨t,h,q⟩:=hbody cdv A outer s H vs Q E hr hsp
 exact ⟨t,h.nox,q⟩
theorem Fun.binds {x qual:Str}{st:Stmt}{f:Addr}{fd:FuncData}{ps:List Str}(F:Fun K x qual st f fd)
 (h:∀ (kV doc pm:Value) (an:Option Addr) (cdv ct:Value) (us:List Value),us.length=ps.length→bindArgs (PySem.W.fnOf x qual (defArgs st) (defBody st) (defScope st) .none kV doc pm an cdv ct) ⟨us,[]⟩=pure (ps.zip us)):Binds K fd ps []:=by
 obtain ⟨oc,od,kV,doc,pm,an,cdv,ct,osl,rfl,lk,hcd⟩:=F.ex
 exact .all (h kV doc pm an cdv ct)
theorem fun_mk {x qual:Str}{st:Stmt}{f:Addr}{oc:Value}{od an:Option Addr}{osl:Array (Option Value)}{kV doc pm cdv ct:Value}(l:K.lookup f=some ⟨oc,od,.func (PySem.W.fnOf x qual (defArgs st) (defBody st) (defScope st) .none kV doc pm an cdv ct),osl⟩)
 (c:PySem.W.codeIn K cdv qual=true) (k:PySem.W.keepIn K (.ref f)=true):Fun K x qual st f (PySem.W.fnOf x qual (defArgs st) (defBody st) (defScope st) .none kV doc pm an cdv ct):=⟨⟨oc,od,kV,doc,pm,an,cdv,ct,osl,rfl,l,c⟩,k⟩
end
theorem hu_of {A:Around}{k:Nat}(hr:Room k A):A.units+1<cLine:=Nat.lt_of_le_of_lt (Nat.add_le_add_left (by decide:1≤64) _) hr.units
theorem small1000 {n:Nat}(h:n≤1000):n<sizeLine:=Nat.lt_of_le_of_lt h (by decide)
section
variable {X:Cx}
theorem pv (i:Nat) {x:Str}{pos:Pos}(hN:X.N[i]? = some x:=by rfl) (hv:Vis X.env.scope x:=by first | exact Or.inl rfl | exact Or.inr (Or.inl rfl) | exact Or.inr (Or.inr rfl)) (hd:(x==("__debug__":Str))=false:=by decide)
 (hcd:(x==("__classdict__":Str))=false:=by decide):PE X (.Name x pos) (tVar i):=pe_var hN hv hd hcd
end
theorem iteF {A B:Prop}(h:B):if false=true then A else B:=by
 rw [if_neg Bool.false_ne_true]
 exact h
theorem iteT {A B:Prop}(h:A):if true=true then A else B:=by
 rw [if_pos rfl]
 exact h
noncomputable def Same (H H':Hp):Prop:=∀ b o,H b=some o→H' b=some o
theorem Same.free {H H':Hp}(e:Same H H') {l:Addr}(h:H' l=Option.none):H l=Option.none:=by
 cases q:H l with
 | none=>rfl
 | some o=>
  rw [e l o q] at h
  cases h
theorem Same.seq {K:PySem.W.Frag}{H H':Hp}{a:Addr}{xs:List V}(e:Same H H') (h:SqL K H a xs):SqL K H' a xs:=by
 rcases h with (h | ⟨o,h⟩) | h
 · exact .inl (.inl (e _ _ h))
 · exact .inl (.inr ⟨o,e _ _ h⟩)
 · exact .inr h
section
variable {κ:Type} [DecidableEq κ]
end
end L2
set_option maxHeartbeats 4000000
namespace L2
open PySem PySem.Spec PyProof.Rows
noncomputable abbrev NoE:Value→Shared→Prop:=fun _ _=>False
theorem compLoop_go {prog:Program}{w:World}{A:Around}{R:Result→Shared→Prop}{s:Shared}{elt target iter:Expr}{ifs:List Expr}{scope:Scope}{pos:Pos}{it acc:Value}{env:Env}(I:Nat→Shared→Prop)
 (turn:∀ n s,I n s→wpAny (model prog w) A (pyNext it) (fun r s₁=>match r with
  | none=>R (.ok .next) s₁
  | some v=>wpAny (model prog w) A (letOwnedTupleGo target it v) (fun _ s₁'=>wpAny (model prog w) A (assign target env v) (fun _ s₂=>
   wpAny (model prog w) A (forIn ifs true fun c r=>if r=true then do let ok ← isTrue c env (eval c env);pure (ForInStep.yield ok) else pure (ForInStep.yield r)) (fun ok s₃=>
    if ok=true then wpAny (model prog w) A (eval elt env) (fun x s₄=>
     wpAny (model prog w) A (call (.builtin "list.append") [acc,x]) (fun _ s₅=>∃ m,m<n∧I m s₅) NoE s₄) NoE s₃
    else ∃ m,m<n∧I m s₃) NoE s₂) NoE s₁') NoE s₁) NoE s)
 (n:Nat) (h:I n s) :
 codeAny (model prog w) A (.compLoop (.ListComp elt [⟨target,iter,ifs,0⟩] scope pos) 0 it acc env) R s:=by
 refine codeAny_loop rfl I (fun n s hI=>?_) n h
 show wpAny _ A ((compTurn (.ListComp elt [⟨target,iter,ifs,0⟩] scope pos) 0 it acc env).onRaise (fun x=>do noteFrame x env;theTreesLotGoes x)) _ _ s
 refine wpAny_noted ?_
 rw [compTurn_list]
 refine wpAny_bind (wpAny_standAt (wpAny_bind (wpAny_mono (turn n s hI) (fun r s₁ h₁=>?_) fun _ _ f=>f.elim)))
 cases r with
 | none=>exact wpAny_pure h₁
 | some v=>
  refine wpAny_bind (wpAny_mono h₁ (fun _ s₁' h₁'=>wpAny_bind (wpAny_mono h₁' (fun _ s₂ h₂=>wpAny_bind (wpAny_mono h₂ (fun ok s₃ h₃=>?_) fun _ _ f=>f.elim)) fun _ _ f=>f.elim)) fun _ _ f=>f.elim)
  cases ok with
  | false=>exact wpAny_pure ⟨rfl,h₃⟩
  | true=>
   exact wpAny_bind (wpAny_bind (wpAny_mono h₃ (fun x s₄ h₄=>wpAny_bind (wpAny_mono h₄ (fun _ s₅ h₅=>wpAny_pure (wpAny_pure ⟨rfl,h₅⟩)) fun _ _ f=>f.elim)) fun _ _ f=>f.elim))
noncomputable def closeL (env:Env):List (Str×NameKind)→List (Str×Addr)→List (Str×Addr)
 | [],cs=>cs
 | (n,k)::r,cs=>closeL env r (if (k==NameKind.free)=true then (n,(env.cells.lookup n).getD 0)::cs else cs)
theorem closureFor_eq {scope:Scope}{env:Env}(h:∀ x∈scope.names,x.2 = .free→∃ c,env.cells.lookup x.1=some c):closureFor scope env=pure (closeL env scope.names []):=by
 have key:∀ (l:List (Str×NameKind)) (cs:List (Str×Addr)),(∀ x∈l,x.2 = .free→∃ c,env.cells.lookup x.1=some c) →
  (forIn (m:=Sem) l cs fun (x:Str×NameKind) (r:List (Str×Addr))=>if (x.2==NameKind.free)=true then (do let c ← cellOf env x.1;pure (ForInStep.yield ((x.1,c)::r))) else (do pure PUnit.unit;pure (ForInStep.yield r)))=pure (closeL env l cs):=by
  intro l
  induction l with
  | nil=>intro cs _;rfl
  | cons x r ih=>
   intro cs hx
   obtain ⟨n,k⟩:=x
   rw [List.forIn_cons]
   by_cases hk:k = .free
   · subst hk
     obtain ⟨c,hc⟩:=hx _ List.mem_cons_self rfl
     have e:cellOf env n=pure c:=by unfold cellOf;rw [show env.cells.lookup n=some c from hc]
     simp only [beq_self_eq_true,if_true,e,pure_bind]
     rw [ih _ fun y hy=>hx y (List.mem_cons_of_mem _ hy)]
     simp only [closeL,beq_self_eq_true,if_true]
     rw [show env.cells.lookup n=some c from hc]
     rfl
   · have hb:(k==NameKind.free)=false:=by simpa using hk
     simp only [hb,Bool.false_eq_true,if_false,pure_bind]
     rw [ih _ fun y hy=>hx y (List.mem_cons_of_mem _ hy)]
     simp only [closeL,hb,Bool.false_eq_true,if_false]
 unfold closureFor
 have:=key scope.names [] h
 show ((forIn (m:=Sem) scope.names ([]:List (Str×Addr)) _) >>= _)=_
 refine Eq.trans (congrArg (fun z=>z >>= _) (Eq.trans ?_ this)) ?_
 · congr 1
 · rfl
theorem closeL_mem {env:Env}:∀ {l:List (Str×NameKind)}{cs:List (Str×Addr)},(∀ x∈l,x.2 = .free→∃ c,env.cells.lookup x.1=some c)→(∀ p∈cs,env.cells.lookup p.1=some p.2)→∀ p∈closeL env l cs,env.cells.lookup p.1=some p.2
 | [],_,_,hc=>hc
 | (n,k)::r,cs,hx,hc=>by
  unfold closeL
  refine closeL_mem (fun y hy=>hx y (List.mem_cons_of_mem _ hy)) fun p hp=>?_
  by_cases hk:k = .free
  · subst hk
    simp only [beq_self_eq_true,if_true] at hp
    rcases List.mem_cons.mp hp with rfl | hp
    · obtain ⟨c,e⟩:=hx _ List.mem_cons_self rfl
      have e:env.cells.lookup n=some c:=e
      show env.cells.lookup n=some ((env.cells.lookup n).getD 0)
      rw [e]
      rfl
    · exact hc p hp
  · have hb:(k==NameKind.free)=false:=by simpa using hk
    simp only [hb,Bool.false_eq_true,if_false] at hp
    exact hc p hp
theorem closeL_sub {env:Env}:∀ {l:List (Str×NameKind)}{cs:List (Str×Addr)}{p:Str×Addr},p∈cs→p∈closeL env l cs
 | [],_,_,h=>h
 | (n,k)::r,cs,p,h=>by
  unfold closeL
  refine closeL_sub ?_
  split
  · exact List.mem_cons_of_mem _ h
  · exact h
theorem closeL_has {env:Env}:∀ {l:List (Str×NameKind)}{cs:List (Str×Addr)}{x:Str},(x,NameKind.free)∈l→∃ c,(x,c)∈closeL env l cs
 | [],_,_,h=>by cases h
 | (n,k)::r,cs,x,h=>by
  unfold closeL
  rcases List.mem_cons.mp h with e | h
  · cases e
    simp only [beq_self_eq_true,if_true]
    exact ⟨_,closeL_sub List.mem_cons_self⟩
  · exact closeL_has h
theorem lookup_mem_some {α:Type}{x:Str}{c:α}:∀ {l:List (Str×α)},(x,c)∈l→∃ d,l.lookup x=some d
 | [],h=>by cases h
 | (n,k)::r,h=>by
  rw [List.lookup_cons]
  cases hx:x==n with
  | true=>exact ⟨k,rfl⟩
  | false=>
   rcases List.mem_cons.mp h with e | h
   · cases e;simp at hx
   · exact lookup_mem_some h
theorem relabel_cases {env:Env}{x:Str}:∀ {names:List (Str×NameKind)}{k:NameKind},
 (names.map fun (n,k)=>if (k==NameKind.free&&env.scope.kind == .function&&env.kindOf n==some .cell) then (n,NameKind.cell) else (n,k)).lookup x=some k→names.lookup x=some k∨(k = .cell∧names.lookup x=some .free)
 | [],_,h=>by simp at h
 | (n,j)::r,k,h=>by
  have ih:=@relabel_cases env x r k
  rw [List.map_cons] at h
  rw [List.lookup_cons]
  dsimp only at h
  by_cases hc:(j==NameKind.free&&env.scope.kind == .function&&env.kindOf n==some .cell)=true
  · rw [if_pos hc,List.lookup_cons] at h
    cases hx:x==n with
    | true=>
     rw [hx] at h
     simp only [Bool.and_eq_true] at hc
     have:j = .free:=by simpa using hc.1.1
     subst this
     cases h
     exact .inr ⟨rfl,rfl⟩
    | false=>rw [hx] at h;exact ih h
  · rw [if_neg hc,List.lookup_cons] at h
    cases hx:x==n with
    | true=>rw [hx] at h;exact .inl h
    | false=>rw [hx] at h;exact ih h
theorem relabel_free {env:Env}{x:Str}:∀ {names:List (Str×NameKind)},names.lookup x=some .free →
 (names.map fun (n,k)=>if (k==NameKind.free&&env.scope.kind == .function&&env.kindOf n==some .cell) then (n,NameKind.cell) else (n,k)).lookup x=some .cell ∨
 (names.map fun (n,k)=>if (k==NameKind.free&&env.scope.kind == .function&&env.kindOf n==some .cell) then (n,NameKind.cell) else (n,k)).lookup x=some .free
 | [],h=>by simp at h
 | (n,j)::r,h=>by
  have ih:=@relabel_free env x r
  rw [List.lookup_cons] at h
  rw [List.map_cons]
  dsimp only
  by_cases hc:(j==NameKind.free&&env.scope.kind == .function&&env.kindOf n==some .cell)=true
  · rw [if_pos hc,List.lookup_cons]
    cases hx:x==n with
    | true=>exact .inl rfl
    | false=>rw [hx] at h;exact ih h
  · rw [if_neg hc,List.lookup_cons]
    cases hx:x==n with
    | true=>rw [hx] at h;cases h;exact .inr rfl
    | false=>rw [hx] at h;exact ih h
noncomputable def cxComp (X:Cx) (N':List Str) (scope:Scope) (C:Addr) (s:Shared) (H:Hp) (fp:List Addr):Cx where
 prog:=X.prog
 w:=X.w
 K:=X.K
 mg:=X.mg
 base:=X.base
 A:=X.A
 N:=N'
 s₀:=s
 H₀:=H
 env:=compEnvC scope (closeL X.env scope.names []) C X.env
 outer:=X.stack
 stack:=X.stack
 ex:=fp
 fn:=fun _=>false
 calm:=X.calm
 pn:=[]
 xe:=NoE
structure CompScope (sc:Scope) (N:List Str) (scope:Scope) (N':List Str) (k:Nat) (idx:List Nat):Prop where
 kind:scope.kind = .function
 nocell:∀ x∈scope.names,x.2≠.cell
 loc:∀ x∈scope.names,x.2 = .local → scope.names.lookup x.1=some .local
 fr:∀ x∈scope.names,x.2 = .free→sc.names.lookup x.1=some .cell∨sc.names.lookup x.1=some .free
 nd:N'.Nodup
 free:∀ x∈N'.drop k,scope.names.lookup x=some .free
 ix:(N'.drop k).map some=idx.map fun i=>N[i]?
 len:N'.length=k+idx.length
noncomputable def startC (k:Nat) (idx:List Nat) (σ:St):St:=List.replicate k none++idx.map fun i=>(σ[i]?).join
section
variable {X:Cx}{pins:List (Addr×Obj)}{σ:St}{H:Hp}{s:Shared}{scope:Scope}{N':List Str}{k:Nat}{idx:List Nat}{sc:Scope}{N:List Str}
theorem comp_start (I:Inv X pins σ H s) (S:CompScope sc N scope N' k idx) (hsc:X.env.scope=sc) (hNN:X.N=N) {fp:List Addr}(hf:∀ b∈fp,FpOk X pins H b) (hlt:∀ b∈fp,b<s.heap.objs.size) {h':Heap}{t':Nat}
 (hn:h'.Ns s.heap.objs.size (fun _=>none)) (hk:∀ b o,s.heap.get? b=some o→h'.get? b=some o) :
 Inv (cxComp X N' scope s.heap.objs.size s H fp) [] (startC k idx σ) H { s with heap:=h',toks:=t' }:=by
 have hcell:∀ x∈scope.names,x.2 = .free→∃ c,X.env.cells.lookup x.1=some c:=fun x hx hfree=>I.ok.has x.1 (by
  show X.env.scope.names.lookup x.1=_∨X.env.scope.names.lookup x.1=_
  rw [hsc];exact S.fr x hx hfree)
 have hcl:∀ x c,(closeL X.env scope.names []).lookup x=some c→X.env.cells.lookup x=some c:=fun x c e=>closeL_mem hcell (fun p hp=>by cases hp) (x,c) (PySem.mem_of_lookup e)
 have hok:(cxComp X N' scope s.heap.objs.size s H fp).Ok:={
  mod:=I.ok.mod
  kind:=S.kind
  glob:=I.ok.glob
  blt:=I.ok.blt
  above:=Nat.le_refl _
  inj:=fun x y c e1 e2=>I.ok.inj x y c (hcl x c e1) (hcl y c e2)
  has:=fun x hx=>by
   have hfree:scope.names.lookup x=some .free:=by
    rcases hx with hx | hx
    · rcases relabel_cases (env:=X.env) (names:=scope.names) hx with h | ⟨_,h⟩
      · exact absurd rfl (S.nocell _ (PySem.mem_of_lookup h))
      · exact h
    · rcases relabel_cases (env:=X.env) (names:=scope.names) hx with h | ⟨h,_⟩
      · exact h
      · cases h
   obtain ⟨c,hc⟩:=closeL_has (env:=X.env) (cs:=[]) (PySem.mem_of_lookup hfree)
   exact lookup_mem_some hc
  cab:=fun x c h=>by cases h
  hd:=I.ok.hd
  frames:=I.ok.frames
  stk:=.inl rfl
  exf:=fun b hb=>⟨Nat.ne_of_lt (hlt b hb),fun x c e=>(hf b hb).2.2.2.2.1 x c (hcl x c e)⟩
  bs:=I.bs
  bsz:=Nat.le_trans I.ok.bsz I.sz
  noex:=fun b o e hb=>by
   rcases (hf b hb).2.2.2.1 with z | z
   · exact I.ok.noex b o e z
   · exact absurd (Nat.lt_of_lt_of_le (Heap.lt_size e) (Nat.le_trans I.ok.bsz z)) (Nat.lt_irrefl _)
  exfs:=fun b hb hz=>by
   rcases List.mem_cons.mp (I.stkSub b hz) with e | e
   · exact (hf b hb).2.1 e
   · exact (hf b hb).2.2.1 e
  funs:=I.stack
  frf:=I.stkFree }
 refine ⟨hok,rfl,I.bare,Un.kept hk,⟨_,hn,fun i x v e1 e2 e3=>?_⟩,fun x c e=>?_,I.hok.fresh (Nat.le_refl _),fun x c e=>I.freeC x c (hcl x c e),(fun p hp=>by cases hp),I.hok.kept hk,?_⟩
 · -- a name with a value is one of the others
   have hi:k≤i:=by
    rcases Nat.lt_or_ge i k with h | h
    · have e2:(startC k idx σ)[i]? = some (some v):=e2
      unfold startC at e2
      rw [List.getElem?_append_left (by simpa using h),List.getElem?_replicate] at e2
      split at e2<;>cases e2
    · exact h
   have e1':(N'.drop k)[i-k]? = some x:=by
    rw [List.getElem?_drop,show k+(i-k)=i by omega];exact e1
   have hfree:=S.free x (List.mem_of_getElem? e1')
   have e2':(idx.map fun i=>(σ[i]?).join)[i-k]? = some (some v):=by
    have e2:(startC k idx σ)[i]? = some (some v):=e2
    unfold startC at e2
    rw [List.getElem?_append_right (by simpa using hi),List.length_replicate] at e2
    exact e2
   rw [List.getElem?_map] at e2'
   cases hj:idx[i-k]? with
   | none=>rw [hj] at e2';cases e2'
   | some j=>
    rw [hj] at e2'
    have e3':(σ[j]?).join=some v:=by simpa using e2'
    have eσ:σ[j]? = some (some v):=by
     cases q:σ[j]? with
     | none=>rw [q] at e3';cases e3'
     | some o=>rw [q] at e3';cases o with
      | none=>cases e3'
      | some z=>cases e3';rfl
    have eN:X.N[j]? = some x:=by
     rw [hNN]
     have:=congrArg (fun l=>l[i-k]?) S.ix
     simp only [List.getElem?_map,e1',hj,Option.map_some] at this
     exact (Option.some.inj this).symm
    have hvk:=S.fr _ (PySem.mem_of_lookup hfree) rfl
    obtain ⟨m,hm,hl⟩:=I.loc
    obtain ⟨u,ru,lk⟩:=hl j x v eN eσ (by rw [hsc];exact .inr hvk)
    refine ⟨u,ru,.inr ⟨relabel_free (env:=X.env) hfree,?_⟩⟩
    rcases lk with ⟨kl,_⟩ | ⟨_,c,ec,z⟩
    · have kl:X.env.scope.names.lookup x=some .local := kl
      rw [hsc] at kl
      rcases hvk with q | q<;>(rw [kl] at q;cases q)
    · obtain ⟨d,hd⟩:=closeL_has (env:=X.env) (cs:=[]) (PySem.mem_of_lookup hfree)
      obtain ⟨d',hd'⟩:=lookup_mem_some hd
      have e:=hcl x d' hd'
      rw [ec] at e
      cases e
      obtain ⟨o,ho,hod⟩:=z
      exact ⟨c,hd',o,hk c o ho,hod⟩
 · obtain ⟨v,o,ho,hod⟩:=I.cell x c (hcl x c e)
   exact ⟨v,o,hk c o ho,hod⟩
 · show (startC k idx σ).length=N'.length
   unfold startC
   rw [S.len,List.length_append,List.length_replicate,List.length_map]
end
noncomputable def PTs (X:Cx) (ifs:List Expr) (t:TT):Prop:=
 ∀ (pins:List (Addr×Obj)) (s:Shared) (σ:St) (H:Hp) (Q:Bool→Hp→Prop),Inv X pins σ H s→t σ H Q →
  wpAny (model X.prog X.w) X.A (forIn ifs true fun c r=>if r=true then do let ok ← isTrue c X.env (eval c X.env);pure (ForInStep.yield ok) else pure (ForInStep.yield r)) (TP X pins σ Q) X.xe s
noncomputable def tNoTest:TT:=fun _ H Q=>Q true H
theorem pts_nil {X:Cx}:PTs X [] tNoTest:=fun pins s σ H Q I h=>wpAny_tests_nil ⟨H,I,h⟩
theorem pts_one {X:Cx}{c:Expr}{t:TT}(h:PT X c t):PTs X [c] t:=fun pins s σ H Q I q=>wpAny_tests_one (h pins s σ H Q I q)
noncomputable def cTurns (J:It) (g:TG) (tt:TT) (te:TE) (l:Addr) (σ0:St) (H0:Hp) (Q:Hp→Prop):Prop:=
 ∃ W:Nat→Nat→St→Hp→Prop,(∃ m,W 0 m σ0 H0)∧∀ i m σ H,W i m σ H →
  (J.stop i H∧Q H)∨(J.go i H∧∀ x H',J.yld i H x H'→g x σ H' fun σ2 H2=>tt σ2 H2 fun c H3=>
   if c=true then te σ2 H3 fun y H4=>∃ xs,H4 l=some (.lst xs)∧xs.length<sizeLine∧∃ m',m'<m∧W (i+1) m' σ2 (upd H4 l (.lst (xs++[y])))
   else ∃ m',m'<m∧W (i+1) m' σ2 H3)
noncomputable def tComp (wi:TI) (k:Nat) (idx:List Nat) (g:TG) (tt:TT) (te:TE):TE:=fun σ H Q=>wi σ H fun J H1=>∀ l,H1 l=none→cTurns J g tt te l (startC k idx σ) (upd H1 l (.lst [])) fun H2=>Q (.ref l) H2
section
variable {X:Cx}{tg iter elt:Expr}{ifs:List Expr}{scope sc:Scope}{N N':List Str}{k:Nat}{idx:List Nat}{wi:TI}{g:TG}{tt:TT}{te:TE}{pos:Pos}
structure Free1 (X:Cx) (pins:List (Addr×Obj)) (H:Hp) (C:Addr):Prop where
 loc:C≠X.env.locals
 cel:∀ x c,X.env.cells.lookup x=some c→c≠C
 fr:H C=none
 new:X.s₀.heap.objs.size≤C
 pin:∀ p∈X.pn++pins,p.1≠C
theorem Inv.freed {X:Cx}{pins:List (Addr×Obj)}{σ:St}{H:Hp}{s:Shared}{C:Addr}{h':Heap}(I:Inv X pins σ H s) (f:Free1 X pins H C) (hs:Heap.SameBut C s.heap h'):Inv X pins σ H { s with heap:=h' }:=
 I.turned (t':=s.toks) (it:=C) (fun b o hb e=>(hs.2 b hb).trans e) f.fr f.loc (.inr f.new) f.cel f.pin
theorem comp_block {pins:List (Addr×Obj)}{s:Shared}{σ:St}{E:Value→Shared→Prop}{RR:Value→Addr→Result→Shared→Prop}{itv:Value}{Qe:Addr→Hp→Prop}
 (hc:X.calm=true) (S:CompScope sc N scope N' k idx) (hsc:X.env.scope=sc) (hNN:X.N=N)
 (hg:∀ C s H fp,PG (cxComp X N' scope C s H fp) tg g) (ht:∀ C s H fp,PTs (cxComp X N' scope C s H fp) ifs tt) (he:∀ C s H fp,PE (cxComp X N' scope C s H fp) elt te)
 (hit:PIE X pins σ tg (fun J H1=>∀ l,H1 l=none→cTurns J g tt te l (startC k idx σ) (upd H1 l (.lst [])) fun H2=>Qe l H2) itv s)
 (hRR:∀ l H2 C s2,Inv X pins σ H2 s2→(∃ m,s2.heap.Ns C m)→Free1 X pins H2 C→Qe l H2→RR (.ref l) C (.ok .next) s2) :
 wpAny (model X.prog X.w) X.A (newList []) (fun acc s₃=>wpAny (model X.prog X.w) X.A (newFunctionEnv scope X.env.globals (closeL X.env scope.names []) [] X.env.qual none .none (some X.env)) (fun cenv s₄=>
  codeAny (model X.prog X.w) X.A (.compStart (.ListComp elt [⟨tg,iter,ifs,0⟩] scope pos) 0 itv acc { cenv with scope:=relabel scope X.env }) (RR acc cenv.locals) s₄) E s₃) E s:=by
 obtain ⟨it,fp,tn,J,H1,rfl,I1,T,st1,f1,q⟩:=hit
 refine wpAny_newObj_type ?_
 have hf0:H1 s.heap.objs.size=none:=I1.hok.fresh (Nat.le_refl _)
 have hflt:∀ b∈fp,b<s.heap.objs.size:=fun b hb=>let ⟨_,e,_⟩:=T.obj _ _ st1 b hb;Heap.lt_size e
 generalize hl:s.heap.objs.size=l at *
 have I2:Inv X pins σ (upd H1 l (.lst [])) { s with heap:=s.heap.push { cls:=.type "list",dict:=none,data:=.seq ([]:List Value).toArray } }:=
  I1.laid (t':=s.toks) (fun b u e=>Heap.get?_push_of_some _ e) (Nat.le_of_eq hl) (show ObjOk _ _ _ _ l (.lst []) from ⟨Nat.zero_le _,[],0,.nil,by rw [← hl];exact Heap.get?_push_size _ rfl⟩)
 have st2:tn 0 (s.heap.push { cls:=.type "list",dict:=none,data:=.seq ([]:List Value).toArray }):=T.keep _ _ _ st1 fun b _ o e=>Heap.get?_push_of_some _ e
 have f2:∀ b∈fp,FpOk X pins (upd H1 l (.lst [])) b:=fun b hb=>⟨by rw [upd_ne (Nat.ne_of_lt (hflt b hb))];exact (f1 b hb).1,(f1 b hb).2⟩
 have hsz2:(s.heap.push { cls:=.type "list",dict:=none,data:=.seq ([]:List Value).toArray }).objs.size=l+1:=by rw [Heap.size_push,hl]
 have q2:=q l hf0
 generalize hs2:({ s with heap:=s.heap.push { cls:=.type "list",dict:=none,data:=.seq ([]:List Value).toArray } }:Shared)=s2 at I2 ⊢
 have st2:tn 0 s2.heap:=by rw [← hs2];exact st2
 have hsz2:s2.heap.objs.size=l+1:=by rw [← hs2];exact hsz2
 refine wpAny_newFunctionEnv S.nocell (by intro y hy;simp at hy) (fun h₁ hns₁ hsb₁=>?_) S.kind
 have hk1:∀ b o,s2.heap.get? b=some o→h₁.get? b=some o:=fun b o e=>hsb₁.extBut b o (Nat.ne_of_lt (Heap.lt_size e)) (Heap.get?_push_of_some _ e)
 have hlt2:∀ b∈fp,b<s2.heap.objs.size:=fun b hb=>by rw [hsz2];exact Nat.lt_succ_of_lt (hflt b hb)
 have I3:=comp_start (t':=s2.toks+([]:List (Str×Value)).length) I2 S hsc hNN f2 hlt2 (by simpa using hns₁) hk1
 generalize hC:s2.heap.objs.size=C at *
 have st3:tn 0 h₁:=T.keep _ _ _ st2 fun b _ o e=>hk1 b o e
 obtain ⟨W,⟨m0,w0⟩,turn⟩:=q2
 -- back to the frame around
 have back:∀ {σ':St} {H':Hp} {s':Shared},Inv (cxComp X N' scope C s2 (upd H1 l (.lst [])) fp) [] σ' H' s'→Inv X pins σ H' s':=fun {σ' H' s'} I'=>
  I2.call' I'.os I'.base I'.hok I'.bare fun b hb=>⟨(f2 b hb).2.2.2.1,(f2 b hb).2.1,(f2 b hb).2.2.2.2.1,(f2 b hb).2.2.2.2.2⟩
 have loop:∀ s₃:Shared,s₃ = { s2 with heap:=h₁,toks:=s2.toks+([]:List (Str×Value)).length } →
  codeAny (model X.prog X.w) X.A (.compLoop (.ListComp elt [⟨tg,iter,ifs,0⟩] scope pos) 0 (.ref it) (.ref l) (compEnvC scope (closeL X.env scope.names []) C X.env)) (RR (.ref l) C) s₃:=by
  rintro s₃ rfl
  refine compLoop_go (fun n s'=>∃ i σ' H',Inv (cxComp X N' scope C s2 (upd H1 l (.lst [])) fp) [] σ' H' s'∧tn i s'.heap∧(∀ b∈fp,H' b=none)∧W i n σ' H') ?_ m0 ⟨0,_,_,I3,st3,fun b hb=>(f2 b hb).1,w0⟩
  rintro n s4 ⟨i,σ4,H4,I4,st4,fr4,w4⟩
  have stat:∀ {H':Hp},(∀ b∈fp,H' b=none)→∀ b∈fp,FpOk (cxComp X N' scope C s2 (upd H1 l (.lst [])) fp) [] H' b:=fun {H'} hn b hb=>
   ⟨hn b hb,(I4.ok.exf b hb).1,I4.ok.exfs b hb,.inl hb,(I4.ok.exf b hb).2,fun p hp=>by cases hp⟩
  rcases turn i n σ4 H4 w4 with ⟨stop,qn⟩ | ⟨go,step⟩
  · refine thn (T.done (cxComp X N' scope C s2 (upd H1 l (.lst [])) fp) rfl rfl rfl hc i [] s4 σ4 H4 NoE I4 (stat fr4) st4 stop) fun r s5 ⟨hr,I5⟩=>?_
    subst hr
    have IX:=back I5
    have hCl:C≠X.env.locals:=fun e=>by
     have:=I2.lt
     rw [hC,← e] at this
     exact Nat.lt_irrefl _ this
    have hCc:∀ x c,X.env.cells.lookup x=some c→c≠C:=fun x c e z=>by
     obtain ⟨v,o,ho,_⟩:=I2.cell x c e
     have:=Heap.lt_size ho
     rw [hC,z] at this
     exact Nat.lt_irrefl _ this
    obtain ⟨m5,hm5,_⟩:=I5.loc
    refine hRR l H4 C s5 IX ⟨m5,hm5⟩ ⟨hCl,hCc,I5.free,by rw [← hC];exact I2.sz,fun p hp z=>?_⟩ qn
    obtain ⟨e,_⟩:=I2.pin p hp
    have:=Heap.lt_size e
    rw [hC,z] at this
    exact Nat.lt_irrefl _ this
  · refine thn (T.item (cxComp X N' scope C s2 (upd H1 l (.lst [])) fp) rfl rfl rfl hc i [] s4 σ4 H4 NoE I4 (stat fr4) st4 go) fun r s5 ⟨u,hr,h5⟩=>?_
    subst hr
    refine thn h5 fun _ s6 ⟨x,H6,I6,r6,y6,st6,fr6⟩=>?_
    have I6':=I6.pinned (stat fr6) (T.obj _ _ st6)
    have keepT:∀ {σ7:St} {H7:Hp} {s7:Shared},Inv (cxComp X N' scope C s2 (upd H1 l (.lst [])) fp) ([]++pinsAt fp s6.heap) σ7 H7 s7→tn (i+1) s7.heap∧∀ b∈fp,H7 b=none:=fun {σ7 H7 s7} I7=>
     ⟨T.keep _ _ _ st6 fun b hb o e=>(I7.pin (b,o) (List.mem_append_right _ (List.mem_append_right _ (mem_pinsAt hb e)))).1,fun b hb=>by
      obtain ⟨o,e,d⟩:=T.obj _ _ st6 b hb
      exact (I7.pin (b,o) (List.mem_append_right _ (List.mem_append_right _ (mem_pinsAt hb e)))).2.1⟩
    refine thn (hg C s2 (upd H1 l (.lst [])) fp _ s6 σ4 H6 x u _ I6' r6 (step x H6 y6)) fun _ s7 ⟨σ7,H7,I7,q7⟩=>?_
    refine thn (ht C s2 (upd H1 l (.lst [])) fp _ s7 σ7 H7 _ I7 q7) fun ok s8 ⟨H8,I8,q8⟩=>?_
    cases ok with
    | false=>
     rw [if_neg (by decide)] at q8 ⊢
     obtain ⟨m',hm,w8⟩:=q8
     have kt:=keepT I8
     exact ⟨m',hm,i+1,σ7,H8,I8.unpinned,kt.1,kt.2,w8⟩
    | true=>
     rw [if_pos rfl] at q8 ⊢
     refine thn (he C s2 (upd H1 l (.lst [])) fp _ s8 σ7 H8 _ I8 q8) fun v s9 ⟨y,H9,I9,r9,xs,e9,z9,m',hm,w9⟩=>?_
     refine thn (mt_append _ s9 σ7 H9 (.ref l) [y] (.ref l) [v] (fun z H10=>z = .non∧H10=upd H9 l (.lst (xs++[y]))) I9 rfl (.cons r9 .nil) ⟨l,xs,y,rfl,rfl,e9,z9,rfl,rfl⟩) fun _ s10 ⟨z,H10,I10,_,_,e10⟩=>?_
     subst e10
     have kt:=keepT I10
     exact ⟨m',hm,i+1,σ7,_,I10.unpinned,kt.1,kt.2,w9⟩
 have e2:(newEnv scope C X.env.globals (closeL X.env scope.names []) X.env.qual none .none (some X.env) builtinsNs).locals=C:=rfl
 show codeAny _ _ (.compStart _ 0 (.ref it) (.ref l) (compEnvC scope (closeL X.env scope.names []) C X.env)) (RR (.ref l) C) _
 exact codeAny_compStart_list (loop _ rfl) (T.self _ 0 _ _ _ st3 (loop _ rfl))
theorem pe_comp (hc:X.calm=true) (S:CompScope sc N scope N' k idx) (hsc:X.env.scope=sc) (hNN:X.N=N) (hi:PI X tg iter wi)
 (hg:∀ C s H fp,PG (cxComp X N' scope C s H fp) tg g) (ht:∀ C s H fp,PTs (cxComp X N' scope C s H fp) ifs tt) (he:∀ C s H fp,PE (cxComp X N' scope C s H fp) elt te)
 (hs:∀ x,foldedSetIterable iter X.env x=pure x:=by intro _;rfl):PE X (.ListComp elt [⟨tg,iter,ifs,0⟩] scope pos) (tComp wi k idx g tt te):=by
 intro pins s σ H Q I h
 rw [eval_ListComp]
 have hclos:closureFor scope X.env=pure (closeL X.env scope.names []):=closureFor_eq fun x hx hfree=>I.ok.has x.1 (by
  show X.env.scope.names.lookup x.1=_∨X.env.scope.names.lookup x.1=_
  rw [hsc];exact S.fr x hx hfree)
 refine wpAny_comprehension_free (use:=none) rfl hs hclos S.kind S.loc (thn (hi pins s σ H _ I h) fun v s1 h1=>thn h1 fun itv s2 h2=>?_)
 refine comp_block (RR:=fun acc C=>compPost (model X.prog X.w) X.A X.xe none (EP X pins σ Q) acc C) (Qe:=fun l H2=>Q (.ref l) H2) hc S hsc hNN hg ht he h2 ?_
 intro l H2 C s2 I2 hm f q
 obtain ⟨m,hm⟩:=hm
 exact ⟨m,hm,fun h' hs'=>⟨.ref l,H2,I2.freed f hs',rfl,q⟩⟩
noncomputable def tSetComp (i:Nat) (wi:TI) (k:Nat) (idx:List Nat) (g:TG) (tt:TT) (te:TE):TS:=fun D σ H=>wi σ H fun J H1=>∀ l,H1 l=none→cTurns J g tt te l (startC k idx σ) (upd H1 l (.lst [])) fun H2=>D.nx (σ.set i (some (.ref l))) H2
theorem ps_setcomp {i:Nat}{y:Str}{py spos:Pos}(hc:X.calm=true) (hN:X.N.Nodup) (hiN:X.N[i]? = some y) (hy:X.env.scope.names.lookup y=some .local) (S:CompScope sc N scope N' k idx) (hsc:X.env.scope=sc) (hNN:X.N=N) (hi:PI X tg iter wi)
 (hg:∀ C s H fp,PG (cxComp X N' scope C s H fp) tg g) (ht:∀ C s H fp,PTs (cxComp X N' scope C s H fp) ifs tt) (he:∀ C s H fp,PE (cxComp X N' scope C s H fp) elt te)
 (hsw:swapsWith (.ListComp elt [⟨tg,iter,ifs,0⟩] scope pos) (some (.Name y py)) spos.line X.env=pure true:=by rfl)
 (hs:∀ x,foldedSetIterable iter X.env x=pure x:=by intro _;rfl):PS X (.Assign [.Name y py] (.ListComp elt [⟨tg,iter,ifs,0⟩] scope pos) spos) (tSetComp i wi k idx g tt te):=by
 intro pins s σ H D I h
 rw [exec_Assign_Name_used _ _ _ _ hsw]
 refine wpAny_bind (wpAny_standAt (wpAny_bind ?_))
 show wpAny _ X.A (do let _ ← comprehension (.ListComp elt [⟨tg,iter,ifs,0⟩] scope pos) scope X.env _ (newList []) false (eval iter X.env) (some (assign (.Name y py) X.env))) _ _ s
 have hclos:closureFor scope X.env=pure (closeL X.env scope.names []):=closureFor_eq fun x hx hfree=>I.ok.has x.1 (by
  show X.env.scope.names.lookup x.1=_∨X.env.scope.names.lookup x.1=_
  rw [hsc];exact S.fr x hx hfree)
 refine wpAny_bind (wpAny_mono (wpAny_comprehension_free (use:=some (assign (.Name y py) X.env)) (Q:=fun _ s'=>SP X pins D .next s') rfl hs hclos S.kind S.loc (thn (hi pins s σ H _ I h) fun v s1 h1=>thn h1 fun itv s2 h2=>?_))
  (fun _ s' hq=>wpAny_pure (wpAny_pure hq)) fun _ _ e=>e)
 refine comp_block (RR:=fun acc C=>compPost (model X.prog X.w) X.A X.xe (some (assign (.Name y py) X.env)) (fun _ s'=>SP X pins D .next s') acc C) (Qe:=fun l H2=>D.nx (σ.set i (some (.ref l))) H2) hc S hsc hNN hg ht he h2 ?_
 intro l H2 C s2 I2 hm f q
 obtain ⟨m,hm⟩:=hm
 show wpAny _ X.A (assign (.Name y py) X.env (.ref l)) _ _ _
 refine wpAny_assign_Name (store_ok2 (v:=.ref l) I2 hN hiN (.inl hy) rfl (fun s' I' hch=>?_) (.inr hy))
 obtain ⟨a,hsb,ha⟩:=hch
 have haC:C≠a:=fun z=>by
  rcases ha with e | e
  · exact f.loc (z.trans e)
  · exact f.cel y a e z.symm
 exact ⟨m,hm.sameBut hsb haC,fun h' hs'=>⟨_,H2,I'.freed f hs',q⟩⟩
end
mutual
inductive Rep (ex:List Addr) (H:Hp):PyData→V→Prop
 | none:Rep ex H .none .non
 | bool (b:Bool):Rep ex H (.bool b) (.bl b)
 | int (i:Int):Rep ex H (.int i) (.int i)
 | str (x:Str):Rep ex H (.str x) (.str x)
 | tuple {a:Addr} {xs:List V} {ds:List PyData} (e:H a=some (.tup xs)) (n:a∉ex) (z:xs.length≤sizeLine) (r:Reps ex H ds xs):Rep ex H (.tuple ds) (.ref a)
 | list {a:Addr} {xs:List V} {ds:List PyData} (e:H a=some (.lst xs)) (n:a∉ex) (z:xs.length≤sizeLine) (r:Reps ex H ds xs):Rep ex H (.list ds) (.ref a)
inductive Reps (ex:List Addr) (H:Hp):List PyData→List V→Prop
 | nil:Reps ex H [] []
 | cons {d:PyData} {v:V} {ds:List PyData} {vs:List V}:Rep ex H d v→Reps ex H ds vs→Reps ex H (d::ds) (v::vs)
end
noncomputable def Kp (ex:List Addr) (H H':Hp):Prop:=∀ b o,H b=some o→b∉ex→H' b=some o
theorem Kp.refl {ex:List Addr}{H:Hp}:Kp ex H H:=fun _ _ e _=>e
theorem Kp.trans {ex:List Addr}{H H1 H2:Hp}(a:Kp ex H H1) (b:Kp ex H1 H2):Kp ex H H2:=fun c o e n=>b c o (a c o e n) n
theorem Kp.of {ex:List Addr}{H H':Hp}(a:Kp [] H H'):Kp ex H H':=fun c o e _=>a c o e (by simp)
theorem Kp.mono {ex ex':List Addr}{H H':Hp}(a:Kp ex H H') (h:∀ b∈ex,b∈ex'):Kp ex' H H':=fun c o e n=>a c o e fun z=>n (h c z)
theorem Kp.new {ex:List Addr}{H:Hp}{p:Addr}(h:H p=none) (o:HO):Kp ex H (upd H p o):=fun b u q _=>by rw [upd_ne (ne_of_none q h)];exact q
theorem Kp.at {ex:List Addr}{H:Hp}{p:Addr}(h:p∈ex) (o:HO):Kp ex H (upd H p o):=fun b u q n=>by rw [upd_ne (fun (z:b=p)=>n (by rw [z];exact h))];exact q
mutual
theorem Rep.keep {ex:List Addr}{H H':Hp}(k:Kp ex H H'):∀ {d:PyData}{v:V},Rep ex H d v→Rep ex H' d v
 | _,_,.none=>.none
 | _,_,.bool b=>.bool b
 | _,_,.int i=>.int i
 | _,_,.str x=>.str x
 | _,_,.tuple e n z r=>.tuple (k _ _ e n) n z (Reps.keep k r)
 | _,_,.list e n z r=>.list (k _ _ e n) n z (Reps.keep k r)
theorem Reps.keep {ex:List Addr}{H H':Hp}(k:Kp ex H H'):∀ {ds:List PyData}{vs:List V},Reps ex H ds vs→Reps ex H' ds vs
 | _,_,.nil=>.nil
 | _,_,.cons r t=>.cons (Rep.keep k r) (Reps.keep k t)
end
theorem Reps.length {ex:List Addr}{H:Hp}:∀ {ds:List PyData}{vs:List V},Reps ex H ds vs→ds.length=vs.length
 | _,_,.nil=>rfl
 | _,_,.cons _ t=>by simp [Reps.length t]
theorem Reps.get {ex:List Addr}{H:Hp}:∀ {ds:List PyData}{vs:List V}{i:Nat}{d:PyData},Reps ex H ds vs→ds[i]? = some d→∃ v,vs[i]? = some v∧Rep ex H d v
 | _,_,_,_,.nil,e=>by simp at e
 | _,_,0,_,.cons r _,e=>by simp at e;subst e;exact ⟨_,rfl,r⟩
 | _,_,i+1,d,.cons _ t,e=>by
  obtain ⟨u,h1,h2⟩:=Reps.get (i:=i) (d:=d) t (by simpa using e)
  exact ⟨u,by simpa using h1,h2⟩
theorem Reps.getV {ex:List Addr}{H:Hp}:∀ {ds:List PyData}{vs:List V}{i:Nat}{v:V},Reps ex H ds vs→vs[i]? = some v→∃ d,ds[i]? = some d∧Rep ex H d v
 | _,_,_,_,.nil,e=>by simp at e
 | _,_,0,_,.cons r _,e=>by simp at e;subst e;exact ⟨_,rfl,r⟩
 | _,_,i+1,v,.cons _ t,e=>by
  obtain ⟨u,h1,h2⟩:=Reps.getV (i:=i) (v:=v) t (by simpa using e)
  exact ⟨u,by simpa using h1,h2⟩
theorem Reps.append {ex:List Addr}{H:Hp}:∀ {ds es:List PyData}{vs ws:List V},Reps ex H ds vs→Reps ex H es ws→Reps ex H (ds++es) (vs++ws)
 | _,_,_,_,.nil,s=>s
 | _,_,_,_,.cons r t,s=>.cons r (Reps.append t s)
theorem Reps.take {ex:List Addr}{H:Hp}:∀ {ds:List PyData}{vs:List V}(n:Nat),Reps ex H ds vs→Reps ex H (ds.take n) (vs.take n)
 | _,_,0,_=>.nil
 | _,_,_+1,.nil=>.nil
 | _,_,n+1,.cons r t=>.cons r (Reps.take n t)
theorem Reps.drop {ex:List Addr}{H:Hp}:∀ {ds:List PyData}{vs:List V}(n:Nat),Reps ex H ds vs→Reps ex H (ds.drop n) (vs.drop n)
 | _,_,0,r=>r
 | _,_,_+1,.nil=>.nil
 | _,_,n+1,.cons _ t=>Reps.drop n t
theorem Reps.ints {ex:List Addr}{H:Hp}:∀ ns:List Int,Reps ex H (ns.map PyData.int) (ns.map V.int)
 | []=>.nil
 | n::r=>.cons (.int n) (Reps.ints r)
theorem Reps.ints_inv {ex:List Addr}{H:Hp}:∀ {ns:List Int}{vs:List V},Reps ex H (ns.map PyData.int) vs→vs=ns.map V.int
 | [],_,.nil=>rfl
 | n::r,_,.cons (.int _) t=>by rw [Reps.ints_inv t];rfl
theorem Reps.rep {ex:List Addr}{H:Hp}{ds:List PyData}{vs:List V}(h:Reps ex H ds vs):∀ k:Nat,Reps ex H (List.replicate k ds).flatten (List.replicate k vs).flatten
 | 0=>.nil
 | k+1=>by
  rw [List.replicate_succ,List.replicate_succ,List.flatten_cons,List.flatten_cons]
  exact Reps.append h (Reps.rep h k)
mutual
theorem Rep.reads {ex:List Addr}{P:Program}{w:World}{H:Hp}{h:Heap}(ok:HOk P w H h):∀ {d:PyData}{v:V}{u:Value},Rep ex H d v→RelV v u→∃ as,Reads h u d as
 | _,_,_,.none,r=>by cases (show _=Value.none from r);exact ⟨_,.none⟩
 | _,_,_,.bool b,r=>by cases (show _=Value.bool b from r);exact ⟨_,.bool b⟩
 | _,_,_,.int i,r=>by obtain ⟨t,rfl⟩:=(show ∃ t,_=Value.int i t from r);exact ⟨_,.int i t⟩
 | _,_,_,.str x,r=>by obtain ⟨t,rfl⟩:=(show ∃ t,_=Value.str x t from r);exact ⟨_,.str x t⟩
 | _,_,_,.tuple (a:=a) (xs:=xs) e n _ rs,r=>by
  cases (show _=Value.ref a from r)
  obtain ⟨z,its,rv,o,e1,e2,n',e3⟩:=(show ObjOk P w H h a (.tup xs) from ok a _ e)
  obtain ⟨as,ra⟩:=Reps.reads ok rs rv
  exact ⟨as,.tuple e1 e2 e3 (by simpa using ra)⟩
 | _,_,_,.list (a:=a) (xs:=xs) e n _ rs,r=>by
  cases (show _=Value.ref a from r)
  obtain ⟨z,its,n',rv,e1⟩:=(show ObjOk P w H h a (.lst xs) from ok a _ e)
  obtain ⟨as,ra⟩:=Reps.reads ok rs rv
  exact ⟨_,.list e1 rfl rfl (by simpa using ra)⟩
theorem Reps.reads {ex:List Addr}{P:Program}{w:World}{H:Hp}{h:Heap}(ok:HOk P w H h):∀ {ds:List PyData}{vs:List V}{us:List Value},Reps ex H ds vs→Vals vs us→∃ as,ReadsAll h us ds as
 | _,_,_,.nil,r=>by cases r;exact ⟨_,.nil⟩
 | _,_,_,.cons q t,r=>by
  cases r with
  | cons r1 r2=>
   obtain ⟨as,h1⟩:=Rep.reads ok q r1
   obtain ⟨bs,h2⟩:=Reps.reads ok t r2
   exact ⟨_,.cons h1 h2⟩
end
section
variable {X:Cx}
noncomputable def rEqD:R2:=fun x y H Q=>∃ ex da db,Rep ex H da x∧Rep ex H db y∧da.canLay0=true∧db.canLay0=true∧min da.depth db.depth≤50∧Q (.bl (PyData.eqv da db)) H
noncomputable def rNeD:R2:=fun x y H Q=>∃ ex da db,Rep ex H da x∧Rep ex H db y∧da.canLay0=true∧db.canLay0=true∧min da.depth db.depth≤50∧Q (.bl (!PyData.eqv da db)) H
theorem op_eqD (hu:X.A.units+64<cLine):OpR X (compareOp .Eq) rEqD:=by
 intro pins s σ H x y v u Q I rx ry h
 obtain ⟨ex,da,db,r1,r2,c1,c2,hd,q⟩:=h
 obtain ⟨as,h1⟩:=r1.reads I.hok rx
 obtain ⟨bs,h2⟩:=r2.reads I.hok ry
 exact SeqAt.compareEq_reads h1 h2 c1 c2 (by omega) ⟨.bl (PyData.eqv da db),H,I,rfl,q⟩
theorem call_all:CallR X (.builtin "all") (fun xs H Q=>X.calm=true∧∃ (p:Addr) (bs:List Bool),xs=[.ref p]∧SqL X.K H p (bs.map V.bl)∧Q (.bl (bs.all id)) H):=by
 intro pins s σ H xs us Q I r h
 obtain ⟨hc,p,bs,rfl,hq,q⟩:=h
 obtain ⟨u,rfl,ru⟩:=vals1 r
 cases ru
 obtain ⟨its,rv,pl,hz⟩:=I.list hq
 have hl:=pl.isList
 have hlt:p<s.heap.objs.size:=by obtain ⟨_,e,_⟩:=hl;exact Heap.lt_size e
 refine call_all_walk (wpAny_pyIter_list hl ?_)
 refine ⟨_,_,_,_,_,_,fun i=>bs.getD i true,rfl,Walks.list (A:=X.A.in1) (I.ok.hd hc) _ p (Nat.ne_of_lt hlt) its.toArray,⟨⟨_,Heap.get?_push_size _ rfl,rfl,rfl⟩,hl.push _⟩,?_,fun h' tk hk=>?_⟩
 · intro i v s' Q' E' hP hQ
   have hP:its[i]? = some v:=by simpa using hP
   have hi:i<its.length:=(List.getElem?_eq_some_iff.mp hP).1
   have hlen:=rv.length
   have hb:(bs.map V.bl)[i]? = some (V.bl (bs.getD i true)):=by
    rw [List.length_map] at hlen
    rw [List.getElem?_map,List.getElem?_eq_getElem (by omega),List.getD_eq_getElem?_getD,List.getElem?_eq_getElem (by omega)]
    rfl
   obtain ⟨u,hu,ru⟩:=rv.get hb
   rw [hP] at hu
   cases hu
   cases (show v=Value.bool _ from ru)
   exact wpAny_truthy_bool hQ
 · have e:((List.range its.toArray.size).all fun i=>bs.getD i true)=bs.all id:=by
    have hlen:=rv.length
    rw [List.length_map] at hlen
    rw [List.size_toArray,← hlen,Bool.eq_iff_iff]
    simp only [List.all_eq_true,List.mem_range]
    constructor
    · intro h b hb
      obtain ⟨i,hi,rfl⟩:=List.mem_iff_getElem.mp hb
      have:=h i hi
      rw [List.getD_eq_getElem?_getD,List.getElem?_eq_getElem hi] at this
      exact this
    · intro h i hi
      rw [List.getD_eq_getElem?_getD,List.getElem?_eq_getElem hi]
      exact h _ (List.getElem_mem hi)
   rw [e]
   exact ⟨.bl (bs.all id),H,I.kept (t':=tk) (old_kept hk),rfl,q⟩
theorem call_isinst:CallR X (.builtin "isinstance") (fun xs H Q=>∃ x T t b,xs=[x,.ty T]∧TyOf X.K H x t∧PySem.W.kitOne X.K t (.type T)=some b∧Q (.bl b) H):=by
 intro pins s σ H xs us Q I r h
 obtain ⟨x,T,t,b,rfl,ty,e,q⟩:=h
 obtain ⟨u,w',rfl,ru,rw'⟩:=vals2 r
 cases (show w'=Value.type T from rw')
 exact isinst_ok I ru ty e fun tk=>⟨.bl b,H,I.tok tk,rfl,q⟩
noncomputable def tyName:PyData→String
 | .none=>"NoneType"
 | .bool _=>"bool"
 | .int _=>"int"
 | .str _=>"str"
 | .list _=>"list"
 | .tuple _=>"tuple"
 | .dict _=>"dict"
theorem Rep.tyOf {ex:List Addr}{H:Hp}{K:PySem.W.Frag}{d:PyData}{v:V}(r:Rep ex H d v):TyOf K H v (.type (tyName d)):=by
 cases r with
 | none=>exact .non
 | bool b=>exact .bl b
 | int i=>exact .int i
 | str x=>exact .str x
 | tuple e n z r=>exact .tup e
 | list e n z r=>exact .lst e
noncomputable def CDivB (i j:Int):Prop:=0<j∧j.natAbs.log2<9000
theorem op_fdivB:OpR X (binaryOp .FloorDiv) (rI CDivB fun i j=>.int (i/j)):=opI fun i j _ _ _ _ _ hc q=>by
 have h1:(0:Int)<j:=hc.1
 exact floordiv_int (by omega) (by rw [Int.fdiv_eq_ediv_of_nonneg i (by omega)];exact q) (.inl (PyProof.noPylong_of_log2 hc.2))
end
theorem cdivB_of {i j:Int}(h0:0<j) (h1:j<2^9000):CDivB i j:=by
 refine ⟨h0,?_⟩
 have hn:j.natAbs≠0:=by omega
 rw [Nat.log2_lt hn]
 have:(j.natAbs:Int)=j:=Int.natAbs_of_nonneg (by omega)
 have h2:((j.natAbs:Nat):Int)<((2^9000:Nat):Int):=by rw [this];exact_mod_cast h1
 exact_mod_cast h2
noncomputable def Cal (P:Program) (w:World) (K:PySem.W.Frag) (mg:Str→Option Value) (base:Heap) (name:Str) (k:Nat) (ps:List Str) (sp:Sp):Prop:=
 ∃ f fd,mg name=some (.ref f)∧PySem.W.keepIn K (.ref f)=true∧Binds K fd ps []∧FnOk P w K mg base CX0 k f fd ps sp
noncomputable def Def (K:PySem.W.Frag) (mg:Str→Option Value) (name:Str) (st:Stmt) (ps:List Str):Prop:=
 ∃ f fd,mg name=some (.ref f)∧Fun K name name st f fd∧Binds K fd ps []
theorem Def.cal {P:Program}{w:World}{K:PySem.W.Frag}{mg:Str→Option Value}{base:Heap}{name:Str}{st:Stmt}{ps:List Str}{k:Nat}{sp:Sp}(d:Def K mg name st ps)
 (h:∀ f fd,Fun K name name st f fd→FnOk P w K mg base CX0 k f fd ps sp):Cal P w K mg base name k ps sp:=by
 obtain ⟨f,fd,hm,F,b⟩:=d
 exact ⟨f,fd,hm,F.kp,b,h f fd F⟩
theorem Cal.imp {P:Program}{w:World}{K:PySem.W.Frag}{mg:Str→Option Value}{base:Heap}{name:Str}{k:Nat}{ps:List Str}{sp sp':Sp}(c:Cal P w K mg base name k ps sp) (h:∀ vs H Q E,sp' vs H Q E→sp vs H Q E):Cal P w K mg base name k ps sp':=by
 obtain ⟨f,fd,hm,hk,b,F⟩:=c
 exact ⟨f,fd,hm,hk,b,F.imp h⟩
section
variable {X:Cx}{x:Str}{e:Expr}{es:List Expr}{p pos:Pos}{t:TA}{k:Nat}{ps:List Str}{sp:Sp}
theorem pe_c (c:Cal X.prog X.w X.K X.mg X.base x k ps sp) (hr:Room k X.A) (hg:Gl X x) (ha:PA X (e::es) t) (hdb:(x==("__debug__":Str))=false:=by decide)
 (he:starEach (e::es) X.env=(false,eval e X.env)::starEach es X.env:=by rfl) (hpl:(backTo pos (starEach es X.env)).any (·.1)=false:=by rfl) :
 PE X (.Call (.Name x p) (e::es) [] pos) (tCall sp [] E0 t):=by
 obtain ⟨f,fd,hm,hk,b,F⟩:=c
 exact pe_call F hr hg hm hk b .nil pass0 ha hdb he hpl
end
section
variable {X:Cx}
theorem op_neD (hu:X.A.units+64<cLine):OpR X (compareOp .NotEq) rNeD:=by
 intro pins s σ H x y v u Q I rx ry h
 obtain ⟨ex,da,db,r1,r2,c1,c2,hd,q⟩:=h
 obtain ⟨as,h1⟩:=r1.reads I.hok rx
 obtain ⟨bs,h2⟩:=r2.reads I.hok ry
 exact SeqAt.compareNe_reads h1 h2 c1 c2 (by omega) ⟨.bl (!PyData.eqv da db),H,I,rfl,q⟩
end
section
variable {X:Cx}
end
noncomputable def instD (d:PyData) (T:String):Bool:=tyName d==T||(tyName d == "bool" && T == "int")
theorem kit_D (K:PySem.W.Frag) (d:PyData) (T:String) (hT:T = "int"∨T = "bool"∨T = "str"∨T = "tuple"∨T = "list"):PySem.W.kitOne K (.type (tyName d)) (.type T)=some (instD d T):=by
 rcases hT with rfl | rfl | rfl | rfl | rfl<;>cases d<;>first | rfl | kernel_rfl
theorem call_isD {X:Cx}:CallR X (.builtin "isinstance") (fun xs H Q=>∃ ex d x T,xs=[x,.ty T]∧Rep ex H d x∧(T = "int"∨T = "bool"∨T = "str"∨T = "tuple"∨T = "list")∧Q (.bl (instD d T)) H):=by
 intro pins s σ H xs us Q I r h
 obtain ⟨ex,d,x,T,rfl,rd,hT,q⟩:=h
 exact call_isinst pins s σ H _ us Q I r ⟨x,T,_,_,rfl,rd.tyOf,kit_D _ _ _ hT,q⟩
theorem xor_bound {x y:Int}(hx:0≤x) (hx2:x<2^64) (hy:0≤y) (hy2:y<2^64):0≤Builtin.bitXor x y∧Builtin.bitXor x y<2^64:=by
 have e1:Builtin.bitAnd x y=((x.toNat &&& y.toNat:Nat):Int):=by
  show Spec.bitAnd x y=_
  unfold Spec.bitAnd
  rw [decide_eq_true hx,decide_eq_true hy]
 have e2:Builtin.bitOr x y=((x.toNat ||| y.toNat:Nat):Int):=by
  show Spec.bitOr x y=_
  unfold Spec.bitOr Spec.bitAnd Spec.bitNot
  rw [decide_eq_false (show ¬ 0≤-x-1 by omega),decide_eq_false (show ¬ 0≤-y-1 by omega)]
  simp only
  rw [show (-(-x-1)-1)=x by omega,show (-(-y-1)-1)=y by omega]
  omega
 have e:Builtin.bitXor x y=((x.toNat ||| y.toNat:Nat):Int)-((x.toNat &&& y.toNat:Nat):Int):=by
  show Builtin.bitOr x y-Builtin.bitAnd x y=_
  rw [e1,e2]
 have h1:x.toNat ||| y.toNat<2^64:=Nat.or_lt_two_pow (by omega) (by omega)
 have h2:x.toNat &&& y.toNat≤x.toNat:=Nat.and_le_left
 have h3:x.toNat≤x.toNat ||| y.toNat:=Nat.left_le_or
 rw [e]
 omega
end L2
namespace My
open PySem PySem.Spec PyProof.Rows L2
theorem rep_tup {ex:List Addr}{H:Hp}{ds:List PyData}{v:V}(r:Rep ex H (.tuple ds) v):∃ a xs,v = .ref a∧H a=some (.tup xs)∧a∉ex∧xs.length≤sizeLine∧Reps ex H ds xs:=by
 cases r with | tuple e n z rs=>exact ⟨_,_,rfl,e,n,z,rs⟩
theorem reps_3 {ex:List Addr}{H:Hp}{a b c:PyData}{vs:List V}(r:Reps ex H [a,b,c] vs):∃ x y z,vs=[x,y,z]∧Rep ex H a x∧Rep ex H b y∧Rep ex H c z:=by
 cases r with | cons r1 r=>cases r with | cons r2 r=>cases r with | cons r3 r=>cases r;exact ⟨_,_,_,rfl,r1,r2,r3⟩
theorem rep_tup3 {ex:List Addr}{H:Hp}{a b c:PyData}{v:V}(r:Rep ex H (.tuple [a,b,c]) v):∃ at' x y z,v = .ref at'∧H at'=some (.tup [x,y,z])∧at'∉ex∧Rep ex H a x∧Rep ex H b y∧Rep ex H c z:=by
 obtain ⟨at',xs,rfl,e,n,_,rs⟩:=rep_tup r
 obtain ⟨x,y,z,rfl,r1,r2,r3⟩:=reps_3 rs
 exact ⟨at',x,y,z,rfl,e,n,r1,r2,r3⟩
theorem rep_int {ex:List Addr}{H:Hp}{i:Int}{v:V}(r:Rep ex H (.int i) v):v = .int i:=by cases r;rfl
theorem ite_b {c:Bool}{A B:Prop}(h1:c=true→A) (h2:c=false→B):if c=true then A else B:=by
 cases c with
 | true=>exact h1 rfl
 | false=>exact h2 rfl
noncomputable def mostKV:Option Int→List (Key×V)
 | none=>[]
 | some m=>[(Sum.inr "most",V.int m)]
noncomputable def jarKV (c:Addr) (rest seed:Int) (turn:Int×Option Int):List (Key×V):=(Sum.inr "cells",V.ref c)::(Sum.inr "rest",V.int rest)::(Sum.inr "seed",V.int seed)::(Sum.inr "turn",V.int turn.1)::mostKV turn.2
structure Jar (H:Hp) (p c:Addr):Prop where
 ex:∃ (ns:List Int) (rest seed:Int) (turn:Int×Option Int),H p=some (.dK (jarKV c rest seed turn))∧H c=some (.lst (ns.map V.int))∧ns.length≤63∧0≤seed∧seed<2^64
theorem Jar.fresh {H:Hp}{p c l:Addr}(J:Jar H p c) (h:H l=none):l∉[p,c]:=by
 obtain ⟨ns,r,s,t,h1,h2,_⟩:=J.ex
 intro z
 rcases List.mem_cons.mp z with rfl | z
 · rw [h] at h1;cases h1
 · cases List.mem_singleton.mp z;rw [h] at h2;cases h2
theorem str_cr:¬ ((Sum.inr ("cells":Str):Key)=(Sum.inr ("rest":Str):Key)):=by intro h;injection h with h;revert h;decide +kernel
theorem str_cs:¬ ((Sum.inr ("cells":Str):Key)=(Sum.inr ("seed":Str):Key)):=by intro h;injection h with h;revert h;decide +kernel
theorem str_ct:¬ ((Sum.inr ("cells":Str):Key)=(Sum.inr ("turn":Str):Key)):=by intro h;injection h with h;revert h;decide +kernel
theorem str_rs:¬ ((Sum.inr ("rest":Str):Key)=(Sum.inr ("seed":Str):Key)):=by intro h;injection h with h;revert h;decide +kernel
theorem str_rt:¬ ((Sum.inr ("rest":Str):Key)=(Sum.inr ("turn":Str):Key)):=by intro h;injection h with h;revert h;decide +kernel
theorem str_st:¬ ((Sum.inr ("seed":Str):Key)=(Sum.inr ("turn":Str):Key)):=by intro h;injection h with h;revert h;decide +kernel
theorem str_rm:¬ ((Sum.inr ("rest":Str):Key)=(Sum.inr ("most":Str):Key)):=by intro h;injection h with h;revert h;decide +kernel
theorem str_sm:¬ ((Sum.inr ("seed":Str):Key)=(Sum.inr ("most":Str):Key)):=by intro h;injection h with h;revert h;decide +kernel
theorem str_tm:¬ ((Sum.inr ("turn":Str):Key)=(Sum.inr ("most":Str):Key)):=by intro h;injection h with h;revert h;decide +kernel
section
variable (c:Addr) (r s:Int) (t:Int×Option Int) (x:Int)
theorem most_map {k:Key}{v:V}(h:¬ ((Sum.inr ("most":Str):Key)=k)):(mostKV t.2).map (fun kv=>if kv.1=k then (kv.1,v) else kv)=mostKV t.2:=by
 cases t.2 with
 | none=>rfl
 | some m=>simp only [mostKV,List.map_cons,List.map_nil,if_neg h]
theorem jar_cells:valV (jarKV c r s t) (Sum.inr "cells")=some (V.ref c):=valV_pos rfl
theorem jar_rest:valV (jarKV c r s t) (Sum.inr "rest")=some (V.int r):=by
 unfold jarKV;rw [valV_neg str_cr];exact valV_pos rfl
theorem jar_seed:valV (jarKV c r s t) (Sum.inr "seed")=some (V.int s):=by
 unfold jarKV;rw [valV_neg str_cs,valV_neg str_rs];exact valV_pos rfl
theorem jar_turn:valV (jarKV c r s t) (Sum.inr "turn")=some (V.int t.1):=by
 unfold jarKV;rw [valV_neg str_ct,valV_neg str_rt,valV_neg str_st];exact valV_pos rfl
theorem jar_put_rest:putK (jarKV c r s t) (Sum.inr "rest") (V.int x)=jarKV c x s t:=by
 unfold putK
 rw [if_pos (by rw [valV_any,jar_rest];rfl)]
 unfold jarKV
 simp only [List.map_cons,List.map_nil,if_neg str_cr,if_neg (Ne.symm str_rs),if_neg (Ne.symm str_rt),if_true,most_map t (Ne.symm str_rm)]
theorem jar_put_seed:putK (jarKV c r s t) (Sum.inr "seed") (V.int x)=jarKV c r x t:=by
 unfold putK
 rw [if_pos (by rw [valV_any,jar_seed];rfl)]
 unfold jarKV
 simp only [List.map_cons,List.map_nil,if_neg str_cs,if_neg str_rs,if_neg (Ne.symm str_st),if_true,most_map t (Ne.symm str_sm)]
theorem jar_put_turn:putK (jarKV c r s t) (Sum.inr "turn") (V.int x)=jarKV c r s (x,t.2):=by
 unfold putK
 rw [if_pos (by rw [valV_any,jar_turn];rfl)]
 unfold jarKV
 simp only [List.map_cons,List.map_nil,if_neg str_ct,if_neg str_rt,if_neg str_st,if_true,most_map t (Ne.symm str_tm)]
end
noncomputable abbrev kC:Key:=Sum.inr ("cells":Str)
noncomputable abbrev kR:Key:=Sum.inr ("rest":Str)
noncomputable abbrev kS:Key:=Sum.inr ("seed":Str)
noncomputable abbrev kT:Key:=Sum.inr ("turn":Str)
theorem jar_made (l:Addr) (r s t:Int):mergeK [] [(kC,V.ref l),(kR,V.int r),(kS,V.int s),(kT,V.int t)]=jarKV l r s (t,none):=by
 have e1:putK ([]:List (Key×V)) kC (V.ref l)=[]++[(kC,V.ref l)]:=putK_new _ valV_nil
 have e2:putK ([(kC,V.ref l)]:List (Key×V)) kR (V.int r)=[(kC,V.ref l)]++[(kR,V.int r)]:=putK_new _ (by rw [valV_neg str_cr];exact valV_nil)
 have e3:putK ([(kC,V.ref l),(kR,V.int r)]:List (Key×V)) kS (V.int s)=[(kC,V.ref l),(kR,V.int r)]++[(kS,V.int s)]:=putK_new _ (by rw [valV_neg str_cs,valV_neg str_rs];exact valV_nil)
 have e4:putK ([(kC,V.ref l),(kR,V.int r),(kS,V.int s)]:List (Key×V)) kT (V.int t)=[(kC,V.ref l),(kR,V.int r),(kS,V.int s)]++[(kT,V.int t)]:=putK_new _ (by rw [valV_neg str_ct,valV_neg str_rt,valV_neg str_st];exact valV_nil)
 unfold mergeK
 simp only [List.foldl]
 rw [e1,List.nil_append,e2,List.cons_append,List.nil_append,e3,List.cons_append,List.cons_append,List.nil_append,e4]
 rfl
structure JarX (H:Hp) (p c:Addr) (ns:List Int) (r sd:Int) (tn:Int×Option Int):Prop where
 d:H p=some (.dK (jarKV c r sd tn))
 l:H c=some (.lst (ns.map V.int))
theorem jar_short {c:Addr}{r sd:Int}(tn:Int×Option Int):(jarKV c r sd tn).length<sizeLine:=by
 have:(jarKV c r sd tn).length≤5:=by
  unfold jarKV
  cases tn.2<;>simp [mostKV]
 exact Nat.lt_of_le_of_lt this (by decide)
theorem JarX.ne {H:Hp}{p c:Addr}{ns:List Int}{r sd:Int}{tn:Int×Option Int}(J:JarX H p c ns r sd tn):p≠c:=ne_of J.d J.l (by intro z;cases z)
theorem JarX.new {H:Hp}{p c l:Addr}{ns:List Int}{r sd:Int}{tn:Int×Option Int}{o:HO}(J:JarX H p c ns r sd tn) (h:H l=none):JarX (upd H l o) p c ns r sd tn:=
 ⟨by rw [upd_ne (ne_of_none J.d h)];exact J.d,by rw [upd_ne (ne_of_none J.l h)];exact J.l⟩
theorem JarX.put {H:Hp}{p c:Addr}{ns:List Int}{r sd:Int}{tn:Int×Option Int}(J:JarX H p c ns r sd tn) (r' sd':Int) (tn':Int×Option Int):JarX (upd H p (.dK (jarKV c r' sd' tn'))) p c ns r' sd' tn':=
 ⟨upd_same,by rw [upd_ne (Ne.symm J.ne)];exact J.l⟩
theorem JarX.cut {H:Hp}{p c:Addr}{ns:List Int}{r sd:Int}{tn:Int×Option Int}(J:JarX H p c ns r sd tn) (ms:List Int):JarX (upd H c (.lst (ms.map V.int))) p c ms r sd tn:=
 ⟨by rw [upd_ne J.ne];exact J.d,upd_same⟩
theorem JarX.cells {H:Hp}{p c:Addr}{ns:List Int}{r sd:Int}{tn:Int×Option Int}(J:JarX H p c ns r sd tn):DGet H p (V.str "cells") (some (V.ref c)):=by rw [← jar_cells c r sd tn];exact DGet.k (k:=Sum.inr "cells") J.d
theorem JarX.rest {H:Hp}{p c:Addr}{ns:List Int}{r sd:Int}{tn:Int×Option Int}(J:JarX H p c ns r sd tn):DGet H p (V.str "rest") (some (V.int r)):=by rw [← jar_rest c r sd tn];exact DGet.k (k:=Sum.inr "rest") J.d
theorem JarX.seed {H:Hp}{p c:Addr}{ns:List Int}{r sd:Int}{tn:Int×Option Int}(J:JarX H p c ns r sd tn):DGet H p (V.str "seed") (some (V.int sd)):=by rw [← jar_seed c r sd tn];exact DGet.k (k:=Sum.inr "seed") J.d
theorem JarX.turn {H:Hp}{p c:Addr}{ns:List Int}{r sd:Int}{tn:Int×Option Int}(J:JarX H p c ns r sd tn):DGet H p (V.str "turn") (some (V.int tn.1)):=by rw [← jar_turn c r sd tn];exact DGet.k (k:=Sum.inr "turn") J.d
theorem JarX.pRest {H:Hp}{p c:Addr}{ns:List Int}{r sd:Int}{tn:Int×Option Int}(J:JarX H p c ns r sd tn) (x:Int):DPut H p (V.str "rest") (V.int x) (upd H p (.dK (jarKV c x sd tn))):=by rw [← jar_put_rest c r sd tn x];exact DPut.k (k:=Sum.inr "rest") J.d (jar_short tn)
theorem JarX.pSeed {H:Hp}{p c:Addr}{ns:List Int}{r sd:Int}{tn:Int×Option Int}(J:JarX H p c ns r sd tn) (x:Int):DPut H p (V.str "seed") (V.int x) (upd H p (.dK (jarKV c r x tn))):=by rw [← jar_put_seed c r sd tn x];exact DPut.k (k:=Sum.inr "seed") J.d (jar_short tn)
theorem JarX.pTurn {H:Hp}{p c:Addr}{ns:List Int}{r sd:Int}{tn:Int×Option Int}(J:JarX H p c ns r sd tn) (x:Int):DPut H p (V.str "turn") (V.int x) (upd H p (.dK (jarKV c r sd (x,tn.2)))):=by rw [← jar_put_turn c r sd tn x];exact DPut.k (k:=Sum.inr "turn") J.d (jar_short tn)
theorem JarX.jar {H:Hp}{p c:Addr}{ns:List Int}{r sd:Int}{tn:Int×Option Int}(J:JarX H p c ns r sd tn) (h1:ns.length≤63) (h2:0≤sd) (h3:sd<2^64):Jar H p c:=⟨ns,r,sd,tn,J.d,J.l,h1,h2,h3⟩
theorem Jar.x {H:Hp}{p c:Addr}(J:Jar H p c):∃ ns r sd tn,JarX H p c ns r sd tn∧ns.length≤63∧0≤sd∧sd<2^64:=by
 obtain ⟨ns,r,sd,tn,h1,h2,h3⟩:=J.ex
 exact ⟨ns,r,sd,tn,⟨h1,h2⟩,h3⟩
noncomputable def JarE (H:Hp) (p c:Addr) (e:Option Int):Prop:=∃ ns r sd tn,JarX H p c ns r sd (tn,e)∧ns.length≤63∧0≤sd∧sd<2^64
theorem JarE.jar {H:Hp}{p c:Addr}{e:Option Int}(J:JarE H p c e):Jar H p c:=by
 obtain ⟨ns,r,sd,tn,X,h1,h2,h3⟩:=J
 exact X.jar h1 h2 h3
theorem Jar.e {H:Hp}{p c:Addr}(J:Jar H p c):∃ e,JarE H p c e:=by
 obtain ⟨ns,r,sd,tn,X,h1,h2,h3⟩:=J.x
 exact ⟨tn.2,ns,r,sd,tn.1,X,h1,h2,h3⟩
theorem JarX.jarE {H:Hp}{p c:Addr}{ns:List Int}{r sd tn:Int}{e:Option Int}(J:JarX H p c ns r sd (tn,e)) (h1:ns.length≤63) (h2:0≤sd) (h3:sd<2^64):JarE H p c e:=⟨ns,r,sd,tn,J,h1,h2,h3⟩
noncomputable def spPickE:Sp:=fun vs H Q _=>∃ (p c:Addr) (many:Int) (e:Option Int),vs=[.ref p,.int many]∧JarE H p c e∧0<many∧many<2^9000∧∀ (r:Int) (H':Hp),0≤r→r<many→JarE H' p c e→Kp [p,c] H H'→Q (.int r) H'
theorem seqIndex_0 (n:Nat):seqIndex? 0 (n+1)=some 0:=by
 unfold seqIndex?
 simp
theorem seq_by {t u:TS}{D:Ends}{σ:L2.St}{H:Hp}(Mid:L2.St→Hp→Prop) (h1:∀ N:L2.St→Hp→Prop,(∀ σ' H',Mid σ' H'→N σ' H')→t { D with nx:=N } σ H) (h2:∀ σ' H',Mid σ' H'→u D σ' H'):tSeq t u D σ H:=h1 _ h2
noncomputable def spMix:Sp:=fun vs H Q _=>∃ n:Int,vs=[.int n]∧0≤n∧n<2^64∧∀ r:Int,0≤r→r<2^64→Q (.int r) H
noncomputable def spJar (K:PySem.W.Frag):Sp:=fun vs H Q _=>∃ (a:Addr) (ns:List Int),vs=[.ref a]∧SqL K H a (ns.map V.int)∧ns.length≤63∧∀ p c H',Kp [] H H'→H p=none→H c=none→Jar H' p c→Q (.ref p) H'
theorem cutV_ints (ns:List Int) (lo hi:Option Int):∃ ms:List Int,cutV (ns.map V.int) lo hi=ms.map V.int∧ms.length≤ns.length:=by
 unfold cutV
 refine ⟨_,by rw [← List.map_drop,← List.map_take],?_⟩
 rw [List.length_take,List.length_drop]
 omega
theorem canLay_ints:∀ ns:List Int,PyData.canLayAll0 (ns.map PyData.int)=true
 | []=>rfl
 | n::r=>by rw [List.map_cons];unfold PyData.canLayAll0;rw [canLay_ints r];rfl
theorem eqv_nil:∀ ns:List Int,PyData.eqv (.list (ns.map PyData.int)) (.list [])=ns.isEmpty
 | []=>rfl
 | _::_=>rfl
mutual
theorem Rep.mono {ex ex':List Addr}{H:Hp}(h:∀ b∈ex,b∈ex'):∀ {d:PyData}{v:V},Rep ex' H d v→Rep ex H d v
 | _,_,.none=>.none
 | _,_,.bool b=>.bool b
 | _,_,.int i=>.int i
 | _,_,.str x=>.str x
 | _,_,.tuple e n z r=>.tuple e (fun q=>n (h _ q)) z (Reps.mono h r)
 | _,_,.list e n z r=>.list e (fun q=>n (h _ q)) z (Reps.mono h r)
theorem Reps.mono {ex ex':List Addr}{H:Hp}(h:∀ b∈ex,b∈ex'):∀ {ds:List PyData}{vs:List V},Reps ex' H ds vs→Reps ex H ds vs
 | _,_,.nil=>.nil
 | _,_,.cons r t=>.cons (Rep.mono h r) (Reps.mono h t)
end
theorem Kp.free {H H':Hp}{ex:List Addr}{l:Addr}(k:Kp ex H H') (h:H' l=none) (hn:l∉ex):H l=none:=by
 cases e:H l with
 | none=>rfl
 | some o=>rw [k l o e hn] at h;cases h
theorem ixN_of {n:Nat}{i:Int}(h0:0≤i) (h1:i<n):ixN n i=some i.toNat:=by
 unfold ixN;rw [if_pos h0,if_pos h1]
noncomputable def spLaw (K:PySem.W.Frag):Sp:=fun vs H Q _=>∃ (a:Addr) (ns:List Int),vs=[.ref a]∧SqL K H a (ns.map V.int)∧ns.length≤63∧∀ H',Q (.bl true) H'
theorem small4 {α:Type}{l:List α}(h:l.length≤1000):l.length≤sizeLine:=Nat.le_of_lt (small1000 h)
end My
namespace L2
open PySem PySem.Spec PyProof.Rows
theorem assign_sub_gen (o i:Expr) (pos:Pos) (env:Env) (v:Value):assign (.Subscript o i pos) env v=(do
 let ov ← holding [v] (eval o env)
 let iv ← holding [v,ov] (eval i env)
 standAt pos
 holding [v,ov,iv] (setItem ov iv v)
 release (match i with | .Slice _ _ none _=>[iv,v,ov] | _=>[v,ov,iv]) []):=rfl
theorem assign_sub_name (o:Expr) (x:Str) (p pos:Pos) (env:Env) (v:Value):assign (.Subscript o (.Name x p) pos) env v=(do
 let ov ← holding [v] (eval o env)
 let iv ← holding [v,ov] (eval (.Name x p) env)
 standAt pos
 holding [v,ov,iv] (setItem ov iv v)
 release [v,ov,iv] []):=assign_sub_gen _ _ _ _ _
section
variable {X:Cx}{es:List Expr}{te:TE}{t:TA}{pos:Pos}
theorem pa_tuple {xs:List Expr}{k:Nat}(ha:PE X (.Tuple xs k pos) te) (hr:PA X es t):PA X (.Tuple xs k pos::es) (tCons te t):=pa_cons ha hr rfl
theorem pa_list {xs:List Expr}(ha:PE X (.List xs pos) te) (hr:PA X es t):PA X (.List xs pos::es) (tCons te t):=pa_cons ha hr rfl
theorem pa_const {k:Const}{j:Nat}(ha:PE X (.Constant k j pos) te) (hr:PA X es t):PA X (.Constant k j pos::es) (tCons te t):=pa_cons ha hr rfl
theorem pa_name {x:Str}(ha:PE X (.Name x pos) te) (hr:PA X es t):PA X (.Name x pos::es) (tCons te t):=pa_cons ha hr rfl
theorem pa_call {f:Expr}{xs:List Expr}{ks:List Keyword}(ha:PE X (.Call f xs ks pos) te) (hr:PA X es t):PA X (.Call f xs ks pos::es) (tCons te t):=pa_cons ha hr rfl
theorem pa_binop {a b:Expr}{op:Operator}(ha:PE X (.BinOp a op b pos) te) (hr:PA X es t):PA X (.BinOp a op b pos::es) (tCons te t):=pa_cons ha hr rfl
theorem pa_unary {a:Expr}{op:UnaryOp}(ha:PE X (.UnaryOp op a pos) te) (hr:PA X es t):PA X (.UnaryOp op a pos::es) (tCons te t):=pa_cons ha hr rfl
theorem pa_cmp {a:Expr}{ops:List CmpOp}{bs:List Expr}(ha:PE X (.Compare a ops bs pos) te) (hr:PA X es t):PA X (.Compare a ops bs pos::es) (tCons te t):=pa_cons ha hr rfl
theorem pa_sub {a b:Expr}(ha:PE X (.Subscript a b pos) te) (hr:PA X es t):PA X (.Subscript a b pos::es) (tCons te t):=pa_cons ha hr rfl
theorem pa_comp {e:Expr}{gs:List Comprehension}{sc:Scope}(ha:PE X (.ListComp e gs sc pos) te) (hr:PA X es t):PA X (.ListComp e gs sc pos::es) (tCons te t):=pa_cons ha hr rfl
end
structure PEs (X:Cx) (e:Expr) (t:TE):Prop where
 out:PE X e t
structure PAs (X:Cx) (es:List Expr) (t:TA):Prop where
 out:PA X es t
section
variable {X:Cx}{es:List Expr}{te:TE}{t:TA}{pos:Pos}
theorem pes_of {e:Expr}(h:PE X e te):PEs X e te:=⟨h⟩
theorem pes_tup {k:Nat}(h:PAs X es t):PEs X (.Tuple es k pos) (tTup t):=⟨pe_tup h.out⟩
theorem pes_lst (h:PAs X es t):PEs X (.List es pos) (tLst t):=⟨pe_lst h.out⟩
theorem pes_int {i:Int}{j:Nat}:PEs X (.Constant (.int i) j pos) (tC (.int i)):=⟨pe_int⟩
theorem pes_str {i:Str}{j:Nat}:PEs X (.Constant (.str i) j pos) (tC (.str i)):=⟨pe_str⟩
theorem pas_nil:PAs X [] tNil:=⟨pa_nil⟩
theorem pas_tuple {xs:List Expr}{k:Nat}(ha:PEs X (.Tuple xs k pos) te) (hr:PAs X es t):PAs X (.Tuple xs k pos::es) (tCons te t):=⟨pa_tuple ha.out hr.out⟩
theorem pas_list {xs:List Expr}(ha:PEs X (.List xs pos) te) (hr:PAs X es t):PAs X (.List xs pos::es) (tCons te t):=⟨pa_list ha.out hr.out⟩
theorem pas_const {k:Const}{j:Nat}(ha:PEs X (.Constant k j pos) te) (hr:PAs X es t):PAs X (.Constant k j pos::es) (tCons te t):=⟨pa_const ha.out hr.out⟩
theorem pas_name {x:Str}(ha:PEs X (.Name x pos) te) (hr:PAs X es t):PAs X (.Name x pos::es) (tCons te t):=⟨pa_name ha.out hr.out⟩
theorem pas_call {f:Expr}{xs:List Expr}{ks:List Keyword}(ha:PEs X (.Call f xs ks pos) te) (hr:PAs X es t):PAs X (.Call f xs ks pos::es) (tCons te t):=⟨pa_call ha.out hr.out⟩
theorem pas_binop {a b:Expr}{op:Operator}(ha:PEs X (.BinOp a op b pos) te) (hr:PAs X es t):PAs X (.BinOp a op b pos::es) (tCons te t):=⟨pa_binop ha.out hr.out⟩
theorem pas_unary {a:Expr}{op:UnaryOp}(ha:PEs X (.UnaryOp op a pos) te) (hr:PAs X es t):PAs X (.UnaryOp op a pos::es) (tCons te t):=⟨pa_unary ha.out hr.out⟩
theorem pas_sub {a b:Expr}(ha:PEs X (.Subscript a b pos) te) (hr:PAs X es t):PAs X (.Subscript a b pos::es) (tCons te t):=⟨pa_sub ha.out hr.out⟩
end
theorem def_mk {K:PySem.W.Frag}{h:Heap}{mg:Str→Option Value}{x:Str}{st:Stmt}{ps:List Str}{f:Addr}{oc:Value}{od an:Option Addr}{osl:Array (Option Value)}{kV doc pm cdv ct:Value}(X:K.In h) (G:h.Ns mainGlobals mg)
 (a:PySem.W.nsIn K mainGlobals x=some (some (.ref f))) (l:K.lookup f=some ⟨oc,od,.func (PySem.W.fnOf x x (defArgs st) (defBody st) (defScope st) .none kV doc pm an cdv ct),osl⟩) (c:PySem.W.codeIn K cdv x=true) (k:PySem.W.keepIn K (.ref f)=true)
 (hb:∀ (kV doc pm:Value) (an:Option Addr) (cdv ct:Value) (us:List Value),us.length=ps.length→bindArgs (PySem.W.fnOf x x (defArgs st) (defBody st) (defScope st) .none kV doc pm an cdv ct) ⟨us,[]⟩=pure (ps.zip us)):Def K mg x st ps:=
 ⟨f,_,PySem.W.mg_of X G a,fun_mk (st:=st) l c k,(fun_mk (st:=st) l c k).binds hb⟩
end L2
namespace My
open PySem PySem.Spec PyProof.Rows L2
structure Way where
 a:Int
 b:Int
 g:List Int
noncomputable def wayPD (w:Way):PyData:=.tuple [.int w.a,.int w.b,.tuple (w.g.map PyData.int)]
noncomputable def bookPD (R P:Int) (ws:List Way):PyData:=.tuple [.int R,.int P,.tuple (ws.map wayPD)]
structure WayOk (R P:Int) (w:Way):Prop where
 a0:0≤w.a
 a1:w.a<R
 b0:0≤w.b
 b1:w.b<R
 len:(w.g.length:Int)=P
 small:∀ x∈w.g,-99≤x∧x≤99
structure BookOk (R P:Int) (ws:List Way):Prop where
 r0:1≤R
 r1:R≤12
 p0:1≤P
 p1:P≤6
 len:ws.length≤60
 ways:∀ w∈ws,WayOk R P w
theorem small9000 {n:Int}(h:n≤100000):n<2^9000:=Int.lt_of_le_of_lt h (by decide +kernel)
end My
namespace L2
open PySem PySem.Spec PyProof.Rows
section
variable {α:Type}{a b c d e f x:α}{l:List α}
theorem mm0:a∈a::l:=List.mem_cons_self
theorem mm1:b∈a::b::l:=List.mem_cons_of_mem _ mm0
theorem mm2:c∈a::b::c::l:=List.mem_cons_of_mem _ mm1
theorem mm3:d∈a::b::c::d::l:=List.mem_cons_of_mem _ mm2
theorem mm4:e∈a::b::c::d::e::l:=List.mem_cons_of_mem _ mm3
theorem mm5:f∈a::b::c::d::e::f::l:=List.mem_cons_of_mem _ mm4
theorem mn0 (h:¬ x∈a::l):x≠a:=fun e=>h (e▸mm0)
theorem mn1 (h:¬ x∈a::b::l):x≠b:=fun e=>h (e▸mm1)
theorem mn2 (h:¬ x∈a::b::c::l):x≠c:=fun e=>h (e▸mm2)
theorem mn3 (h:¬ x∈a::b::c::d::l):x≠d:=fun e=>h (e▸mm3)
theorem mn4 (h:¬ x∈a::b::c::d::e::l):x≠e:=fun e=>h (e▸mm4)
theorem mn5 (h:¬ x∈a::b::c::d::e::f::l):x≠f:=fun e=>h (e▸mm5)
end
section
variable {prog:Program}{w:World}{A:Around}{E:Value→Shared→Prop}{s:Shared}
theorem nextT_item {j t:Addr}{i:Nat}{vs:Array Value}{y:Value}{Q:Value→Shared→Prop}(g:s.heap.IsTupleIter j t i) (gt:s.heap.IsTuple t vs) (gy:vs[i]? = some y)
 (q:∀ h',h'.IsTupleIter j t (i+1)→Heap.SameBut j s.heap h'→Q y { s with heap:=h' }):wpAny (model prog w) A (Builtin.SmallTypes.nextOf (.ref j)) Q E s:=by
 obtain ⟨oj,e1,e2,e3⟩:=id g
 obtain ⟨ot,e4,_,n4,e5⟩:=gt
 have goal2:wpAny (model prog w) A.in1 (Builtin.«tuple_iterator.__next__» ⟨[.ref j],[]⟩) (fun fin s'=>∃ v,fin = .done (.ret v)∧wpAny (model prog w) A (pure v) Q E s') E s:=by
  show wpAny _ _ (field (.ref j) 0 >>= _) _ _ s
  refine wpAny_bind (wpAny_field e1 e3 (x:=.ref t) rfl ?_)
  show wpAny _ _ (if (Value.ref t==Value.none)=true then _ else _) _ _ s;rw [if_neg (show ¬ ((Value.ref t==Value.none)=true) from fun z=>Bool.noConfusion z)]
  show wpAny _ _ (field (.ref j) 1 >>= _) _ _ s
  refine wpAny_bind (wpAny_field e1 e3 (x:=.int i 0) rfl ?_)
  show wpAny _ _ (seqItems? (.ref t) >>= _) _ _ s
  refine wpAny_bind (wpAny_seqItems e4 e5 ?_)
  simp only [Int.toNat_natCast,gy]
  refine wpAny_bind (wpAny_setField e1 e3 (by first | exact mm0 | exact mm1 | exact mm2 | exact mm3 | exact mm4 | exact mm5 | simp) (wpAny_pure ⟨y,rfl,wpAny_pure (q _ ⟨_,Heap.get?_update_self _ e1 (Obj.isFreed_of_fields (Obj.data_mapFields e3 _)),(Obj.cls_mapFields ..).trans e2,?_⟩ (Heap.SameBut.update ..))⟩))
  rw [Obj.data_mapFields e3];simp [rawInt]
 unfold Builtin.SmallTypes.nextOf
 exact wpAny_bind (wpAny_callSpecial?_slot (name:=Str.ofString "__next__") g.typeIs F.slot_tuple_iterator_next (wpAny_call_entry F.slot_tuple_iterator_next g.typeIs F.entry_tuple_iterator_next goal2 (F.args_tuple_iterator_next_1 _)))
theorem nextT_end {j t:Addr}{i:Nat}{vs:Array Value}{Q:Value→Shared→Prop}(hh:A.handled=none) (g:s.heap.IsTupleIter j t i) (gt:s.heap.IsTuple t vs) (gy:vs[i]? = none)
 (q:∀ h' e,Heap.ExtBut j s.heap h'→(∃ o,h'.get? e=some o∧o.cls = .type "StopIteration")→E (.ref e) { s with heap:=h' }):wpAny (model prog w) A (Builtin.SmallTypes.nextOf (.ref j)) Q E s:=by
 obtain ⟨oj,e1,e2,e3⟩:=id g
 obtain ⟨ot,e4,_,n4,e5⟩:=gt
 unfold Builtin.SmallTypes.nextOf
 refine wpAny_bind (wpAny_callSpecial?_slot (name:=Str.ofString "__next__") g.typeIs F.slot_tuple_iterator_next (wpAny_call_entry F.slot_tuple_iterator_next g.typeIs F.entry_tuple_iterator_next ?_ (F.args_tuple_iterator_next_1 _)))
 show wpAny _ _ (field (.ref j) 0 >>= _) _ _ s
 refine wpAny_bind (wpAny_field e1 e3 (x:=.ref t) rfl ?_)
 show wpAny _ _ (if (Value.ref t==Value.none)=true then _ else _) _ _ s;rw [if_neg (show ¬ ((Value.ref t==Value.none)=true) from fun z=>Bool.noConfusion z)]
 show wpAny _ _ (field (.ref j) 1 >>= _) _ _ s
 refine wpAny_bind (wpAny_field e1 e3 (x:=.int i 0) rfl ?_)
 show wpAny _ _ (seqItems? (.ref t) >>= _) _ _ s
 refine wpAny_bind (wpAny_seqItems e4 e5 ?_)
 simp only [Int.toNat_natCast,gy]
 refine wpAny_bind (wpAny_rule (wpAny_bind (wpAny_setField e1 e3 (by first | exact mm0 | exact mm1 | exact mm2 | exact mm3 | exact mm4 | exact mm5 | simp) ?_)))
 show wpAny _ _ (newExc (.type "StopIteration") [] >>= _) _ _ _;refine wpAny_bind ?_;simp only [newExc,newTuple]
 refine wpAny_bind (wpAny_newObj_type ?_ (by size_fits));refine wpAny_bind (m:=firstArgMember _ _) (wpAny_of_eq (a:=Value.none) (by first | rfl | (simp only [firstArgMember];rfl)) ?_);refine wpAny_newObj_type ?_ (by size_fits)
 simp only [raiseNew];refine wpAny_bind (wpAny_handled ?_);first | rw [show A.in1.handled=none from hh] | rw [hh]
 refine wpAny_bind (wpAny_pure (wpAny_throw (q _ _ (((Heap.SameBut.update ..).extBut.push _).push _) ⟨_,Heap.get?_push_size _ rfl,rfl⟩)))
end
noncomputable def SqAt (b:Bool) (h:Heap) (a:Addr) (vs:Array Value):Prop:=match b with | true=>h.IsTuple a vs | false=>h.IsList a vs
noncomputable def ItAt (b:Bool) (h:Heap) (j a:Addr) (i:Nat):Prop:=match b with | true=>h.IsTupleIter j a i | false=>h.IsListIter j a i
theorem SqAt.at {b:Bool}{h h':Heap}{a:Addr}{vs:Array Value}(x:SqAt b h a vs) (k:∀ o,h.get? a=some o→h'.get? a=some o):SqAt b h' a vs:=by
 cases b with
 | true=>exact let ⟨o,e,r⟩:=x;⟨o,k o e,r⟩
 | false=>exact let ⟨o,e,r⟩:=x;⟨o,k o e,r⟩
theorem ItAt.at {b:Bool}{h h':Heap}{j a:Addr}{i:Nat}(x:ItAt b h j a i) (k:∀ o,h.get? j=some o→h'.get? j=some o):ItAt b h' j a i:=by
 cases b with
 | true=>exact let ⟨o,e,r⟩:=x;⟨o,k o e,r⟩
 | false=>exact let ⟨o,e,r⟩:=x;⟨o,k o e,r⟩
theorem ItAt.obj {b:Bool}{h:Heap}{j a:Addr}{i:Nat}(x:ItAt b h j a i):∃ o,h.get? j=some o∧∀ v,o.data≠.cell v:=by
 cases b with
 | true=>exact let ⟨o,e,_,d⟩:=x;⟨o,e,fun v z=>by rw [d] at z;cases z⟩
 | false=>exact let ⟨o,e,_,d⟩:=x;⟨o,e,fun v z=>by rw [d] at z;cases z⟩
theorem draws_of {prog:Program}{w:World}{A:Around}(b:Bool) (hh:A.handled=none) (j a:Addr) (hne:a≠j) (vs:Array Value) :
 Draws prog w A j [j,a] vs.size (fun i v=>vs[i]? = some v) (fun i h=>ItAt b h j a i∧SqAt b h a vs):=by
 cases b with
 | false=>exact Draws.list hh j a hne vs
 | true=>exact {
  live:=fun _ _ st=>let ⟨o,ho,_⟩:=st.1;⟨o,ho⟩
  frame:=fun _ _ _ st hk=>⟨ItAt.at (b:=true) st.1 fun o e=>hk j (by first | exact mm0 | exact mm1 | exact mm2 | exact mm3 | exact mm4 | exact mm5 | simp) o e,SqAt.at (b:=true) st.2 fun o e=>hk a (by first | exact mm0 | exact mm1 | exact mm2 | exact mm3 | exact mm4 | exact mm5 | simp) o e⟩
  item:=fun i s Q E hi st hQ=>by
   have e:vs[i]? = some vs[i]:=by simp [hi]
   exact nextT_item st.1 st.2 e fun h' g' sb=>hQ _ h' s.toks e ⟨g',SqAt.at (b:=true) st.2 fun o z=>(sb.2 a hne).trans z⟩ sb
  done:=fun s Q E st hE=>nextT_end hh st.1 st.2 (by first | exact mm0 | exact mm1 | exact mm2 | exact mm3 | exact mm4 | exact mm5 | simp) hE }
section
open AutoSeq1 (wpAny_loadPart')
theorem enumT_new (l:Addr) (vs:Array Value) (n:Nat) (dc:Option Addr) (sl:Array (Option Value)) :
 Meets (Builtin.«enumerate.__new__» ⟨[.type "enumerate",.ref l],[]⟩) (fun _ R s=>s.heap.get? l=some { cls:=.type "tuple",dict:=dc,data:=.seq vs n,slots:=sl } ∧
  R (.ok (.ret (.ref (s.heap.push { cls:=.type "tuple_iterator",data:=.fields #[.ref l,.int 0 0] }).objs.size)))
   { s with heap:=(s.heap.push { cls:=.type "tuple_iterator",data:=.fields #[.ref l,.int 0 0] }).push { cls:=.type "enumerate",data:=.fields #[.none,.bool false,.ref s.heap.objs.size,rawInt 0,.none,.none] } }):=
 .of_wp fun prog w A R s h=>by
  obtain ⟨hp,g,d,tk,os⟩:=s;obtain ⟨hl,h⟩:=h;have hsub:=sub_enumerate
  have hL:Heap.IsTuple (Shared.heap ⟨hp,g,d,tk,os⟩) l vs:=⟨_,hl,rfl,n,rfl⟩
  wp_walk using wpAny_loadPart' hl
  refine wpAny_stack_any fun st=>wpAny_pure ?_
  split
  · rename_i c _ _ _ _ _
    cases (c==Value.type "enumerate")<;>(wp_walk using wpAny_loadPart' hl,wpAny_pyIter_tuple hL;exact ⟨_,rfl,h⟩)
  · wp_walk using wpAny_loadPart' hl,wpAny_pyIter_tuple hL
    exact ⟨_,rfl,h⟩
end
theorem call_enum {prog:Program}{w:World}{A:Around}{E:Value→Shared→Prop}{s:Shared}(b:Bool) {l:Addr}{vs:Array Value}{Q:Value→Shared→Prop}(x:SqAt b s.heap l vs)
 (q:∀ h',IsEnum h' (s.heap.objs.size+1) s.heap.objs.size 0 .none→ItAt b h' s.heap.objs.size l 0→h'.objs.size=s.heap.objs.size+2 →
  (∀ c o,s.heap.get? c=some o→h'.get? c=some o)→Q (.ref (s.heap.objs.size+1)) { s with heap:=h' }) :
 wpAny (model prog w) A (call (.type "enumerate") [.ref l]) Q E s:=by
 cases b with
 | false=>exact call_enumerate_list x q
 | true=>
  obtain ⟨⟨c,dc,dt,sl⟩,hl,hc,n,hd⟩:=x
  replace hc:c = .type "tuple":=hc
  replace hd:dt = .seq vs n:=hd
  subst hc hd
  refine callType_new F.called_enumerate (by decide) (F.typeCall_enumerate_1 _) (F.newCall_enumerate_1 _) (fun obj=>F.args_object_init_2 obj _) F.entry_enumerate_new (enumT_new l vs n dc sl) ⟨hl,?_⟩
  have hz:(s.heap.push { cls:=.type "tuple_iterator",data:=.fields #[.ref l,.int 0 0] }).objs.size=s.heap.objs.size+1:=Heap.size_push ..
  show _∧_
  rw [hz]
  have he:IsEnum ((s.heap.push { cls:=.type "tuple_iterator",data:=.fields #[.ref l,.int 0 0] }).push { cls:=.type "enumerate",data:=.fields #[.none,.bool false,.ref s.heap.objs.size,rawInt 0,.none,.none] }) (s.heap.objs.size+1) s.heap.objs.size 0 .none:=by
   have z:=Heap.get?_push_size (s.heap.push { cls:=.type "tuple_iterator",data:=.fields #[.ref l,.int 0 0] }) (o:={ cls:=.type "enumerate",data:=.fields #[.none,.bool false,.ref s.heap.objs.size,rawInt 0,.none,.none] }) rfl
   rw [hz] at z;exact z
  exact ⟨⟨_,he,rfl⟩,q _ he ⟨_,Heap.get?_push_of_some _ (Heap.get?_push_size _ rfl),rfl,rfl⟩ (by rw [Heap.size_push,hz]) fun c o y=>Heap.get?_push_of_some _ (Heap.get?_push_of_some _ y)⟩
noncomputable def itObj (b:Bool) (l:Addr):Obj:={ cls:=.type (match b with | true=>"tuple_iterator" | false=>"list_iterator"),data:=.fields #[.ref l,.int 0 0] }
theorem itObj_at {b:Bool}{h:Heap}{j l:Addr}(e:h.get? j=some (itObj b l)):ItAt b h j l 0:=by
 cases b with
 | true=>exact ⟨_,e,rfl,rfl⟩
 | false=>exact ⟨_,e,rfl,rfl⟩
theorem pyIter_itObj {prog:Program}{w:World}{A:Around}{E:Value→Shared→Prop}{s:Shared}{b:Bool}{a:Addr}{vs:Array Value}{Q:Value→Shared→Prop}(x:SqAt b s.heap a vs)
 (q:Q (.ref s.heap.objs.size) { s with heap:=s.heap.push (itObj b a) }):wpAny (model prog w) A (pyIter (.ref a)) Q E s:=by
 cases b with
 | true=>exact wpAny_pyIter_tuple x q
 | false=>exact wpAny_pyIter_list x q
noncomputable abbrev zz1 (b:Bool) (h:Heap) (l:Addr):Heap:=h.push (itObj b l)
noncomputable abbrev zz2 (b b':Bool) (h:Heap) (l m:Addr):Heap:=(zz1 b h l).push (itObj b' m)
noncomputable abbrev zz3 (b b':Bool) (h:Heap) (l m:Addr):Heap:=(zz2 b b' h l m).push { cls:=.type "tuple",data:=.seq #[.ref h.objs.size,.ref (zz1 b h l).objs.size] }
noncomputable abbrev zz4 (b b':Bool) (h:Heap) (l m:Addr):Heap:=(zz3 b b' h l m).push { cls:=.type "tuple",data:=.seq #[.none,.none] }
noncomputable abbrev zz5 (b b':Bool) (h:Heap) (l m:Addr):Heap:=(zz4 b b' h l m).push { cls:=.type "zip",data:=.fields #[.none,.bool false,.bool false,.ref (zz2 b b' h l m).objs.size,.ref (zz3 b b' h l m).objs.size] }
theorem zip_new (b b':Bool) (l m:Addr) (xs ys:Array Value) :
 Meets (Builtin.«zip.__new__» ⟨[.type "zip",.ref l,.ref m],[]⟩) (fun _ R s=>SqAt b s.heap l xs∧SqAt b' s.heap m ys ∧
  R (.ok (.ret (.ref (zz4 b b' s.heap l m).objs.size))) { s with heap:=zz5 b b' s.heap l m }):=
 .of_wp fun prog w A R s h=>by
  obtain ⟨hp,g,d,tk,os⟩:=s;obtain ⟨x1,x2,h⟩:=h
  have hsub:=sub_zip
  have x1':SqAt b (Shared.heap ⟨hp,g,d,tk,os⟩) l xs:=x1
  have x2':SqAt b' (Shared.heap ⟨hp.push (itObj b l),g,d,tk,os⟩) m ys:=SqAt.at x2 fun o e=>Heap.get?_push_of_some _ e
  wp_walk using pyIter_itObj x1',pyIter_itObj x2'
  exact ⟨_,rfl,h⟩
structure ZApart (z TI TO j1 j2:Addr) (f1 f2:List Addr):Prop where
 m1:j1∈f1
 m2:j2∈f2
 z1:z∉f1
 z2:z∉f2
 o1:TO∉f1
 o2:TO∉f2
 q1:j1∉f2
 q2:j2∉f1
 iz:TI≠z
 io:TI≠TO
 i1:TI≠j1
 i2:TI≠j2
 oz:TO≠z
theorem ZApart.j1z {z TI TO j1 j2:Addr}{f1 f2:List Addr}(D:ZApart z TI TO j1 j2 f1 f2):j1≠z:=fun e=>D.z1 (e▸D.m1)
theorem ZApart.j2z {z TI TO j1 j2:Addr}{f1 f2:List Addr}(D:ZApart z TI TO j1 j2 f1 f2):j2≠z:=fun e=>D.z2 (e▸D.m2)
theorem ZApart.j1o {z TI TO j1 j2:Addr}{f1 f2:List Addr}(D:ZApart z TI TO j1 j2 f1 f2):j1≠TO:=fun e=>D.o1 (e▸D.m1)
theorem ZApart.j2o {z TI TO j1 j2:Addr}{f1 f2:List Addr}(D:ZApart z TI TO j1 j2 f1 f2):j2≠TO:=fun e=>D.o2 (e▸D.m2)
theorem ne_mem {a b:Addr}{l:List Addr}(h:a∉l) (hb:b∈l):b≠a:=fun e=>h (e▸hb)
section
variable {prog:Program}{w:World}{A:Around}{E:Value→Shared→Prop}{s:Shared}{z TI TO j1 j2:Addr}{f1 f2:List Addr}{n1 n2 i:Nat}{P1 P2:Nat→Value→Prop}{St1 St2:Nat→Heap→Prop}{a b:Value}
theorem zipD_item {Q:Value→Shared→Prop}(D:ZApart z TI TO j1 j2 f1 f2) (D1:Draws prog w A j1 f1 n1 P1 St1) (D2:Draws prog w A j2 f2 n2 P2 St2) (hz:IsZip s.heap z TI TO .none) (hI:IsPair s.heap TI (.ref j1) (.ref j2)) (hO:IsPair s.heap TO a b)
 (st1:St1 i s.heap) (st2:St2 i s.heap) (l1:i<n1) (l2:i<n2)
 (q:∀ x y h' tk,P1 i x→P2 i y→IsZip h' z TI TO (rawInt s.heap.objs.size)→IsPair h' TO x y→St1 (i+1) h'→St2 (i+1) h'→IsPair h' s.heap.objs.size x y→h'.objs.size=s.heap.objs.size+1 →
  (∀ c o,c≠z→c≠TO→c≠j1→c≠j2→s.heap.get? c=some o→h'.get? c=some o)→Q (.ref s.heap.objs.size) { s with heap:=h',toks:=tk }) :
 wpAny (model prog w) A (Builtin.«zip.__next__» ⟨[.ref z],[]⟩) (fun fin s'=>∃ v,fin = .done (.ret v)∧Q v s') E s:=by
 obtain ⟨hp,gg,dd,t0,os⟩:=s
 show wpAny _ _ (field (.ref z) 2 >>= _) _ _ _;refine wpAny_bind (wpAny_field hz rfl (x:=.bool false) rfl ?_)
 show wpAny _ _ (field (.ref z) 3 >>= _) _ _ _;refine wpAny_bind (wpAny_field hz rfl (x:=.ref TI) rfl ?_)
 refine wpAny_bind (wpAny_seqItems hI rfl ?_)
 show wpAny _ _ (Builtin.SmallTypes.ownedTupleIsFree (.ref z) >>= _) _ _ _;refine wpAny_bind ?_;unfold Builtin.SmallTypes.ownedTupleIsFree
 refine wpAny_bind (wpAny_field hz rfl (x:=.none) rfl (wpAny_pure ?_));simp only [if_true];refine wpAny_bind (wpAny_rule ?_)
 refine wpAny_bind (wpAny_field hz rfl (x:=.ref TO) rfl ?_)
 refine wpAny_bind (wpAny_setField_rec hz (by first | exact mm0 | exact mm1 | exact mm2 | exact mm3 | exact mm4 | exact mm5 | simp) fun g1 z1 b1=>?_);replace z1:IsZip g1 z TI TO .ellipsis:=z1;replace b1:Heap.SameBut z hp g1:=b1
 refine wpAny_bind ?_;simp only [List.zipIdx_cons,List.zipIdx_nil,List.forIn_cons,List.forIn_nil]
 refine wpAny_bind (wpAny_bind (wpAny_onRaise ?_))
 show wpAny _ _ (Builtin.SmallTypes.nextOf (.ref j1) >>= _) _ _ _
 refine wpAny_bind (D1.item i _ _ _ l1 (D1.frame _ _ _ st1 fun c hc o e=>b1.extBut c o (ne_mem D.z1 hc) e) fun x g2 t2 px s12 b2=>wpAny_pure ?_);replace b2:Heap.SameBut j1 g1 g2:=b2
 have o2:IsPair g2 TO a b:=b2.extBut _ _ (Ne.symm D.j1o) (b1.extBut _ _ D.oz hO)
 refine wpAny_bind (wpAny_seqItems o2 rfl ?_)
 refine wpAny_bind (wpAny_updateSeq_pair o2 fun g3 o3 b3=>?_);replace o3:IsPair g3 TO x b:=o3;replace b3:Heap.SameBut TO g2 g3:=b3
 refine wpAny_bind (wpAny_letGo (wpAny_pure ?_));refine wpAny_bind (wpAny_bind (wpAny_onRaise ?_))
 show wpAny _ _ (Builtin.SmallTypes.nextOf (.ref j2) >>= _) _ _ _
 refine wpAny_bind (D2.item i _ _ _ l2 (D2.frame _ _ _ st2 fun c hc o e=>b3.extBut c o (ne_mem D.o2 hc) (b2.extBut c o (ne_mem D.q1 hc) (b1.extBut c o (ne_mem D.z2 hc) e))) fun y g4 t4 py s24 b4=>wpAny_pure ?_);replace b4:Heap.SameBut j2 g3 g4:=b4
 have o4:IsPair g4 TO x b:=b4.extBut _ _ (Ne.symm D.j2o) o3
 refine wpAny_bind (wpAny_seqItems o4 rfl ?_)
 refine wpAny_bind (wpAny_updateSeq_pair o4 fun g5 o5 b5=>?_);replace o5:IsPair g5 TO x y:=o5;replace b5:Heap.SameBut TO g4 g5:=b5
 refine wpAny_bind (wpAny_letGo (wpAny_pure (wpAny_pure ?_)))
 refine wpAny_bind (wpAny_seqItems o5 rfl ?_);refine wpAny_bind (wpAny_newTuple ?_)
 have sz:g5.objs.size=hp.objs.size:=by rw [b5.1,b4.1,b3.1,b2.1,b1.1]
 have z5:IsZip g5 z TI TO .ellipsis:=b5.extBut _ _ (Ne.symm D.oz) (b4.extBut _ _ (Ne.symm D.j2z) (b3.extBut _ _ (Ne.symm D.oz) (b2.extBut _ _ (Ne.symm D.j1z) z1)))
 have k5:∀ c o,c≠z→c≠TO→c≠j1→c≠j2→hp.get? c=some o→g5.get? c=some o:=fun c o c1 c2 c3 c4 e=>b5.extBut _ _ c2 (b4.extBut _ _ c4 (b3.extBut _ _ c2 (b2.extBut _ _ c3 (b1.extBut _ _ c1 e))))
 have s15:St1 (i+1) g5:=D1.frame _ _ _ s12 fun c hc o e=>b5.extBut c o (ne_mem D.o1 hc) (b4.extBut c o (ne_mem D.q2 hc) (b3.extBut c o (ne_mem D.o1 hc) e))
 have s25:St2 (i+1) g5:=D2.frame _ _ _ s24 fun c hc o e=>b5.extBut c o (ne_mem D.o2 hc) e
 have zl:z<g5.objs.size:=Heap.lt_size z5
 show wpAny _ _ (Builtin.SmallTypes.ownedTupleHandOut (.ref z) (.ref g5.objs.size) >>= _) _ _ _;refine wpAny_bind ?_;unfold Builtin.SmallTypes.ownedTupleHandOut
 have z6:IsZip (g5.push { cls:=.type "tuple",data:=.seq #[x,y] }) z TI TO .ellipsis:=Heap.get?_push_of_some _ z5
 refine wpAny_bind (wpAny_setField_rec z6 (by first | exact mm0 | exact mm1 | exact mm2 | exact mm3 | exact mm4 | exact mm5 | simp) fun g7 z7 b7=>?_);replace z7:IsZip g7 z TI TO (rawInt g5.objs.size):=z7
 refine wpAny_setField_rec z7 (by first | exact mm0 | exact mm1 | exact mm2 | exact mm3 | exact mm4 | exact mm5 | simp) fun g8 z8 b8=>?_;replace z8:IsZip g8 z TI TO (rawInt g5.objs.size):=z8
 have up:∀ c o,c≠z→g5.get? c=some o→g8.get? c=some o:=fun c o c1 e=>b8.extBut _ _ c1 (b7.extBut _ _ c1 (Heap.get?_push_of_some _ e))
 have t8:IsPair g8 g5.objs.size x y:=b8.extBut _ _ (Nat.ne_of_gt zl) (b7.extBut _ _ (Nat.ne_of_gt zl) (Heap.get?_push_size _ rfl))
 have s8:g8.objs.size=g5.objs.size+1:=by rw [b8.1,b7.1,Heap.size_push]
 rw [sz] at z8 t8 s8
 refine wpAny_pure ⟨_,rfl,?_⟩;show Q (.ref g5.objs.size) _;rw [sz]
 exact q x y g8 t4 px py z8 (up _ _ D.oz o5) (D1.frame _ _ _ s15 fun c hc o e=>up c o (ne_mem D.z1 hc) e) (D2.frame _ _ _ s25 fun c hc o e=>up c o (ne_mem D.z2 hc) e) t8 s8 fun c o c1 c2 c3 c4 e=>up c o c1 (k5 c o c1 c2 c3 c4 e)
theorem zipD_end {Q:Fin→Shared→Prop}(D:ZApart z TI TO j1 j2 f1 f2) (D1:Draws prog w A j1 f1 n1 P1 St1) (D2:Draws prog w A j2 f2 n2 P2 St2) (hz:IsZip s.heap z TI TO .none) (hI:IsPair s.heap TI (.ref j1) (.ref j2)) (hO:IsPair s.heap TO a b)
 (st1:St1 i s.heap) (st2:St2 i s.heap) (hend:i=n1∨(i<n1∧i=n2))
 (q:∀ h' e tk,(∀ c o,c≠z→c≠TO→c≠j1→c≠j2→s.heap.get? c=some o→h'.get? c=some o)→(∃ o,h'.get? e=some o∧o.cls = .type "StopIteration")→E (.ref e) { s with heap:=h',toks:=tk }) :
 wpAny (model prog w) A (Builtin.«zip.__next__» ⟨[.ref z],[]⟩) Q E s:=by
 obtain ⟨hp,gg,dd,t0,os⟩:=s
 show wpAny _ _ (field (.ref z) 2 >>= _) _ _ _;refine wpAny_bind (wpAny_field hz rfl (x:=.bool false) rfl ?_)
 show wpAny _ _ (field (.ref z) 3 >>= _) _ _ _;refine wpAny_bind (wpAny_field hz rfl (x:=.ref TI) rfl ?_)
 refine wpAny_bind (wpAny_seqItems hI rfl ?_)
 show wpAny _ _ (Builtin.SmallTypes.ownedTupleIsFree (.ref z) >>= _) _ _ _;refine wpAny_bind ?_;unfold Builtin.SmallTypes.ownedTupleIsFree
 refine wpAny_bind (wpAny_field hz rfl (x:=.none) rfl (wpAny_pure ?_));simp only [if_true];refine wpAny_bind (wpAny_rule ?_)
 refine wpAny_bind (wpAny_field hz rfl (x:=.ref TO) rfl ?_)
 refine wpAny_bind (wpAny_setField_rec hz (by first | exact mm0 | exact mm1 | exact mm2 | exact mm3 | exact mm4 | exact mm5 | simp) fun g1 z1 b1=>?_);replace z1:IsZip g1 z TI TO .ellipsis:=z1;replace b1:Heap.SameBut z hp g1:=b1
 refine wpAny_bind ?_;simp only [List.zipIdx_cons,List.zipIdx_nil,List.forIn_cons,List.forIn_nil]
 refine wpAny_bind (wpAny_bind (wpAny_onRaise ?_))
 show wpAny _ _ (Builtin.SmallTypes.nextOf (.ref j1) >>= _) _ _ _
 have s11:=D1.frame _ _ _ st1 fun c hc o e=>b1.extBut c o (ne_mem D.z1 hc) e
 rcases hend with he | ⟨l1,he⟩
 · subst he
   refine wpAny_bind (D1.done _ _ _ s11 fun g2 e b2 he=>?_)
   obtain ⟨oe,hoe,hce⟩:=he
   have z2:IsZip g2 z TI TO .ellipsis:=b2 _ _ (Ne.symm D.j1z) z1
   have ez:e≠z:=fun x=>by subst x;rw [z2] at hoe;cases hoe;simp at hce
   refine wpAny_setField_rec z2 (by first | exact mm0 | exact mm1 | exact mm2 | exact mm3 | exact mm4 | exact mm5 | simp) fun g3 _ b3=>?_
   exact q g3 e t0 (fun c o c1 _ c3 _ x=>b3.extBut _ _ c1 (b2 _ _ c3 (b1.extBut _ _ c1 x))) ⟨oe,b3.extBut _ _ ez hoe,hce⟩
 · subst he
   refine wpAny_bind (D1.item i _ _ _ l1 s11 fun x g2 t2 px s12 b2=>wpAny_pure ?_);replace b2:Heap.SameBut j1 g1 g2:=b2
   have o2:IsPair g2 TO a b:=b2.extBut _ _ (Ne.symm D.j1o) (b1.extBut _ _ D.oz hO)
   refine wpAny_bind (wpAny_seqItems o2 rfl ?_)
   refine wpAny_bind (wpAny_updateSeq_pair o2 fun g3 o3 b3=>?_);replace b3:Heap.SameBut TO g2 g3:=b3
   refine wpAny_bind (wpAny_letGo (wpAny_pure ?_));refine wpAny_bind (wpAny_bind (wpAny_onRaise ?_))
   show wpAny _ _ (Builtin.SmallTypes.nextOf (.ref j2) >>= _) _ _ _
   refine wpAny_bind (D2.done _ _ _ (D2.frame _ _ _ st2 fun c hc o e=>b3.extBut c o (ne_mem D.o2 hc) (b2.extBut c o (ne_mem D.q1 hc) (b1.extBut c o (ne_mem D.z2 hc) e))) fun g4 e b4 he=>?_)
   obtain ⟨oe,hoe,hce⟩:=he
   have z4:IsZip g4 z TI TO .ellipsis:=b4 _ _ (Ne.symm D.j2z) (b3.extBut _ _ (Ne.symm D.oz) (b2.extBut _ _ (Ne.symm D.j1z) z1))
   have ez:e≠z:=fun x=>by subst x;rw [z4] at hoe;cases hoe;simp at hce
   refine wpAny_setField_rec z4 (by first | exact mm0 | exact mm1 | exact mm2 | exact mm3 | exact mm4 | exact mm5 | simp) fun g5 _ b5=>?_
   exact q g5 e t2 (fun c o c1 c2 c3 c4 x=>b5.extBut _ _ c1 (b4 _ _ c4 (b3.extBut _ _ c2 (b2.extBut _ _ c3 (b1.extBut _ _ c1 x))))) ⟨oe,b5.extBut _ _ ez hoe,hce⟩
theorem zipD_next_item {Q:Option Value→Shared→Prop}(D:ZApart z TI TO j1 j2 f1 f2) (D1:Draws prog w A.in1 j1 f1 n1 P1 St1) (D2:Draws prog w A.in1 j2 f2 n2 P2 St2) (hz:IsZip s.heap z TI TO .none) (hI:IsPair s.heap TI (.ref j1) (.ref j2)) (hO:IsPair s.heap TO a b)
 (st1:St1 i s.heap) (st2:St2 i s.heap) (l1:i<n1) (l2:i<n2)
 (q:∀ x y h' tk,P1 i x→P2 i y→IsZip h' z TI TO (rawInt s.heap.objs.size)→IsPair h' TO x y→St1 (i+1) h'→St2 (i+1) h'→IsPair h' s.heap.objs.size x y→h'.objs.size=s.heap.objs.size+1 →
  (∀ c o,c≠z→c≠TO→c≠j1→c≠j2→s.heap.get? c=some o→h'.get? c=some o)→Q (some (.ref s.heap.objs.size)) { s with heap:=h',toks:=tk }) :
 wpAny (model prog w) A (pyNext (.ref z)) Q E s:=by
 have hT:s.TypeIs (.ref z) "zip":=⟨_,hz,rfl⟩
 unfold pyNext
 exact wpAny_bind (wpAny_attempt (wpAny_callSpecial?_slot (name:=Str.ofString "__next__") hT F.slot_zip_next (wpAny_call_entry F.slot_zip_next hT F.entry_zip_next
  (zipD_item D D1 D2 hz hI hO st1 st2 l1 l2 fun x y h' tk a1 a2 a3 a4 a5 a6 a7 a8 a9=>wpAny_pure (q x y h' tk a1 a2 a3 a4 a5 a6 a7 a8 a9)) (F.args_zip_next_1 _))))
theorem zipD_next_end {Q:Option Value→Shared→Prop}(D:ZApart z TI TO j1 j2 f1 f2) (D1:Draws prog w A.in1 j1 f1 n1 P1 St1) (D2:Draws prog w A.in1 j2 f2 n2 P2 St2) (hz:IsZip s.heap z TI TO .none) (hI:IsPair s.heap TI (.ref j1) (.ref j2)) (hO:IsPair s.heap TO a b)
 (st1:St1 i s.heap) (st2:St2 i s.heap) (hend:i=n1∨(i<n1∧i=n2))
 (q:∀ h' tk,(∀ c o,c≠z→c≠TO→c≠j1→c≠j2→s.heap.get? c=some o→h'.get? c=some o)→Q none { s with heap:=h',toks:=tk }):wpAny (model prog w) A (pyNext (.ref z)) Q E s:=by
 have hT:s.TypeIs (.ref z) "zip":=⟨_,hz,rfl⟩
 unfold pyNext
 refine wpAny_bind (wpAny_attempt (wpAny_callSpecial?_slot (name:=Str.ofString "__next__") hT F.slot_zip_next (wpAny_call_entry F.slot_zip_next hT F.entry_zip_next (zipD_end D D1 D2 hz hI hO st1 st2 hend fun h' e tk hk he=>?_) (F.args_zip_next_1 _))))
 obtain ⟨o,ho,hc⟩:=he
 refine wpAny_bind (wpAny_isInstance (T:="StopIteration") (b:=true) ⟨o,ho,hc⟩ isSubtype_stop ?_)
 exact wpAny_pure (q _ _ hk)
end
theorem call_zipK {prog:Program}{w:World}{A:Around}{E:Value→Shared→Prop}{s:Shared}(b b':Bool) {l m:Addr}{xs ys:Array Value}{Q:Value→Shared→Prop}(x1:SqAt b s.heap l xs) (x2:SqAt b' s.heap m ys)
 (q:∀ h',IsZip h' (s.heap.objs.size+4) (s.heap.objs.size+2) (s.heap.objs.size+3) .none→IsPair h' (s.heap.objs.size+2) (.ref s.heap.objs.size) (.ref (s.heap.objs.size+1)) →
  IsPair h' (s.heap.objs.size+3) .none .none→ItAt b h' s.heap.objs.size l 0→ItAt b' h' (s.heap.objs.size+1) m 0→h'.objs.size=s.heap.objs.size+5 →
  (∀ c o,s.heap.get? c=some o→h'.get? c=some o)→Q (.ref (s.heap.objs.size+4)) { s with heap:=h' }) :
 wpAny (model prog w) A (call (.type "zip") [.ref l,.ref m]) Q E s:=by
 refine callType_new F.called_zip (by decide) (F.typeCall_zip_2 _ _) (F.newCall_zip_2 _ _) (fun obj=>F.args_object_init_3 obj _ _) F.entry_zip_new (zip_new b b' l m xs ys) ⟨x1,x2,?_⟩
 have y1:(zz1 b s.heap l).objs.size=s.heap.objs.size+1:=Heap.size_push ..
 have y2:(zz2 b b' s.heap l m).objs.size=s.heap.objs.size+2:=by rw [Heap.size_push,y1]
 have y3:(zz3 b b' s.heap l m).objs.size=s.heap.objs.size+3:=by rw [Heap.size_push,y2]
 have y4:(zz4 b b' s.heap l m).objs.size=s.heap.objs.size+4:=by rw [Heap.size_push,y3]
 have y5:(zz5 b b' s.heap l m).objs.size=s.heap.objs.size+5:=by rw [Heap.size_push,y4]
 have fr:∀ b l,(itObj b l).isFreed=false:=fun b l=>by cases b<;>rfl
 have g5:(zz5 b b' s.heap l m).get? (zz4 b b' s.heap l m).objs.size=some _:=Heap.get?_push_size _ rfl
 have g4:(zz5 b b' s.heap l m).get? (zz3 b b' s.heap l m).objs.size=some _:=Heap.get?_push_of_some _ (Heap.get?_push_size _ rfl)
 have g3:(zz5 b b' s.heap l m).get? (zz2 b b' s.heap l m).objs.size=some _:=Heap.get?_push_of_some _ (Heap.get?_push_of_some _ (Heap.get?_push_size _ rfl))
 have g2:(zz5 b b' s.heap l m).get? (zz1 b s.heap l).objs.size=some _:=Heap.get?_push_of_some _ (Heap.get?_push_of_some _ (Heap.get?_push_of_some _ (Heap.get?_push_size _ (fr b' m))))
 have g1:(zz5 b b' s.heap l m).get? s.heap.objs.size=some _:=Heap.get?_push_of_some _ (Heap.get?_push_of_some _ (Heap.get?_push_of_some _ (Heap.get?_push_of_some _ (Heap.get?_push_size _ (fr b l)))))
 show _∧_
 rw [y2,y3,y4] at g5;rw [y1,y2] at g3;rw [y3] at g4;rw [y1] at g2;rw [y4]
 exact ⟨⟨_,g5,rfl⟩,q _ g5 g3 g4 (itObj_at g1) (itObj_at g2) y5 fun c o x=>Heap.get?_push_of_some _ (Heap.get?_push_of_some _ (Heap.get?_push_of_some _ (Heap.get?_push_of_some _ (Heap.get?_push_of_some _ x))))⟩
noncomputable def SqK (b:Bool) (K:PySem.W.Frag) (H:Hp) (a:Addr) (xs:List V):Prop:=match b with | true=>SqT K H a xs | false=>SqL K H a xs
section
variable {X:Cx}{pins:List (Addr×Obj)}{σ:St}{H:Hp}{s:Shared}{a c:Addr}{xs ys:List V}{b:Bool}{h':Heap}
theorem Inv.seqK (I:Inv X pins σ H s) (h:SqK b X.K H a xs):∃ its:List Value,Vals xs its∧SqAt b s.heap a its.toArray∧xs.length≤sizeLine:=by
 cases b with
 | true=>exact let ⟨its,r,p,z⟩:=I.tuple h;⟨its,r,p,z⟩
 | false=>exact let ⟨its,r,p,z⟩:=I.list h;⟨its,r,p.isList,z⟩
theorem Inv.seqK_inj (I:Inv X pins σ H s) (h:SqK b X.K H a xs) (h':SqK b X.K H a ys):xs=ys:=by
 cases b with
 | true=>exact I.tuple_inj h h'
 | false=>exact I.list_inj h h'
theorem SqK.kp {K:PySem.W.Frag}{H':Hp}(h:SqK b K H a xs) (k:Kp [] H H'):SqK b K H' a xs:=by
 cases b with
 | true=>
  rcases h with (q | ⟨o,q⟩) | q
  · exact .inl (.inl (k _ _ q (by first | exact mm0 | exact mm1 | exact mm2 | exact mm3 | exact mm4 | exact mm5 | simp)))
  · exact .inl (.inr ⟨o,k _ _ q (by first | exact mm0 | exact mm1 | exact mm2 | exact mm3 | exact mm4 | exact mm5 | simp)⟩)
  · exact .inr q
 | false=>
  rcases h with (q | ⟨o,q⟩) | q
  · exact .inl (.inl (k _ _ q (by first | exact mm0 | exact mm1 | exact mm2 | exact mm3 | exact mm4 | exact mm5 | simp)))
  · exact .inl (.inr ⟨o,k _ _ q (by first | exact mm0 | exact mm1 | exact mm2 | exact mm3 | exact mm4 | exact mm5 | simp)⟩)
  · exact .inr q
theorem Inv.seqK_ne (I:Inv X pins σ H s) (h:SqK b X.K H a xs) (f:FpOk X pins H c):a≠c:=by
 have base:∀ o,X.K.lookup a=some o→a≠c:=fun o hk e=>by
  have e1:=I.ok.mod.kin a o hk
  rcases f.2.2.2.1 with z | z
  · exact I.ok.noex a o e1 (e▸z)
  · exact absurd (Nat.lt_of_lt_of_le (Heap.lt_size e1) (Nat.le_trans I.ok.bsz (e▸z))) (Nat.lt_irrefl _)
 cases b with
 | true=>
  rcases h with (q | ⟨o,q⟩) | ⟨o,_,_,hk,_⟩
  · exact ne_of_none q f.1
  · exact ne_of_none q f.1
  · exact base o hk
 | false=>
  rcases h with (q | ⟨o,q⟩) | ⟨o,_,_,hk,_⟩
  · exact ne_of_none q f.1
  · exact ne_of_none q f.1
  · exact base o hk
theorem Inv.turnedL {t':Nat}{fp:List Addr}(I:Inv X pins σ H s) (k:∀ b o,b∉fp→s.heap.get? b=some o→h'.get? b=some o) (hf:∀ b∈fp,FpOk X pins H b):Inv X pins σ H { s with heap:=h',toks:=t' }:=by
 refine I.step (g':=s.gens) (d':=s.drawn) (ch:=fp) (fun b hb=>⟨(hf b hb).2.2.2.1,(hf b hb).2.1,(hf b hb).2.2.2.2.1,(hf b hb).2.2.2.2.2⟩) (fun b o _ _ hc e _=>k b o hc e) (fun b o _ _ hc e _=>⟨o.slots,k b o hc e⟩) (fun _ _ _ _ n=>n)
  (fun b o hc e=>⟨o,k b o hc e⟩) (fun _ _ e=>e) (fun _ _ _ e=>e) (fun b ps e=>⟨#[],by rw [e];simp⟩) (fun m hm=>?_) (fun b u e=>?_) I.bare
 · obtain ⟨o,es,ep,ho,r⟩:=hm
   exact ⟨o,es,ep,k _ o (fun z=>(hf _ z).2.1 rfl) ho,r⟩
 · refine (I.hok b u e).stay (fun c v hc q=>k c v (fun z=>?_) q) (fun _ q=>q) fun _ _ q=>q
   have hn:=(hf c z).1
   rcases hc with hc | hc
   · rw [hc,e] at hn;cases hn
   · rw [hc] at hn;cases hn
theorem Inv.turnLay {t':Nat}{fp:List Addr}{p:Addr}{o:HO}(I:Inv X pins σ H s) (k:∀ b o,b∉fp→s.heap.get? b=some o→h'.get? b=some o) (hf:∀ b∈fp,FpOk X pins H b)
 (hp:s.heap.objs.size≤p) (new:ObjOk X.prog X.w (upd H p o) h' p o):Inv X pins σ (upd H p o) { s with heap:=h',toks:=t' }:=by
 have hn:=I.hok.fresh hp
 refine I.step (g':=s.gens) (d':=s.drawn) (ch:=fp) (fun b hb=>⟨(hf b hb).2.2.2.1,(hf b hb).2.1,(hf b hb).2.2.2.2.1,(hf b hb).2.2.2.2.2⟩) (fun b o _ _ hc e _=>k b o hc e) (fun b o _ _ hc e _=>⟨o.slots,k b o hc e⟩) (fun b ob _ e n=>?_)
  (fun b o hc e=>⟨o,k b o hc e⟩) (fun b xs e=>?_) (fun b _ _ e=>?_) (fun b ps e=>⟨#[],?_⟩) (fun m hm=>?_) (fun b u e=>?_) I.bare
 · have hbp:b≠p:=Nat.ne_of_lt (Nat.lt_of_lt_of_le (Heap.lt_size e) hp);rw [upd_ne hbp];exact n
 · rw [upd_ne (ne_of_none e hn)];exact e
 · rw [upd_ne (ne_of_none e hn)];exact e
 · rw [upd_ne (ne_of_none e hn)];simpa using e
 · obtain ⟨o,es,ep,ho,r⟩:=hm
   exact ⟨o,es,ep,k _ o (fun z=>(hf _ z).2.1 rfl) ho,r⟩
 · by_cases hb:b=p
   · subst hb
     rw [upd_same] at e;cases e
     exact new
   · rw [upd_ne hb] at e
     refine (I.hok b u e).stay (fun c v hc q=>k c v (fun z=>?_) q) (fun c q=>by rw [upd_ne (ne_of_none q hn)];exact q) fun c _ q=>by rw [upd_ne (ne_of_none q hn)];exact q
     have hn:=(hf c z).1
     rcases hc with hc | hc
     · rw [hc,e] at hn;cases hn
     · rw [hc] at hn;cases hn
end
noncomputable def Ite (b:Bool) (K:PySem.W.Frag) (a:Addr):It:=
 ⟨fun i H=>∃ xs x,SqK b K H a xs∧xs[i]? = some x,fun i H v H'=>∃ p y,H p=none∧H'=upd H p (.tup [.int i,y])∧v = .ref p∧∀ xs,SqK b K H a xs→xs[i]? = some y,fun i H=>∃ xs,SqK b K H a xs∧xs.length=i⟩
noncomputable def Itz (b b':Bool) (K:PySem.W.Frag) (a c:Addr):It:=
 ⟨fun i H=>∃ xs ys x y,SqK b K H a xs∧SqK b' K H c ys∧xs[i]? = some x∧ys[i]? = some y,fun i H v H'=>∃ p x y,H p=none∧H'=upd H p (.tup [x,y])∧v = .ref p∧(∀ xs,SqK b K H a xs→xs[i]? = some x)∧∀ ys,SqK b' K H c ys→ys[i]? = some y,
  fun i H=>∃ xs ys,SqK b K H a xs∧SqK b' K H c ys∧min xs.length ys.length=i⟩
theorem turn_enum {P:Program}{w:World}{K:PySem.W.Frag}{es:List Expr}{kk:Nat}{tp:Pos}(b:Bool) (a e j:Addr) (hej:e≠j):Turn P w K (.Tuple es kk tp) (Ite b K a) [e,j] e (fun i h=>(∃ old,IsEnum h e j i old)∧ItAt b h j a i) where
 mem:=by simp
 obj:=fun i h st c hc=>by
  obtain ⟨⟨old,he⟩,hj⟩:=st
  rcases List.mem_cons.mp hc with rfl | hc
  · exact ⟨_,he,fun v z=>by have z':Data.fields _=Data.cell v:=z;cases z'⟩
  · rw [List.mem_singleton.mp hc];exact hj.obj
 keep:=fun i h h' st k=>by
  obtain ⟨⟨old,he⟩,hj⟩:=st
  exact ⟨⟨old,k e (by first | exact mm0 | exact mm1 | exact mm2 | exact mm3 | exact mm4 | exact mm5 | simp) _ he⟩,hj.at fun o q=>k j (by first | exact mm0 | exact mm1 | exact mm2 | exact mm3 | exact mm4 | exact mm5 | simp) o q⟩
 item:=by
  intro X hP hw hK hc i pins s σ H E I hf st hg
  subst hP hw hK
  obtain ⟨xs,x,hq,hx⟩:=hg
  obtain ⟨its,rv,p,hz⟩:=I.seqK hq
  obtain ⟨u,hu,ru⟩:=rv.get hx
  obtain ⟨⟨old,he⟩,hj⟩:=st
  have nae:=I.seqK_ne hq (hf e (by first | exact mm0 | exact mm1 | exact mm2 | exact mm3 | exact mm4 | exact mm5 | simp))
  have naj:=I.seqK_ne hq (hf j (by first | exact mm0 | exact mm1 | exact mm2 | exact mm3 | exact mm4 | exact mm5 | simp))
  have hlt:i<its.toArray.size:=by
   have:=(List.getElem?_eq_some_iff.mp hu).1
   simpa using this
  refine wpAny_pyNext_enum_itemD (draws_of b (A:=X.A.in1) (I.ok.hd hc) j a naj its.toArray) he ⟨hj,p⟩ hlt hej (by simp;exact ⟨hej,Ne.symm nae⟩) fun y h1 tk hP ho st1 hT hsz hk=>?_
  have ey:y=u:=by
   have hP:its.toArray[i]? = some y:=hP
   have:its[i]? = some y:=by simpa using hP
   rw [hu] at this;exact (Option.some.inj this).symm
  subst ey
  refine ⟨_,rfl,wpAny_letOwnedTupleGo_enum ho fun h2 he2 hs2=>?_⟩
  replace hs2:Heap.SameBut e h1 h2:=hs2
  have hes:e<s.heap.objs.size:=Heap.lt_size he
  have hjs:j<s.heap.objs.size:=by obtain ⟨o,q,_⟩:=hj.obj;exact Heap.lt_size q
  have kk:∀ c o,c∉[e,j]→s.heap.get? c=some o→h2.get? c=some o:=fun c o hc q=>by
   have h1':c≠e:=fun z=>hc (by simp [z])
   exact hs2.extBut _ _ h1' (hk c o h1' (fun z=>hc (by simp [z])) q)
  refine ⟨.ref s.heap.objs.size,upd H s.heap.objs.size (.tup [.int i,x]),I.turnLay (t':=tk+1) kk hf (Nat.le_refl _) ?_,rfl,⟨_,x,I.hok.fresh (Nat.le_refl _),rfl,rfl,fun ys hy=>by rw [I.seqK_inj hy hq];exact hx⟩,⟨⟨y,by simpa using he2⟩,st1.1.at fun o q=>hs2.extBut _ _ (Ne.symm hej) q⟩,fun c hc=>?_⟩
  · exact ⟨by simp [sizeLine_eq],[.int i tk,y],.cons ⟨tk,rfl⟩ (.cons ru .nil),_,hs2.extBut _ _ (Nat.ne_of_gt hes) hT,rfl,0,rfl⟩
  · rw [upd_ne]
    · exact (hf c hc).1
    · rcases List.mem_cons.mp hc with rfl | hc
      · exact Nat.ne_of_lt hes
      · rw [List.mem_singleton.mp hc];exact Nat.ne_of_lt hjs
 done:=by
  intro X hP hw hK hc i pins s σ H E I hf st hg
  subst hP hw hK
  obtain ⟨xs,hq,hx⟩:=hg
  obtain ⟨its,rv,p,hz⟩:=I.seqK hq
  obtain ⟨⟨old,he⟩,hj⟩:=st
  have naj:=I.seqK_ne hq (hf j (by first | exact mm0 | exact mm1 | exact mm2 | exact mm3 | exact mm4 | exact mm5 | simp))
  have hl:=rv.length
  have hn:its.toArray.size=i:=by simp;omega
  refine wpAny_pyNext_enum_endD (draws_of b (A:=X.A.in1) (I.ok.hd hc) j a naj its.toArray) he (by rw [hn];exact ⟨hj,p⟩) fun h1 hk=>⟨rfl,?_⟩
  exact I.turnedL (t':=s.toks) (fun c o hc q=>hk c o (fun z=>hc (by simp [z])) q) hf
 self:=fun _ _ _ _ _ st q=>by
  obtain ⟨⟨old,he⟩,_⟩:=st
  exact wpAny_pyIter_enum he q
theorem turn_zip {P:Program}{w:World}{K:PySem.W.Frag}{es:List Expr}{kk:Nat}{tp:Pos}(b b':Bool) (a c z TI TO j1 j2:Addr) (dz:[z,TI,TO,j1,j2].Nodup) :
 Turn P w K (.Tuple es kk tp) (Itz b b' K a c) [z,TI,TO,j1,j2] z (fun i h=>IsZip h z TI TO .none∧IsPair h TI (.ref j1) (.ref j2)∧(∃ u v,IsPair h TO u v)∧ItAt b h j1 a i∧ItAt b' h j2 c i) where
 mem:=by simp
 obj:=fun i h st d hd=>by
  obtain ⟨hz,hI,⟨u,v,hO⟩,h1,h2⟩:=st
  have notup:∀ (o:Obj) {w:Value} {vs:Array Value} {n:Nat},o.data = .seq vs n→o.data≠.cell w:=fun o w vs n e z=>by rw [e] at z;cases z
  rcases List.mem_cons.mp hd with rfl | hd
  · exact ⟨_,hz,fun v z=>by have z':Data.fields _=Data.cell v:=z;cases z'⟩
  · rcases List.mem_cons.mp hd with rfl | hd
    · exact ⟨_,hI,fun w z=>by have z':Data.seq _ _=Data.cell w:=z;cases z'⟩
    · rcases List.mem_cons.mp hd with rfl | hd
      · exact ⟨_,hO,fun w z=>by have z':Data.seq _ _=Data.cell w:=z;cases z'⟩
      · rcases List.mem_cons.mp hd with rfl | hd
        · exact h1.obj
        · rw [List.mem_singleton.mp hd];exact h2.obj
 keep:=fun i h h' st k=>by
  obtain ⟨hz,hI,⟨u,v,hO⟩,h1,h2⟩:=st
  exact ⟨k z (by first | exact mm0 | exact mm1 | exact mm2 | exact mm3 | exact mm4 | exact mm5 | simp) _ hz,k TI (by first | exact mm0 | exact mm1 | exact mm2 | exact mm3 | exact mm4 | exact mm5 | simp) _ hI,⟨u,v,k TO (by first | exact mm0 | exact mm1 | exact mm2 | exact mm3 | exact mm4 | exact mm5 | simp) _ hO⟩,h1.at fun o q=>k j1 (by first | exact mm0 | exact mm1 | exact mm2 | exact mm3 | exact mm4 | exact mm5 | simp) o q,h2.at fun o q=>k j2 (by first | exact mm0 | exact mm1 | exact mm2 | exact mm3 | exact mm4 | exact mm5 | simp) o q⟩
 item:=by
  intro X hP hw hK hc i pins s σ H E I hf st hg
  subst hP hw hK
  obtain ⟨xs,ys,x,y,hq,hq',hx,hy⟩:=hg
  obtain ⟨its,rv,p,_⟩:=I.seqK hq
  obtain ⟨its',rv',p',_⟩:=I.seqK hq'
  obtain ⟨u,hu,ru⟩:=rv.get hx
  obtain ⟨u',hu',ru'⟩:=rv'.get hy
  obtain ⟨hz,hI,⟨o1,o2,hO⟩,h1,h2⟩:=st
  have na:=fun d hd=>I.seqK_ne hq (hf d hd)
  have na':=fun d hd=>I.seqK_ne hq' (hf d hd)
  simp only [List.nodup_cons,List.mem_cons,List.not_mem_nil,or_false,not_or] at dz
  obtain ⟨⟨d1,d2,d3,d4⟩,⟨d5,d6,d7⟩,⟨d8,d9⟩,d10,_⟩:=dz
  have hlt:i<its.toArray.size:=by have:=(List.getElem?_eq_some_iff.mp hu).1;simpa using this
  have hlt':i<its'.toArray.size:=by have:=(List.getElem?_eq_some_iff.mp hu').1;simpa using this
  have D:ZApart z TI TO j1 j2 [j1,a] [j2,c]:=⟨by simp,by simp,by simp;exact ⟨d3,Ne.symm (na z (by first | exact mm0 | exact mm1 | exact mm2 | exact mm3 | exact mm4 | exact mm5 | simp))⟩,by simp;exact ⟨d4,Ne.symm (na' z (by first | exact mm0 | exact mm1 | exact mm2 | exact mm3 | exact mm4 | exact mm5 | simp))⟩,by simp;exact ⟨d8,Ne.symm (na TO (by first | exact mm0 | exact mm1 | exact mm2 | exact mm3 | exact mm4 | exact mm5 | simp))⟩,by simp;exact ⟨d9,Ne.symm (na' TO (by first | exact mm0 | exact mm1 | exact mm2 | exact mm3 | exact mm4 | exact mm5 | simp))⟩,
   by simp;exact ⟨d10,Ne.symm (na' j1 (by first | exact mm0 | exact mm1 | exact mm2 | exact mm3 | exact mm4 | exact mm5 | simp))⟩,by simp;exact ⟨Ne.symm d10,Ne.symm (na j2 (by first | exact mm0 | exact mm1 | exact mm2 | exact mm3 | exact mm4 | exact mm5 | simp))⟩,Ne.symm d1,d5,d6,d7,Ne.symm d2⟩
  refine zipD_next_item D (draws_of b (A:=X.A.in1) (I.ok.hd hc) j1 a (na j1 (by first | exact mm0 | exact mm1 | exact mm2 | exact mm3 | exact mm4 | exact mm5 | simp)) its.toArray) (draws_of b' (A:=X.A.in1) (I.ok.hd hc) j2 c (na' j2 (by first | exact mm0 | exact mm1 | exact mm2 | exact mm3 | exact mm4 | exact mm5 | simp)) its'.toArray) hz hI hO ⟨h1,p⟩ ⟨h2,p'⟩ hlt hlt' fun v v' g1 tk e1 e2 z1 O1 s1 s2 T1 sz1 k1=>?_
  have ev:v=u:=by
   have e1:its.toArray[i]? = some v:=e1
   have:its[i]? = some v:=by simpa using e1
   rw [hu] at this;exact (Option.some.inj this).symm
  have ev':v'=u':=by
   have e2:its'.toArray[i]? = some v':=e2
   have:its'[i]? = some v':=by simpa using e2
   rw [hu'] at this;exact (Option.some.inj this).symm
  subst ev ev'
  refine ⟨_,rfl,wpAny_letOwnedTupleGo_zip z1 fun g2 z2 b2=>?_⟩
  replace b2:Heap.SameBut z g1 g2:=b2
  have hzs:z<s.heap.objs.size:=Heap.lt_size hz
  have kk:∀ d o,d∉[z,TI,TO,j1,j2]→s.heap.get? d=some o→g2.get? d=some o:=fun d o hd q=>by
   have h1':d≠z:=(by first | exact mn0 hd | exact mn1 hd | exact mn2 hd | exact mn3 hd | exact mn4 hd | exact mn5 hd)
   exact b2.extBut _ _ h1' (k1 d o h1' (by first | exact mn0 hd | exact mn1 hd | exact mn2 hd | exact mn3 hd | exact mn4 hd | exact mn5 hd) (by first | exact mn0 hd | exact mn1 hd | exact mn2 hd | exact mn3 hd | exact mn4 hd | exact mn5 hd) (by first | exact mn0 hd | exact mn1 hd | exact mn2 hd | exact mn3 hd | exact mn4 hd | exact mn5 hd) q)
  refine ⟨.ref s.heap.objs.size,upd H s.heap.objs.size (.tup [x,y]),I.turnLay (t':=tk) kk hf (Nat.le_refl _) ?_,rfl,⟨_,x,y,I.hok.fresh (Nat.le_refl _),rfl,rfl,fun zs hy=>by rw [I.seqK_inj hy hq];exact hx,fun zs hy'=>by rw [I.seqK_inj hy' hq'];exact hy⟩,
   ⟨z2,b2.extBut _ _ (Ne.symm d1) (k1 _ _ (Ne.symm d1) d5 d6 d7 hI),⟨_,_,b2.extBut _ _ (Ne.symm d2) O1⟩,s1.1.at fun o q=>b2.extBut _ _ (Ne.symm d3) q,s2.1.at fun o q=>b2.extBut _ _ (Ne.symm d4) q⟩,fun d hd=>?_⟩
  · exact ⟨by simp [sizeLine_eq],[v,v'],.cons ru (.cons ru' .nil),_,b2.extBut _ _ (Nat.ne_of_gt hzs) T1,rfl,0,rfl⟩
  · have lt:d<s.heap.objs.size:=by
     rcases List.mem_cons.mp hd with rfl | hd
     · exact hzs
     · rcases List.mem_cons.mp hd with rfl | hd
       · exact Heap.lt_size hI
       · rcases List.mem_cons.mp hd with rfl | hd
         · exact Heap.lt_size hO
         · rcases List.mem_cons.mp hd with rfl | hd
           · obtain ⟨o,q,_⟩:=h1.obj;exact Heap.lt_size q
           · rw [List.mem_singleton.mp hd];obtain ⟨o,q,_⟩:=h2.obj;exact Heap.lt_size q
    rw [upd_ne (Nat.ne_of_lt lt)]
    exact (hf d hd).1
 done:=by
  intro X hP hw hK hc i pins s σ H E I hf st hg
  subst hP hw hK
  obtain ⟨xs,ys,hq,hq',hm⟩:=hg
  obtain ⟨its,rv,p,_⟩:=I.seqK hq
  obtain ⟨its',rv',p',_⟩:=I.seqK hq'
  obtain ⟨hz,hI,⟨o1,o2,hO⟩,h1,h2⟩:=st
  have na:=fun d hd=>I.seqK_ne hq (hf d hd)
  have na':=fun d hd=>I.seqK_ne hq' (hf d hd)
  simp only [List.nodup_cons,List.mem_cons,List.not_mem_nil,or_false,not_or] at dz
  obtain ⟨⟨d1,d2,d3,d4⟩,⟨d5,d6,d7⟩,⟨d8,d9⟩,d10,_⟩:=dz
  have D:ZApart z TI TO j1 j2 [j1,a] [j2,c]:=⟨by simp,by simp,by simp;exact ⟨d3,Ne.symm (na z (by first | exact mm0 | exact mm1 | exact mm2 | exact mm3 | exact mm4 | exact mm5 | simp))⟩,by simp;exact ⟨d4,Ne.symm (na' z (by first | exact mm0 | exact mm1 | exact mm2 | exact mm3 | exact mm4 | exact mm5 | simp))⟩,by simp;exact ⟨d8,Ne.symm (na TO (by first | exact mm0 | exact mm1 | exact mm2 | exact mm3 | exact mm4 | exact mm5 | simp))⟩,by simp;exact ⟨d9,Ne.symm (na' TO (by first | exact mm0 | exact mm1 | exact mm2 | exact mm3 | exact mm4 | exact mm5 | simp))⟩,
   by simp;exact ⟨d10,Ne.symm (na' j1 (by first | exact mm0 | exact mm1 | exact mm2 | exact mm3 | exact mm4 | exact mm5 | simp))⟩,by simp;exact ⟨Ne.symm d10,Ne.symm (na j2 (by first | exact mm0 | exact mm1 | exact mm2 | exact mm3 | exact mm4 | exact mm5 | simp))⟩,Ne.symm d1,d5,d6,d7,Ne.symm d2⟩
  have hl:=rv.length
  have hl':=rv'.length
  refine zipD_next_end D (draws_of b (A:=X.A.in1) (I.ok.hd hc) j1 a (na j1 (by first | exact mm0 | exact mm1 | exact mm2 | exact mm3 | exact mm4 | exact mm5 | simp)) its.toArray) (draws_of b' (A:=X.A.in1) (I.ok.hd hc) j2 c (na' j2 (by first | exact mm0 | exact mm1 | exact mm2 | exact mm3 | exact mm4 | exact mm5 | simp)) its'.toArray) hz hI hO ⟨h1,p⟩ ⟨h2,p'⟩ (by simp;omega) fun g1 tk k1=>⟨rfl,?_⟩
  exact I.turnedL (t':=tk) (fun d o hd q=>k1 d o (by first | exact mn0 hd | exact mn1 hd | exact mn2 hd | exact mn3 hd | exact mn4 hd | exact mn5 hd) (by first | exact mn0 hd | exact mn1 hd | exact mn2 hd | exact mn3 hd | exact mn4 hd | exact mn5 hd) (by first | exact mn0 hd | exact mn1 hd | exact mn2 hd | exact mn3 hd | exact mn4 hd | exact mn5 hd) (by first | exact mn0 hd | exact mn1 hd | exact mn2 hd | exact mn3 hd | exact mn4 hd | exact mn5 hd) q) hf
 self:=fun _ _ _ _ _ st q=>wpAny_pyIter_zip st.1 q
section
variable {X:Cx}{es:List Expr}{kk:Nat}{tp:Pos}
noncomputable def iEnum (K:PySem.W.Frag) (ta:TA):TI:=fun σ H R=>ta σ H fun vs H1=>∃ b l xs,vs=[.ref l]∧SqK b K H1 l xs∧R (Ite b K l) H1
noncomputable def iZip (K:PySem.W.Frag) (ta:TA):TI:=fun σ H R=>ta σ H fun vs H1=>∃ b b' l m xs ys,vs=[.ref l,.ref m]∧SqK b K H1 l xs∧SqK b' K H1 m ys∧R (Itz b b' K l m) H1
theorem pi_enum {a:Expr}{ta:TA}{p pos:Pos}(hg:Gl X "enumerate") (hm:X.mg "enumerate" = none) (ha:PA X [a] ta) (hs:starEach [a] X.env=[(false,eval a X.env)]:=by rfl):PI X (.Tuple es kk tp) (.Call (.Name "enumerate" p) [a] [] pos) (iEnum X.K ta):=by
 intro pins s σ H R I h
 refine Call_ (ld_blt I hg hm boot_enumerate (PyProof.Rows.callWith_type1 (thn (ha pos pins s σ H _ I h) fun us s1 ⟨vs,H1,I1,r1,q1⟩=>?_) hs rfl))
 obtain ⟨b,l,xs,e,hq,q⟩:=q1
 subst e
 obtain ⟨u,rfl,ru⟩:=vals1 r1
 cases ru
 obtain ⟨its,rv,p,_⟩:=I1.seqK hq
 refine call_enum b p fun h1 he hj hsz hk=>wpAny_pyIter_enum he ?_
 refine ⟨_,[s1.heap.objs.size+1,s1.heap.objs.size],_,_,H1,rfl,I1.kept (t':=s1.toks) hk,turn_enum b l _ _ (Nat.succ_ne_self _),⟨⟨_,he⟩,hj⟩,fun c hc=>?_,q⟩
 rcases List.mem_cons.mp hc with rfl | hc
 · exact I1.fpOk (Nat.le_succ _) (I1.hok.fresh (Nat.le_succ _))
 · rw [List.mem_singleton.mp hc];exact I1.fpOk (Nat.le_refl _) (I1.hok.fresh (Nat.le_refl _))
theorem pi_zip {a b:Expr}{ta:TA}{p pos:Pos}(hg:Gl X "zip") (hm:X.mg "zip" = none) (ha:PA X [a,b] ta) (hs:starEach [a,b] X.env=[(false,eval a X.env),(false,eval b X.env)]:=by rfl) (hs2:starEach [b] X.env=[(false,eval b X.env)]:=by rfl) :
 PI X (.Tuple es kk tp) (.Call (.Name "zip" p) [a,b] [] pos) (iZip X.K ta):=by
 intro pins s σ H R I h
 refine Call_ (ld_blt I hg hm boot_zip (PyProof.Rows.callWith_type1 (thn (ha pos pins s σ H _ I h) fun us s1 ⟨vs,H1,I1,r1,q1⟩=>?_) (by rw [hs,hs2]) (by rw [hs2];rfl)))
 obtain ⟨b,b',l,m,xs,ys,e,hq,hq',q⟩:=q1
 subst e
 obtain ⟨u,u',rfl,ru,ru'⟩:=vals2 r1
 cases ru
 cases ru'
 obtain ⟨its,rv,p,_⟩:=I1.seqK hq
 obtain ⟨its',rv',p',_⟩:=I1.seqK hq'
 refine call_zipK b b' p p' fun h1 hz hI hO i1 i2 hsz hk=>wpAny_pyIter_zip hz ?_
 refine ⟨_,[s1.heap.objs.size+4,s1.heap.objs.size+2,s1.heap.objs.size+3,s1.heap.objs.size,s1.heap.objs.size+1],_,_,H1,rfl,I1.kept (t':=s1.toks) hk,turn_zip b b' l m _ _ _ _ _ (by first | exact mm0 | exact mm1 | exact mm2 | exact mm3 | exact mm4 | exact mm5 | simp),⟨hz,hI,⟨_,_,hO⟩,i1,i2⟩,fun c hc=>?_,q⟩
 have hc':s1.heap.objs.size≤c:=by
  simp only [List.mem_cons,List.not_mem_nil,or_false] at hc
  rcases hc with rfl | rfl | rfl | rfl | rfl
  · exact Nat.le_add_right _ _
  · exact Nat.le_add_right _ _
  · exact Nat.le_add_right _ _
  · exact Nat.le_refl _
  · exact Nat.le_add_right _ _
 exact I1.fpOk hc' (I1.hok.fresh hc')
end
noncomputable abbrev gTwo (K:PySem.W.Frag):TG:=gTup K 2 (gCons (gName 0) (gCons (gName 1) gNil))
section
variable {X:Cx}{pos:Pos}{k:Nat}
noncomputable abbrev Sto (X:Cx) (i:Nat) (x:Str):Prop:=X.N[i]? = some x∧Loc X.env.scope x∧(X.fn x=true∨X.env.scope.names.lookup x=some .local)
theorem pg_pair {K':PySem.W.Frag}{i j:Nat}{x y:Str}{px py:Pos}(hc:X.calm=true) (hN:X.N.Nodup) (hx:Sto X i x) (hy:Sto X j y) (hK:X.K=K'):PG X (.Tuple [.Name x px,.Name y py] k pos) (gTup K' 2 (gCons (gName i) (gCons (gName j) gNil))):=
 hK▸pg_tup hc (pgs_cons (pg_name hN hx.1 hx.2.1 hx.2.2) (pgs_cons (pg_name hN hy.1 hy.2.1 hy.2.2) pgs_nil))
theorem pg_trio {K':PySem.W.Frag}{i j m:Nat}{x y z:Str}{px py pz:Pos}(hc:X.calm=true) (hN:X.N.Nodup) (hx:Sto X i x) (hy:Sto X j y) (hz:Sto X m z) (hK:X.K=K'):PG X (.Tuple [.Name x px,.Name y py,.Name z pz] k pos) (gTup K' 3 (gCons (gName i) (gCons (gName j) (gCons (gName m) gNil)))):=
 hK▸pg_tup hc (pgs_cons (pg_name hN hx.1 hx.2.1 hx.2.2) (pgs_cons (pg_name hN hy.1 hy.2.1 hy.2.2) (pgs_cons (pg_name hN hz.1 hz.2.1 hz.2.2) pgs_nil)))
end
noncomputable def CW2 (n:Nat) (l:Addr) (fr:St) (Pv:Nat→List V→Hp→Prop) (i m:Nat) (σ:St) (H:Hp):Prop:=i≤n∧m=n-i∧∃ o o' ys,σ = o::o'::fr∧H l=some (.lst ys)∧Pv i ys H
noncomputable def CNext2 (n:Nat) (l:Addr) (fr:St) (Pv:Nat→List V→Hp→Prop) (i:Nat) (x x':V):VK:=fun y H4=>
 ∃ xs,H4 l=some (.lst xs)∧xs.length<sizeLine∧∃ m',m'<n-i∧CW2 n l fr Pv (i+1) m' (some x::some x'::fr) (upd H4 l (.lst (xs++[y])))
noncomputable def CSkip2 (n:Nat) (l:Addr) (fr:St) (Pv:Nat→List V→Hp→Prop) (i:Nat) (x x':V) (H3:Hp):Prop:=∃ m',m'<n-i∧CW2 n l fr Pv (i+1) m' (some x::some x'::fr) H3
theorem CNext2.intro {n:Nat}{l:Addr}{fr:St}{Pv:Nat→List V→Hp→Prop}{i:Nat}{x x' y:V}{H4:Hp}{ys:List V}(hi:i<n) (h1:H4 l=some (.lst ys)) (h2:ys.length<sizeLine) (h3:Pv (i+1) (ys++[y]) (upd H4 l (.lst (ys++[y])))):CNext2 n l fr Pv i x x' y H4:=
 ⟨ys,h1,h2,n-(i+1),by omega,by omega,rfl,_,_,_,rfl,upd_same,h3⟩
theorem CSkip2.intro {n:Nat}{l:Addr}{fr:St}{Pv:Nat→List V→Hp→Prop}{i:Nat}{x x':V}{H3:Hp}{ys:List V}(hi:i<n) (h1:H3 l=some (.lst ys)) (h3:Pv (i+1) ys H3):CSkip2 n l fr Pv i x x' H3:=
 ⟨n-(i+1),by omega,by omega,rfl,_,_,_,rfl,h1,h3⟩
theorem comp2 {K:PySem.W.Frag}{J:It}{tt:TT}{te:TE}{l:Addr}{fr:St}{o0 o1:Option V}{H0:Hp}{Q:Hp→Prop}(n:Nat) (Pv:Nat→List V→Hp→Prop) (h0:Pv 0 [] H0) (hl0:H0 l=some (.lst []))
 (hgo:∀ i H ys,i<n→Pv i ys H→H l=some (.lst ys)→J.go i H) (hstop:∀ H ys,Pv n ys H→H l=some (.lst ys)→J.stop n H)
 (step:∀ i H ys v H',i<n→Pv i ys H→H l=some (.lst ys)→J.yld i H v H'→∃ a x x',v = .ref a∧SqT K H' a [x,x']∧tt (some x::some x'::fr) H' fun c H3=>
  if c=true then te (some x::some x'::fr) H3 (CNext2 n l fr Pv i x x') else CSkip2 n l fr Pv i x x' H3)
 (fin:∀ H ys,Pv n ys H→H l=some (.lst ys)→Q H) :
 cTurns J (gTwo K) tt te l (o0::o1::fr) H0 Q:=by
 refine ⟨CW2 n l fr Pv,⟨n,Nat.zero_le _,rfl,o0,o1,[],rfl,hl0,h0⟩,?_⟩
 rintro i m σ H ⟨hi,rfl,o,o',ys,rfl,hl,hp⟩
 rcases Nat.lt_or_ge i n with h | h
 · refine .inr ⟨hgo i H ys h hp hl,fun v H' y=>?_⟩
   obtain ⟨a,x,x',rfl,hq,st⟩:=step i H ys v H' h hp hl y
   exact ⟨a,[x,x'],rfl,hq,rfl,_,_,rfl,_,_,rfl,rfl,st⟩
 · have e:i=n:=by omega
   subst e
   exact .inl ⟨hstop H ys hp hl,fin H ys hp hl⟩
noncomputable def CPureF (H1:Hp) (ft:Nat→Bool) (fe:Nat→V) (i:Nat) (ys:List V) (H:Hp):Prop:=Kp [] H1 H∧ys=((List.range i).filter ft).map fe
theorem filt_yes {ft:Nat→Bool}{fe:Nat→V}{i:Nat}(h:ft i=true):((List.range (i+1)).filter ft).map fe=((List.range i).filter ft).map fe++[fe i]:=by
 rw [List.range_succ,List.filter_append,List.map_append];simp [h]
theorem filt_no {ft:Nat→Bool}{fe:Nat→V}{i:Nat}(h:ft i=false):((List.range (i+1)).filter ft).map fe=((List.range i).filter ft).map fe:=by
 rw [List.range_succ,List.filter_append,List.map_append];simp [h]
theorem filt_len {ft:Nat→Bool}{fe:Nat→V}(i:Nat):(((List.range i).filter ft).map fe).length≤i:=by
 rw [List.length_map];have:=List.length_filter_le ft (List.range i);simpa using this
theorem comp2_enum {K:PySem.W.Frag}{b:Bool}{a:Addr}{xs:List V}{tt:TT}{te:TE}{l:Addr}{fr:St}{o0 o1:Option V}{H1:Hp}{Q:Hp→Prop}(ft:Nat→Bool) (fe:Nat→V) (hq:SqK b K H1 a xs) (hz:xs.length≤sizeLine) (hl0:H1 l=none)
 (test:∀ i x H (M:Bool→Hp→Prop),xs[i]? = some x→Kp [] H1 H→(∀ H3,Kp [] H H3→M (ft i) H3)→tt (some (.int i)::some x::fr) H M)
 (step:∀ i x H (N:VK),ft i=true→xs[i]? = some x→Kp [] H1 H→(∀ H4,Kp [] H H4→N (fe i) H4)→te (some (.int i)::some x::fr) H N)
 (fin:∀ H,Kp [] H1 H→H l=some (.lst (((List.range xs.length).filter ft).map fe))→Q H) :
 cTurns (Ite b K a) (gTwo K) tt te l (o0::o1::fr) (upd H1 l (.lst [])) Q:=by
 refine comp2 xs.length (CPureF H1 ft fe) ⟨Kp.new hl0 _,rfl⟩ upd_same (fun i H ys hi p _=>⟨xs,xs[i],hq.kp p.1,List.getElem?_eq_getElem hi⟩) (fun H ys p _=>⟨xs,hq.kp p.1,rfl⟩) (fun i H ys v H' hi p hl y=>?_) fun H ys p hl=>?_
 · obtain ⟨t,x,ht,rfl,rfl,hx⟩:=y
   obtain ⟨k1,rfl⟩:=p
   have hx:=hx xs (hq.kp k1)
   have k2:Kp [] H (upd H t (.tup [.int i,x])):=Kp.new ht _
   have hlen:=filt_len (ft:=ft) (fe:=fe) i
   refine ⟨t,.int i,x,rfl,SqT.of upd_same,test i x _ _ hx (k1.trans k2) fun H3 k3=>?_⟩
   have hl3:H3 l=some (.lst (((List.range i).filter ft).map fe)):=k3 _ _ (k2 _ _ hl (by first | exact mm0 | exact mm1 | exact mm2 | exact mm3 | exact mm4 | exact mm5 | simp)) (by first | exact mm0 | exact mm1 | exact mm2 | exact mm3 | exact mm4 | exact mm5 | simp)
   cases hft:ft i with
   | true=>
    refine iteT (step i x _ _ hft hx ((k1.trans k2).trans k3) fun H4 k4=>?_)
    refine CNext2.intro hi (k4 _ _ hl3 (by first | exact mm0 | exact mm1 | exact mm2 | exact mm3 | exact mm4 | exact mm5 | simp)) (by omega) ⟨fun d o e n=>?_,(filt_yes hft).symm⟩
    rw [upd_ne (ne_of_none e hl0)];exact k4 _ _ (k3 _ _ (k2 _ _ (k1 _ _ e n) n) n) n
   | false=>
    refine iteF ?_
    exact CSkip2.intro hi hl3 ⟨(k1.trans k2).trans k3,(filt_no hft).symm⟩
 · obtain ⟨k1,rfl⟩:=p
   exact fin H k1 hl
end L2
namespace My
open PySem PySem.Spec PyProof.Rows L2
noncomputable def wayAt (ws:List Way) (k:Int):Way:=ws.getD k.toNat ⟨0,0,[]⟩
noncomputable def InW (ws:List Way) (ns:List Int):Prop:=∀ k∈ns,0≤k∧k<ws.length
noncomputable def Chain (ws:List Way):List Int→Prop
 | []=>True
 | [_]=>True
 | j::k::r=>(wayAt ws j).b=(wayAt ws k).a∧Chain ws (k::r)
theorem Chain.snoc {ws:List Way}:∀ {ns:List Int}{j k:Int},Chain ws (ns++[j])→(wayAt ws j).b=(wayAt ws k).a→Chain ws (ns++[j]++[k])
 | [],_,_,_,h=>⟨h,trivial⟩
 | [a],_,_,c,h=>⟨c.1,h,trivial⟩
 | a::b::r,j,k,c,h=>⟨c.1,Chain.snoc (ns:=b::r) c.2 h⟩
structure BkAt (ex:List Addr) (H:Hp) (R U:Int) (ws:List Way) (bv:V) (ba wa:Addr) (vs:List V):Prop where
 e:bv = .ref ba
 b:H ba=some (.tup [.int R,.int U,.ref wa])
 w:H wa=some (.tup vs)
 r:Reps ex H (ws.map wayPD) vs
 nb:ba∉ex
 nw:wa∉ex
 z:vs.length≤sizeLine
theorem rep_book {ex:List Addr}{H:Hp}{R U:Int}{ws:List Way}{bv:V}(r:Rep ex H (bookPD R U ws) bv):∃ ba wa vs,BkAt ex H R U ws bv ba wa vs:=by
 obtain ⟨ba,x,y,z,rfl,hb,nb,r1,r2,r3⟩:=rep_tup3 r
 obtain ⟨wa,vs,rfl,hw,nw,hz,rs⟩:=rep_tup r3
 rw [rep_int r1,rep_int r2] at hb
 exact ⟨ba,wa,vs,rfl,hb,hw,rs,nb,nw,hz⟩
theorem BkAt.len {ex:List Addr}{H:Hp}{R U:Int}{ws:List Way}{bv:V}{ba wa:Addr}{vs:List V}(B:BkAt ex H R U ws bv ba wa vs):vs.length=ws.length:=by
 rw [← B.r.length,List.length_map]
theorem BkAt.keep {ex:List Addr}{H H':Hp}{R U:Int}{ws:List Way}{bv:V}{ba wa:Addr}{vs:List V}(B:BkAt ex H R U ws bv ba wa vs) (k:Kp ex H H'):BkAt ex H' R U ws bv ba wa vs:=
 ⟨B.e,k _ _ B.b B.nb,k _ _ B.w B.nw,B.r.keep k,B.nb,B.nw,B.z⟩
theorem BkAt.rep {ex:List Addr}{H:Hp}{R U:Int}{ws:List Way}{bv:V}{ba wa:Addr}{vs:List V}(B:BkAt ex H R U ws bv ba wa vs):Rep ex H (bookPD R U ws) bv:=by
 rw [B.e]
 exact .tuple B.b B.nb (small4 (Nat.le_of_ble_eq_true rfl)) (.cons (.int R) (.cons (.int U) (.cons (.tuple B.w B.nw B.z B.r) .nil)))
theorem way_ix {ex:List Addr}{H:Hp}{ws:List Way}{vs:List V}{i:Nat}{v:V}(r:Reps ex H (ws.map wayPD) vs) (h:vs[i]? = some v):∃ t g,v = .ref t∧H t=some (.tup [.int (wayAt ws i).a,.int (wayAt ws i).b,.ref g])∧H g=some (.tup ((wayAt ws i).g.map V.int))∧i<ws.length∧wayAt ws i∈ws:=by
 obtain ⟨d,e,rd⟩:=r.getV h
 rw [List.getElem?_map] at e
 cases hw:ws[i]? with
 | none=>rw [hw] at e;cases e
 | some w=>
  rw [hw] at e
  have e:wayPD w=d:=Option.some.inj e
  subst e
  have ew:wayAt ws (i:Int)=w:=by unfold wayAt;rw [Int.toNat_natCast,List.getD_eq_getElem?_getD,hw];rfl
  rw [ew]
  obtain ⟨t,x,y,z,rfl,ht,_,r1,r2,r3⟩:=rep_tup3 rd
  obtain ⟨g,gs,rfl,hg,_,_,rg⟩:=rep_tup r3
  rw [rep_int r1,rep_int r2] at ht
  rw [Reps.ints_inv rg] at hg
  exact ⟨t,g,rfl,ht,hg,(List.getElem?_eq_some_iff.mp hw).1,List.mem_of_getElem? hw⟩
theorem way_at {ex:List Addr}{H:Hp}{ws:List Way}{vs:List V}{k:Int}(r:Reps ex H (ws.map wayPD) vs) (h0:0≤k) (h1:k<ws.length):∃ t g,atI vs k=some (.ref t)∧H t=some (.tup [.int (wayAt ws k).a,.int (wayAt ws k).b,.ref g])∧H g=some (.tup ((wayAt ws k).g.map V.int))∧wayAt ws k∈ws:=by
 have hl:=r.length
 rw [List.length_map] at hl
 have hk:k.toNat<vs.length:=by omega
 have ek:((k.toNat:Nat):Int)=k:=by omega
 have e:vs[k.toNat]? = some vs[k.toNat]:=List.getElem?_eq_getElem hk
 obtain ⟨t,g,ev,ht,hg,_,hm⟩:=way_ix r e
 rw [ek] at ht hg hm
 refine ⟨t,g,?_,ht,hg,hm⟩
 have q:=atI_nat e
 rw [ek,ev] at q
 exact q
noncomputable def fromI (ws:List Way) (room:Int):List Int:=((List.range ws.length).filter fun i=>decide ((wayAt ws (i:Nat)).a=room)).map fun i:Nat=>(i:Int)
theorem fromI_mem {ws:List Way}{room k:Int}(h:k∈fromI ws room):0≤k∧k<ws.length∧(wayAt ws k).a=room:=by
 obtain ⟨i,hi,rfl⟩:=List.mem_map.mp h
 rw [List.mem_filter,List.mem_range] at hi
 exact ⟨by omega,by omega,of_decide_eq_true hi.2⟩
noncomputable def spFrom:Sp:=fun vs H Q _=>∃ ex R U ws bv room,vs=[bv,.int room]∧Rep ex H (bookPD R U ws) bv∧∀ l H',Kp [] H H'→H l=none→H' l=some (.lst ((fromI ws room).map V.int))→Q (.ref l) H'
noncomputable def lastI (ns:List Int):Int:=ns.getLastD 0
theorem lastI_eq {ns:List Int}(h:ns≠[]):lastI ns=ns.getLast h:=by
 unfold lastI;rw [List.getLastD_eq_getLast?,List.getLast?_eq_some_getLast h];rfl
theorem lastI_mem {ns:List Int}(h:ns≠[]):lastI ns∈ns:=by rw [lastI_eq h];exact List.getLast_mem h
theorem eqv_ints_nil (ns:List Int):PyData.eqv (.list (ns.map PyData.int)) (.list [])=ns.isEmpty:=eqv_nil ns
theorem Rep.lints {ex:List Addr}{H:Hp}{l:Addr}{ns:List Int}(h:H l=some (.lst (ns.map V.int))) (n:l∉ex) (z:ns.length≤sizeLine):Rep ex H (.list (ns.map PyData.int)) (.ref l):=
 .list h n (by rw [List.length_map];exact z) (Reps.ints ns)
theorem at0 (x y z:V):atI [x,y,z] 0=some x:=atI_nat (j:=0) rfl
theorem at1 (x y z:V):atI [x,y,z] 1=some y:=atI_nat (j:=1) rfl
theorem at2 (x y z:V):atI [x,y,z] 2=some z:=atI_nat (j:=2) rfl
end My
namespace L2
open PySem PySem.Spec PyProof.Rows
section
variable {X:Cx}{K':PySem.W.Frag}
theorem ix_tupK (hK:X.K=K'):IxR X (rIxT K'):=hK▸ix_tup
theorem ix_listK (hK:X.K=K'):IxR X (rIxL K'):=hK▸ix_list
end
section
variable {X:Cx}{e st:Expr}{te:TE}{ts:TO}{pos p2:Pos}
end
theorem op_mulB {X:Cx}:OpR X (binaryOp .Mult) (rI IntMulOk fun i j=>.int (i*j)):=opI fun _ _ _ _ _ _ _ hc q=>mul_int q hc
theorem ps_setD {X:Cx}{pos:Pos}{i:Nat}{x:Str}{e:Expr}{te:TE}{pos':Pos}(hN:X.N.Nodup) (hi:X.N[i]? = some x) (hx:Loc X.env.scope x) (he:PEs X e te) (hs:swapsWith e (some (.Name x pos')) pos.line X.env=pure false:=by rfl) (hf:X.fn x=true∨X.env.scope.names.lookup x=some .local := by first | exact .inl rfl | exact .inr rfl | assumption):PS X (.Assign [.Name x pos'] e pos) (tAsg te (gName i)):=ps_set hN hi hx he.out hs hf
end L2
namespace My
open PySem PySem.Spec PyProof.Rows L2
end My
namespace L2
open PySem PySem.Spec PyProof.Rows
section
variable {X:Cx}
theorem call_minL (hc:X.calm=true):CallR X (.builtin "min") (fun xs H Q=>∃ (p:Addr) (ns:List Int),xs=[.ref p]∧SqL X.K H p (ns.map V.int)∧ns≠[]∧∀ m∈ns,(∀ n∈ns,m≤n)→Q (.int m) H):=by
 intro pins s σ H xs us Q I r h
 obtain ⟨p,ns,rfl,hq,hne,q⟩:=h
 obtain ⟨u,rfl,ru⟩:=vals1 r
 cases ru
 obtain ⟨its,rv,pl,hz⟩:=I.list hq
 have hl:=pl.isList
 have hi:=intsAre_of rv
 obtain ⟨xs,e⟩:=hi.allInts.items
 have h1:=hi.numsOf
 have h2:numsOf its.toArray.toList=(xs.toList.map (·.1)):=by rw [e,nums_intItems]
 have h2':(xs.toList.map (·.1))=ns:=by rw [← h2];simpa using h1
 have hlen:xs.size=ns.length:=by rw [← h2'];simp
 have hpos:0<ns.length:=List.length_pos_iff.mpr hne
 rw [e] at hl
 refine min_intList (I.ok.hd hc) hl (by omega) fun v h' tk hv hk=>?_
 obtain ⟨b1,b2⟩:=argBest_lt (numAt xs) (xs.size-1)
 generalize argBest (fun i j=>decide (numAt xs i<numAt xs j)) (xs.size-1)=m at hv b1 b2
 obtain ⟨t,rfl⟩:=intItems_at hv
 have num:∀ i (hi:i<ns.length),numAt xs i=ns[i]:=fun i hi=>by
  have hix:i<xs.size:=by omega
  have e1:numAt xs i=xs[i].1:=by unfold numAt;rw [Array.getElem?_eq_getElem hix];rfl
  rw [e1]
  have e2:(xs.toList.map (·.1))[i]'(by simpa using hix)=xs[i].1:=by simp
  rw [← e2]
  congr 1
 refine ⟨.int (numAt xs m),H,I.kept (t':=tk) hk,⟨t,rfl⟩,q _ ?_ fun n hn=>?_⟩
 · rw [num m (by omega)];exact List.getElem_mem _
 · obtain ⟨i,hi,rfl⟩:=List.mem_iff_getElem.mp hn
   rw [← num i hi]
   exact b2 i (by omega)
end
end L2
namespace My
open PySem PySem.Spec PyProof.Rows L2
theorem take_snoc {rs:List Int}{i:Nat}{k:Int}(h:rs[i]? = some k):rs.take (i+1)=rs.take i++[k]:=by
 have hi:=List.getElem?_eq_some_iff.mp h
 rw [List.take_succ_eq_append_getElem hi.1,hi.2]
end My
namespace L2
open PySem PySem.Spec PyProof.Rows
section
variable {prog:Program}{w:World}{A:Around}{E:Value→Shared→Prop}{s:Shared}{z TI TO j1 j2 j3:Addr}{f1 f2 f3:List Addr}{n1 n2 n3 i:Nat}{P1 P2 P3:Nat→Value→Prop}{St1 St2 St3:Nat→Heap→Prop}{a b c:Value}
end
section
variable {X:Cx}{es:List Expr}{kk:Nat}{tp:Pos}
end
end L2
namespace My
open PySem PySem.Spec PyProof.Rows L2
end My
namespace L2
open PySem PySem.Spec PyProof.Rows
section
variable {X:Cx}
noncomputable def ShOk (d:PyData):Prop:=d.canLay0=true∧d.showable=true∧d.depth≤50∧d.shown.length≤sizeLine
theorem call_repr (hg:X.A.guards=some []) (hu:X.A.units+64<cLine):CallR X (.builtin "repr") (fun xs H Q=>∃ ex d v,xs=[v]∧Rep ex H d v∧ShOk d∧Q (.str d.shown) H):=by
 intro pins s σ H xs us Q I r h
 obtain ⟨ex,d,v,rfl,rd,⟨hc,hs,hd,hz⟩,q⟩:=h
 obtain ⟨u,rfl,ru⟩:=vals1 r
 obtain ⟨as,rr⟩:=rd.reads I.hok ru
 have hnd:=PyData.hasDict_of_canLay d hc
 have fin:∀ {h':Heap} {t tk:Nat},(∀ b o,s.heap.get? b=some o→h'.get? b=some o)→EP X pins σ Q (.str d.shown t) { s with heap:=h',toks:=tk }:=fun hk=>⟨.str d.shown,H,I.kept hk,⟨_,rfl⟩,q⟩
 have ref:∀ a,u = .ref a→wpAny (model X.prog X.w) X.A (call (.builtin "repr") [u]) (EP X pins σ Q) X.xe s:=fun a e=>by
  subst e
  exact repr_of_reads' rr hs (PyData.noDict_hsm hnd) hg (by omega) (fun _ _ e=>e) (fun h' t tk hk=>fin hk) hz
 cases rd with
 | none=>cases (show u=Value.none from ru);exact P.repr_of_none (fin fun _ _ e=>e)
 | bool b=>cases (show u=Value.bool b from ru);exact P.repr_of_bool (fin fun _ _ e=>e)
 | int i=>
  obtain ⟨t,rfl⟩:=(show ∃ t,u=Value.int i t from ru)
  exact P.repr_of_int (by simpa [PyData.showable] using hs) (fin fun _ _ e=>e)
 | str x=>
  obtain ⟨t,rfl⟩:=(show ∃ t,u=Value.str x t from ru)
  exact P.repr_of_str (fin fun _ _ e=>e) hz
 | tuple e n z rs=>exact ref _ ru
 | list e n z rs=>exact ref _ ru
end
end L2
namespace My
open PySem PySem.Spec PyProof.Rows L2
structure SDs (h n:Nat) (ds:List PyData):Prop where
 c:PyData.canLayAll0 ds=true
 i:PyData.intsShortAll 101 ds=true
 s:PyData.showableAll ds=true
 d:PyData.depthAll ds≤h
 w:PyData.weightAll ds≤n
noncomputable def SD (h n:Nat) (d:PyData):Prop:=SDs h (n+1) [d]
theorem SDs.nil {h n:Nat}:SDs h n []:=⟨rfl,rfl,rfl,Nat.zero_le _,Nat.zero_le _⟩
theorem SDs.mono {h h' n n':Nat}{ds:List PyData}(a:SDs h n ds) (hh:h≤h') (hn:n≤n'):SDs h' n' ds:=⟨a.c,a.i,a.s,Nat.le_trans a.d hh,Nat.le_trans a.w hn⟩
theorem SDs.cons {h n m:Nat}{d:PyData}{ds:List PyData}(a:SD h n d) (b:SDs h m ds):SDs h (n+1+m) (d::ds):=by
 obtain ⟨c1,i1,s1,d1,w1⟩:=a
 simp only [PyData.canLayAll0,PyData.intsShortAll,PyData.showableAll,PyData.depthAll,PyData.weightAll,Bool.and_true] at c1 i1 s1 d1 w1
 refine ⟨?_,?_,?_,?_,?_⟩
 · rw [PyData.canLayAll0,c1,b.c];rfl
 · rw [PyData.intsShortAll,i1,b.i];rfl
 · rw [PyData.showableAll,s1,b.s];rfl
 · rw [PyData.depthAll];have:=b.d;omega
 · rw [PyData.weightAll];have:=b.w;omega
theorem SD.tup {h n:Nat}{ds:List PyData}(a:SDs h n ds):SD (h+1) n (.tuple ds):=
 ⟨by simp [PyData.canLayAll0,PyData.canLay0,a.c],by simp [PyData.intsShortAll,PyData.intsShort,a.i],by simp [PyData.showableAll,PyData.showable,a.s],by simp [PyData.depthAll,PyData.depth];exact a.d,by simp [PyData.weightAll,PyData.weight];exact a.w⟩
theorem SD.mono {h h' n n':Nat}{d:PyData}(a:SD h n d) (hh:h≤h') (hn:n≤n'):SD h' n' d:=SDs.mono a hh (by omega)
theorem log_lt {i:Int}(h:i.natAbs<10^100):i.natAbs.log2<333:=by
 by_cases hz:i.natAbs=0
 · rw [hz];decide
 · rw [Nat.log2_lt hz];exact Nat.lt_of_lt_of_le h (by decide +kernel)
theorem SD.int {h n:Nat}{i:Int}(hi:i.natAbs<10^100) (hn:333≤n):SD h n (.int i):=by
 have hl:=log_lt hi
 refine ⟨rfl,?_,?_,Nat.zero_le _,?_⟩
 · simp only [PyData.intsShortAll,PyData.intsShort,Bool.and_true,decide_eq_true_eq]
   have e:=int_text_length_le10 (k:=100) (by decide) hi
   show (Str.ofString (toString i)).length≤101
   rw [PySem.ofString_length];exact e
 · simp only [PyData.showableAll,PyData.showable,Bool.and_true,decide_eq_true_eq];omega
 · simp only [PyData.weightAll,PyData.weight]
   split<;>omega
theorem SD.show {h n:Nat}{d:PyData}(a:SD h n d) (hh:h≤50) (hn:n≤150000):ShOk d:=by
 obtain ⟨c1,i1,s1,d1,w1⟩:=a
 simp only [PyData.canLayAll0,PyData.intsShortAll,PyData.showableAll,PyData.depthAll,PyData.weightAll,Bool.and_true] at c1 i1 s1 d1 w1
 refine ⟨c1,s1,by omega,?_⟩
 have h1:=PyData.shown_le 101 (by decide) d (PyData.leavesShort_of_canLay0 101 d c1 i1)
 have hs:sizeLine=16777216:=sizeLine_eq
 have:(101+2)*d.weight≤103*150001:=Nat.mul_le_mul_left _ (by omega)
 omega
noncomputable def cutD (xs:List PyData) (lo hi:Option Int):List PyData:=(xs.drop (HT.sIx xs.length 0 lo)).take (HT.sIx xs.length xs.length hi-HT.sIx xs.length 0 lo)
theorem cutD_take (xs:List PyData) (k:Nat):cutD xs none (some (k:Int))=xs.take k:=by
 unfold cutD
 rw [HT.sIx_none,HT.sIx_nat,List.drop_zero,Nat.sub_zero]
 rcases Nat.le_total k xs.length with h | h
 · rw [Nat.min_eq_left h]
 · rw [Nat.min_eq_right h,List.take_of_length_le (Nat.le_refl _),List.take_of_length_le h]
theorem cutD_drop (xs:List PyData) (k:Nat):cutD xs (some (k:Int)) none=xs.drop k:=by
 unfold cutD
 rw [HT.sIx_none,HT.sIx_nat]
 rcases Nat.le_total k xs.length with h | h
 · rw [Nat.min_eq_left h,List.take_of_length_le (by rw [List.length_drop];omega)]
 · rw [Nat.min_eq_right h,List.drop_of_length_le (Nat.le_refl _),List.drop_of_length_le h];simp
structure Tape (H:Hp) (p c:Addr) (n:Nat):Prop where
 ex:∃ (ns:List Int) (k g:Int),H p=some (.lst [.ref c,.int k,.int g])∧H c=some (.lst (ns.map V.int))∧ns.length≤63∧0≤k∧k≤n
theorem Tape.fresh {H:Hp}{p c l:Addr}{n:Nat}(J:Tape H p c n) (h:H l=none):l∉[p,c]:=by
 obtain ⟨ns,k,g,h1,h2,_⟩:=J.ex
 intro z
 rcases List.mem_cons.mp z with rfl | z
 · rw [h] at h1;cases h1
 · cases List.mem_singleton.mp z;rw [h] at h2;cases h2
theorem Kp.late {ex:List Addr}{H1 H2:Hp}{a:Addr}(k:Kp ex H1 H2) (h:H1 a=none) (o:HO):Kp ex H1 (upd H2 a o):=fun b v e n=>by
 rw [upd_ne (ne_of_none e h)];exact k b v e n
section
variable {X:Cx}{pos:Pos}{k:Nat}
end
end My
namespace L2
open PySem PySem.Spec PyProof.Rows
section
variable {X:Cx}
end
end L2
namespace My
open PySem PySem.Spec PyProof.Rows L2
theorem pi_zipK {X:Cx}{es:List Expr}{kk:Nat}{tp:Pos}{K':PySem.W.Frag}{a b:Expr}{ta:TA}{p pos:Pos}(hK:X.K=K') (hg:Gl X "zip") (hm:X.mg "zip" = none) (ha:PA X [a,b] ta) (hs:starEach [a,b] X.env=[(false,eval a X.env),(false,eval b X.env)]:=by rfl) (hs2:starEach [b] X.env=[(false,eval b X.env)]:=by rfl) :
 PI X (.Tuple es kk tp) (.Call (.Name "zip" p) [a,b] [] pos) (iZip K' ta):=hK▸pi_zip hg hm ha hs hs2
section
variable {p c sl:Addr}{R U:Int}{ws:List Way}{bv:V}{sums:List (List Int×List Int)}{svs:List V}{H H':Hp}{n m:Nat}
end
end My
namespace L2
open PySem PySem.Spec PyProof.Rows
section
variable {P:Program}{w:World}{H H':Hp}{h h':Heap}{a:Addr}{o:HO}
end
structure Fly (P:Program) (w:World) (outer:List Env) (H:Hp) (s:Shared) (H':Hp) (ea:Addr) (cls:Value) (s':Shared):Prop where
 os:s'.os=s.os
 bare:AllBare s'.gens
 un:Un (frs outer) [] H H' s.heap s'.heap
 hok:HOk P w H' s'.heap
 fl:∃ (B:Heap) (t:Addr),(∀ b o,s'.heap.get? b=some o→((H' b).isSome=true∨∃ o₀,s.heap.get? b=some o₀)→b∉frs outer→B.get? b=some o)∧Heap.FlyingW B outer ea cls (.ref t) s'.heap
section
variable {X:Cx}{pins:List (Addr×Obj)}{σ:St}{H H':Hp}{s s':Shared}
end
section
variable {P:Program}{w:World}{K:PySem.W.Frag}{mg:Str→Option Value}{base:Heap}{N:List Str}{qual:Str}{scope:Scope}{f:Addr}{cd:Value}{A:Around}{outer:List Env}{s₀:Shared}{H₀:Hp}{E:XK}
end
open PySem PySem.Spec PyProof.Rows PySem.W Builtin Builtin.ObjectAttr Builtin.Getset_descriptor
section
variable {prog:Program}{w:World}{A:Around}{E:Value→Shared→Prop}{s:Shared}{K:PySem.W.Frag}{x D:Addr}{R:Result→Shared→Prop}
end
section
variable {P:Program}{w:World}{K:PySem.W.Frag}{mg:Str→Option Value}{base:Heap}{N:List Str}{qual:Str}{scope:Scope}{f:Addr}{cd:Value}{A:Around}{outer:List Env}{s₀:Shared}{H₀:Hp}{E:XK}
 {x:Str} {C:Addr} {e:Expr} {es:List Expr} {np cpos pos:Pos} {t:TA}
end
section
variable {P:Program}{w:World}{K:PySem.W.Frag}{mg:Str→Option Value}{base:Heap}
end
section
variable {X:Cx}{x:Str}{e:Expr}{es:List Expr}{p pos:Pos}{t:TA}{k:Nat}{ps:List Str}{sp:Sp}{E:XK}
end
noncomputable abbrev XW:=St→Value→Hp→Prop
noncomputable def XP (X:Cx) (pins:List (Addr×Obj)) (W:XW) (e:Value) (s':Shared):Prop:=∃ ea cls σ' H H' s,e = .ref ea∧Inv X pins σ' H s∧Fly X.prog X.w X.stack H s H' ea cls s'∧W σ' cls H'
noncomputable abbrev TSX:=Ends→XW→St→Hp→Prop
section
variable {X:Cx}{x y:Str}{e:Expr}{es:List Expr}{p p' pos apos:Pos}{t:TA}{k:Nat}{ps:List Str}{sp:Sp}
end
section
variable {X:Cx}{pins:List (Addr×Obj)}{σ σ0:St}{H H0:Hp}{s s0:Shared}{B h':Heap}
end
section
variable {X:Cx}{body:List Stmt}{tb:TSX}{ts:TS}{b₀:Stmt}{suite:List Stmt}{c n:Str}{C:Addr}{i:Nat}{np hpos pos:Pos}
end
open PySem PySem.Spec PyProof.Rows PySem.SeqAt
section
variable {P:Program}{w:World}{K:PySem.W.Frag}{mg:Str→Option Value}{base:Heap}
end
section
variable {X:Cx}{x:Str}{e:Expr}{es:List Expr}{p pos:Pos}{t:TA}{k:Nat}{ps:List Str}{sp:Sp}
end
structure Er where
 fall:Addr
 way:Addr
 round:Addr
 ring:Addr
 purse:Addr
 end_:Addr
 stand:Addr
 many:Addr
 line:Addr
 row:Addr
section
variable {K:PySem.W.Frag}{mg:Str→Option Value}{z:Er}
end
section
variable {X:Cx}{v:Expr}{te:TE}{a b:Str}{ja jb:Nat}{pa pb pf pos:Pos}
end
section
variable {X:Cx}{x:Str}{e:Expr}{es:List Expr}{p pos apos:Pos}{t:TA}{k:Nat}{ps:List Str}{sp:Sp}
variable {body:List Stmt}{tb:TSX}{ts:TS}{b₀:Stmt}{suite:List Stmt}{c:Str}{C:Addr}{np hpos:Pos}
end
end L2
namespace My
open PySem PySem.Spec PyProof.Rows L2
theorem atI_nat_inv {α:Type}{xs:List α}{j:Nat}{v:α}(h:atI xs (j:Int)=some v):xs[j]? = some v:=by
 cases e:xs[j]? with
 | some u=>
  rw [atI_nat e] at h
  exact h
 | none=>
  have hl:xs.length≤j:=List.getElem?_eq_none_iff.mp e
  unfold atI ixN at h
  rw [if_pos (by omega),if_neg (by omega)] at h
  cases h
end My
namespace HT
open PySem PySem.Spec PyProof.Rows
section
variable {prog:Program}{w:World}{A:Around}{E:Value→Shared→Prop}{s:Shared}
end
end HT
namespace L2
open PySem PySem.Spec PyProof.Rows
end L2
namespace My
open PySem PySem.Spec PyProof.Rows L2
theorem sIx_none (n d:Nat):HT.sIx n d none=d:=rfl
end My
namespace L2
open PySem PySem.Spec PyProof.Rows
end L2
namespace My
open PySem PySem.Spec PyProof.Rows L2
section
variable {p c wl:Addr}{R U:Int}{ws:List Way}{bv fv hv:V}{r:Int}{xs:List Int}{Hs H H':Hp}{ns:List Int}
end
end My
namespace L2
open PySem PySem.Spec PyProof.Rows
section
variable {prog:Program}{w:World}{A:Around}{E:Value→Shared→Prop}{s:Shared}{l:Addr}{xs:Array (Int×Tok)}
end
section
variable {X:Cx}
end
end L2
namespace My
open PySem PySem.Spec PyProof.Rows L2
inductive W0:List Int→Prop
 | nil:W0 []
 | z {ms:List Int}:W0 ms→W0 (0::ms)
 | ot {ms:List Int}:W0 ms→W0 (1::2::ms)
noncomputable def Pth (ws:List Way):Int→List Int→Int→Prop
 | a,[],b=>a=b
 | a,k::ns,b=>(0≤k∧k<ws.length)∧(wayAt ws k).a=a∧Pth ws (wayAt ws k).b ns b
theorem Pth.app {ws:List Way}:∀ {ms:List Int}{a b c:Int}{ns:List Int},Pth ws a ms b→Pth ws b ns c→Pth ws a (ms++ns) c
 | [],_,_,_,_,h,g=>by cases h;exact g
 | _::_,_,_,_,_,h,g=>⟨h.1,h.2.1,h.2.2.app g⟩
theorem Pth.inW {ws:List Way}:∀ {ms:List Int}{a b:Int},Pth ws a ms b→InW ws ms
 | [],_,_,_=>fun k hk=>by cases hk
 | k::ms,_,_,h=>fun j hj=>by
  rcases List.mem_cons.mp hj with rfl | hj
  · exact h.1
  · exact h.2.2.inW j hj
theorem nodup_le:∀ (n:Nat) (l:List Nat),l.Nodup→(∀ x∈l,x<n)→l.length≤n:=by
 intro n
 induction n with
 | zero=>
  intro l _ h
  cases l with
  | nil=>exact Nat.le_refl _
  | cons a l=>exact absurd (h a List.mem_cons_self) (Nat.not_lt_zero _)
 | succ n ih=>
  intro l nd h
  by_cases hm:n∈l
  · have e:=ih (l.erase n) (nd.erase n) fun x hx=>by
     have hx':=(List.Nodup.mem_erase_iff nd).mp hx
     have:=h x hx'.2
     omega
    rw [List.length_erase_of_mem hm] at e
    omega
  · have:=ih l nd fun x hx=>by
     have:=h x hx
     have:x≠n:=fun z=>hm (z▸hx)
     omega
    omega
theorem nodup_leI {R:Int}(hR:0≤R) {l:List Int}(nd:l.Nodup) (h:∀ x∈l,0≤x∧x<R):(l.length:Int)≤R:=by
 have:=nodup_le R.toNat (l.map Int.toNat) (by
  rw [List.nodup_iff_pairwise_ne] at nd ⊢
  rw [List.pairwise_map]
  exact nd.imp_of_mem fun ha hb hne=>by
   have:=h _ ha
   have:=h _ hb
   omega) (fun x hx=>by
  obtain ⟨y,hy,rfl⟩:=List.mem_map.mp hx
  have:=h y hy
  omega)
 rw [List.length_map] at this
 omega
noncomputable abbrev KE:=Int×Addr×List Int
noncomputable def keV (e:KE):Key×V:=(Sum.inl e.1,V.ref e.2.1)
theorem ke_some {ks:List KE}{m:Int}(h:m∈ks.map (·.1)):∃ e∈ks,e.1=m∧valV (ks.map keV) (Sum.inl m)=some (.ref e.2.1):=by
 induction ks with
 | nil=>cases h
 | cons e ks ih=>
  by_cases he:e.1=m
  · exact ⟨e,List.mem_cons_self,he,by rw [List.map_cons];exact valV_pos (by show Sum.inl e.1=_;rw [he])⟩
  · rw [List.map_cons] at h
    rcases List.mem_cons.mp h with h | h
    · exact absurd h.symm he
    · obtain ⟨e',h1,h2,h3⟩:=ih h
      refine ⟨e',List.mem_cons_of_mem _ h1,h2,?_⟩
      rw [List.map_cons]
      unfold valV at h3 ⊢
      rw [List.find?_cons_of_neg (by simp [keV,he])]
      exact h3
theorem ke_none {ks:List KE}{m:Int}(h:m∉ks.map (·.1)):valV (ks.map keV) (Sum.inl m)=none∧∀ v,putK (ks.map keV) (Sum.inl m) v=ks.map keV++[(Sum.inl m,v)]:=by
 have e:∀ kv∈ks.map keV,kv.1≠Sum.inl m:=fun kv hkv z=>by
  obtain ⟨x,hx,rfl⟩:=List.mem_map.mp hkv
  exact h (List.mem_map.mpr ⟨x,hx,Sum.inl.inj z⟩)
 constructor
 · unfold valV
   rw [List.find?_eq_none.mpr fun kv hkv=>by simpa using e kv hkv]
   rfl
 · intro v
   unfold putK
   rw [if_neg]
   rw [Bool.not_eq_true,List.any_eq_false]
   intro kv hkv
   simpa using e kv hkv
structure BkI (R:Int) (ws:List Way) (first:Int) (kd wl:Addr) (H0 H:Hp) (ks:List KE) (ms:List Int):Prop where
 k:Kp [] H0 H
 fk:H0 kd=none
 fw:H0 wl=none
 ne:kd≠wl
 d:H kd=some (.dK (ks.map keV))
 w:H wl=some (.lst (ms.map V.int))
 p:∀ e∈ks,H e.2.1=some (.lst (e.2.2.map V.int))∧H0 e.2.1=none∧e.2.1≠kd∧e.2.1≠wl∧Pth ws first e.2.2 e.1∧e.2.2.length+1≤ks.length∧0≤e.1∧e.1<R
 nd:(ks.map (·.1)).Nodup
 wk:∀ m∈ms,m∈ks.map (·.1)
theorem BkI.kp {R:Int}{ws:List Way}{first:Int}{kd wl:Addr}{H0 H H':Hp}{ks:List KE}{ms:List Int}(I:BkI R ws first kd wl H0 H ks ms) (k:Kp [] H H'):BkI R ws first kd wl H0 H' ks ms:=
 ⟨I.k.trans k,I.fk,I.fw,I.ne,k _ _ I.d (by simp),k _ _ I.w (by simp),fun e he=>by
  obtain ⟨h1,h2⟩:=I.p e he
  exact ⟨k _ _ h1 (by simp),h2⟩,I.nd,I.wk⟩
theorem BkI.len {R:Int}{ws:List Way}{first:Int}{kd wl:Addr}{H0 H:Hp}{ks:List KE}{ms:List Int}(I:BkI R ws first kd wl H0 H ks ms) (hR:0≤R):(ks.length:Int)≤R:=by
 have:=nodup_leI hR I.nd fun x hx=>by
  obtain ⟨e,he,rfl⟩:=List.mem_map.mp hx
  exact (I.p e he).2.2.2.2.2.2
 rw [List.length_map] at this;exact this
theorem BkI.setw {R:Int}{ws:List Way}{first:Int}{kd wl:Addr}{H0 H:Hp}{ks:List KE}{ms:List Int}(I:BkI R ws first kd wl H0 H ks ms) {xs:List V}{ns:List Int}(e:xs=ns.map V.int) (h:∀ m∈ns,m∈ks.map (·.1)):BkI R ws first kd wl H0 (upd H wl (.lst xs)) ks ns:=by
 subst e
 refine ⟨fun b o e n=>?_,I.fk,I.fw,I.ne,by rw [upd_ne I.ne];exact I.d,upd_same,fun e he=>?_,I.nd,h⟩
 · rw [upd_ne (ne_of_none e I.fw)];exact I.k _ _ e n
 · obtain ⟨h1,h2,h3,h4,h5⟩:=I.p e he
   exact ⟨by rw [upd_ne h4];exact h1,h2,h3,h4,h5⟩
theorem BkI.add {R:Int}{ws:List Way}{first:Int}{kd wl:Addr}{H0 H:Hp}{ks:List KE}{ms:List Int}(I:BkI R ws first kd wl H0 H ks ms) {m:Int}{a:Addr}{ns:List Int}(hm:m∉ks.map (·.1)) (ha:H a=some (.lst (ns.map V.int))) (fa:H0 a=none) (n1:a≠kd) (n2:a≠wl) (hp:Pth ws first ns m) (hz:ns.length≤ks.length) (hR:0≤m∧m<R) :
 BkI R ws first kd wl H0 (upd H kd (.dK (putK (ks.map keV) (Sum.inl m) (.ref a)))) (ks++[(m,a,ns)]) ms:=by
 rw [(ke_none hm).2]
 refine ⟨fun b o e n=>?_,I.fk,I.fw,I.ne,?_,by rw [upd_ne I.ne.symm];exact I.w,fun e he=>?_,?_,fun x hx=>?_⟩
 · rw [upd_ne (ne_of_none e I.fk)];exact I.k _ _ e n
 · rw [upd_same,List.map_append];rfl
 · rw [List.length_append]
   rcases List.mem_append.mp he with he | he
   · obtain ⟨h1,h2,h3,h4,h5,h6,h7⟩:=I.p e he
     exact ⟨by rw [upd_ne h3];exact h1,h2,h3,h4,h5,Nat.le_trans h6 (Nat.le_add_right _ _),h7⟩
   · obtain rfl:=List.mem_singleton.mp he
     exact ⟨by rw [upd_ne n1];exact ha,fa,n1,n2,hp,Nat.add_le_add hz (Nat.le_refl 1),hR⟩
 · rw [List.map_append,List.nodup_append]
   refine ⟨I.nd,by simp,fun x hx y hy=>?_⟩
   rw [List.map_singleton,List.mem_singleton] at hy
   rintro rfl
   have hy:x=m:=hy
   exact hm (hy▸hx)
 · rw [List.map_append]
   exact List.mem_append_left _ (I.wk x hx)
noncomputable def spBack:Sp:=fun vs H Q _=>∃ (ex:List Addr) (R U:Int) (ws:List Way) (bv:V) (first last:Int),vs=[bv,.int first,.int last]∧Rep ex H (bookPD R U ws) bv∧BookOk R U ws∧(0≤first∧first<R) ∧
 (∀ H',Kp [] H H'→Q .non H')∧∀ l ns H',Kp [] H H'→H l=none→H' l=some (.lst (ns.map V.int))→Pth ws first ns last→ns.length≤12→Q (.ref l) H'
end My
namespace L2
open PySem PySem.Spec PyProof.Rows
section
variable {X:Cx}
theorem any_ints (ns:List Int):((List.range ns.length).any fun i=>decide (ns.getD i 0≠0))=ns.any (fun n=>decide (n≠0)):=by
 rw [Bool.eq_iff_iff]
 simp only [List.any_eq_true,List.mem_range]
 constructor
 · rintro ⟨i,hi,h⟩
   rw [List.getD_eq_getElem?_getD,List.getElem?_eq_getElem hi] at h
   exact ⟨_,List.getElem_mem hi,h⟩
 · rintro ⟨n,hn,h⟩
   obtain ⟨i,hi,rfl⟩:=List.mem_iff_getElem.mp hn
   exact ⟨i,hi,by rw [List.getD_eq_getElem?_getD,List.getElem?_eq_getElem hi];exact h⟩
theorem int_at {ns:List Int}{its:List Value}(rv:Vals (ns.map V.int) its) {i:Nat}{v:Value}(h:its[i]? = some v):∃ t,v = .int (ns.getD i 0) t:=by
 have hi:i<its.length:=(List.getElem?_eq_some_iff.mp h).1
 have hlen:=rv.length
 rw [List.length_map] at hlen
 have hb:(ns.map V.int)[i]? = some (V.int (ns.getD i 0)):=by
  rw [List.getElem?_map,List.getElem?_eq_getElem (by omega),List.getD_eq_getElem?_getD,List.getElem?_eq_getElem (by omega)]
  rfl
 obtain ⟨u,hu,ru⟩:=rv.get hb
 rw [h] at hu
 cases hu
 exact ru
theorem call_anyL (hc:X.calm=true):CallR X (.builtin "any") (fun xs H Q=>∃ (p:Addr) (ns:List Int),xs=[.ref p]∧SqL X.K H p (ns.map V.int)∧Q (.bl (ns.any fun n=>decide (n≠0))) H):=by
 intro pins s σ H xs us Q I r h
 obtain ⟨p,ns,rfl,hq,q⟩:=h
 obtain ⟨u,rfl,ru⟩:=vals1 r
 cases ru
 obtain ⟨its,rv,pl,hz⟩:=I.list hq
 have hl:=pl.isList
 have hlt:p<s.heap.objs.size:=by obtain ⟨_,e,_⟩:=hl;exact Heap.lt_size e
 have hlen:=rv.length
 rw [List.length_map] at hlen
 refine call_any_walk (wpAny_pyIter_list hl ?_)
 refine ⟨_,_,_,_,_,_,fun i=>decide (ns.getD i 0≠0),rfl,Walks.list (A:=X.A.in1) (I.ok.hd hc) _ p (Nat.ne_of_lt hlt) its.toArray,⟨⟨_,Heap.get?_push_size _ rfl,rfl,rfl⟩,hl.push _⟩,?_,fun h' tk hk=>?_⟩
 · intro i v s' Q' E' hP hQ
   obtain ⟨t,rfl⟩:=int_at rv (by simpa using hP)
   have e:((ns.getD i 0) != 0)=decide (ns.getD i 0≠0):=by
    rw [Bool.eq_iff_iff];simp
   exact PySem.P.truthy_int (by rw [e];exact hQ)
 · rw [List.size_toArray,← hlen,any_ints]
   exact ⟨.bl _,H,I.kept (t':=tk) (old_kept hk),rfl,q⟩
noncomputable def rGetL (K:PySem.W.Frag):V→V→Hp→VK→Prop:=fun o i H Q=>∃ p xs k x,o = .ref p∧i = .int k∧0≤k∧SqL K H p xs∧xs[k.toNat]? = some x∧Q x H
theorem get_list:PGet X (rGetL X.K):=by
 intro pins s σ H o i ov iv Q I ro ri h
 obtain ⟨p,xs,k,x,rfl,rfl,k0,hq,hx,q⟩:=h
 cases ro
 obtain ⟨t,rfl⟩:=ri
 obtain ⟨its,r,pl,hz⟩:=I.list hq
 obtain ⟨u,eu,ru⟩:=r.get hx
 have hn:=line63
 have hi:=(List.getElem?_eq_some_iff.mp hx).1
 exact wpAny_getItem_list pl.isList k0 (by omega) (by simpa using eu) ⟨x,H,I,ru,q⟩
end
end L2
namespace My
open PySem PySem.Spec PyProof.Rows L2
noncomputable def moreI (ws:List Way) (cs:List Int):Nat→Int→Int
 | 0,_=>0
 | i+1,r=>moreI ws cs i r-(if (wayAt ws (i:Nat)).a=r then cs.getD i 0 else 0)+(if (wayAt ws (i:Nat)).b=r then cs.getD i 0 else 0)
noncomputable def flowI (ws:List Way) (cs:List Int) (sel:Way→Int) (n:Nat) (r:Int):List Int:=((List.range n).filter (fun i=>decide (sel (wayAt ws (i:Nat))=r))).map (fun i=>cs.getD i 0)
theorem flow_succ (ws:List Way) (cs:List Int) (sel:Way→Int) (n:Nat) (r:Int):(flowI ws cs sel (n+1) r).sum=(flowI ws cs sel n r).sum+(if sel (wayAt ws (n:Nat))=r then cs.getD n 0 else 0):=by
 unfold flowI
 rw [List.range_succ,List.filter_append,List.map_append,List.sum_append]
 by_cases h:sel (wayAt ws (n:Nat))=r
 · simp [h]
 · simp [h]
theorem more_flow (ws:List Way) (cs:List Int) (r:Int):∀ n,moreI ws cs n r=(flowI ws cs (·.b) n r).sum-(flowI ws cs (·.a) n r).sum
 | 0=>rfl
 | n+1=>by
  rw [flow_succ,flow_succ,moreI,more_flow ws cs r n]
  omega
theorem set_range {α:Type}(f:Nat→α) (n j:Nat) (v:α):((List.range n).map f).set j v=(List.range n).map fun i=>if i=j then v else f i:=by
 apply List.ext_getElem
 · simp
 · intro i h1 h2
   rw [List.getElem_set]
   simp only [List.getElem_map,List.getElem_range]
   by_cases e:j=i
   · rw [if_pos e,if_pos e.symm]
   · rw [if_neg e,if_neg fun z=>e z.symm]
theorem chain_pth {ws:List Way}:∀ {ns:List Int}{k:Int},Chain ws (k::ns)→InW ws (k::ns)→Pth ws (wayAt ws k).a (k::ns) (wayAt ws (lastI (k::ns))).b
 | [],k,_,h=>⟨h k List.mem_cons_self,rfl,rfl⟩
 | j::ns,k,c,h=>⟨h k List.mem_cons_self,rfl,by
  have:=chain_pth (ns:=ns) (k:=j) c.2 fun m hm=>h m (List.mem_cons_of_mem _ hm)
  rw [c.1]
  exact this⟩
theorem mul97:IntMulOk (10^50) (10^47):=by unfold IntMulOk;decide +kernel
inductive Rt (es:List (Nat×Nat)):Nat→Nat→Prop
 | refl (a:Nat):Rt es a a
 | step {a b c:Nat}:Rt es a b→(b,c)∈es→Rt es a c
theorem Rt.trans {es:List (Nat×Nat)}{a b c:Nat}(h:Rt es a b) (g:Rt es b c):Rt es a c:=by
 induction g with
 | refl=>exact h
 | step _ e ih=>exact ih.step e
noncomputable def Pw (es:List (Nat×Nat)):Nat→Nat→Nat→Bool
 | 0,a,b=>decide (a=b)||decide ((a,b)∈es)
 | m+1,a,b=>Pw es m a b||(Pw es m a m&&Pw es m m b)
theorem Pw.mono {es:List (Nat×Nat)}{m a b:Nat}(h:Pw es m a b=true):Pw es (m+1) a b=true:=by
 rw [Pw,h];rfl
theorem Pw.zero {es:List (Nat×Nat)}{a b:Nat}(h:Pw es 0 a b=true):∀ m,Pw es m a b=true
 | 0=>h
 | m+1=>Pw.mono (Pw.zero h m)
theorem Pw.cut {es:List (Nat×Nat)}{m a b:Nat}(h:Pw es (m+1) a b=true):Pw es m a b=true∨(Pw es m a m=true∧Pw es m m b=true):=by
 rw [Pw,Bool.or_eq_true,Bool.and_eq_true] at h;exact h
theorem Pw.via {es:List (Nat×Nat)}{m a b:Nat}(h:Pw es m a m=true) (g:Pw es m m b=true):Pw es (m+1) a b=true:=by
 rw [Pw,h,g,Bool.and_self,Bool.or_true]
theorem Pw.trans {es:List (Nat×Nat)}:∀ {m a b k:Nat},k<m→Pw es m a k=true→Pw es m k b=true→Pw es m a b=true
 | 0,_,_,_,h,_,_=>absurd h (Nat.not_lt_zero _)
 | m+1,a,b,k,hk,h,g=>by
  by_cases e:k=m
  · subst e
    have h':Pw es k a k=true:=by rcases (Pw.cut h) with h | h;exact h;exact h.1
    have g':Pw es k k b=true:=by rcases (Pw.cut g) with g | g;exact g;exact g.2
    exact Pw.via h' g'
  · have hk':k<m:=by omega
    rcases (Pw.cut h) with h | ⟨h1,h2⟩
    · rcases (Pw.cut g) with g | ⟨g1,g2⟩
      · exact Pw.mono (Pw.trans hk' h g)
      · exact Pw.via (Pw.trans hk' h g1) g2
    · rcases (Pw.cut g) with g | ⟨g1,g2⟩
      · exact Pw.via h1 (Pw.trans hk' h2 g)
      · exact Pw.via h1 g2
theorem Pw.rt {es:List (Nat×Nat)}:∀ {m a b:Nat},Pw es m a b=true→Rt es a b
 | 0,a,b,h=>by
  rw [Pw,Bool.or_eq_true] at h
  rcases h with h | h
  · obtain rfl:=of_decide_eq_true h;exact .refl a
  · exact .step (.refl a) (of_decide_eq_true h)
 | m+1,a,b,h=>by
  rcases (Pw.cut h) with h | ⟨h,g⟩
  · exact Pw.rt h
  · exact (Pw.rt h).trans (Pw.rt g)
theorem Rt.pw {es:List (Nat×Nat)}{R a b:Nat}(hr:∀ e∈es,e.1<R∧e.2<R) (h:Rt es a b):Pw es R a b=true:=by
 induction h with
 | refl=>exact Pw.zero (by rw [Pw];simp) R
 | step _ e ih=>exact Pw.trans (hr _ e).1 ih (Pw.zero (by rw [Pw];simp [e]) R)
theorem pw_iff {es:List (Nat×Nat)}{R a b:Nat}(hr:∀ e∈es,e.1<R∧e.2<R):Pw es R a b=true↔Rt es a b:=⟨Pw.rt,Rt.pw hr⟩
end My
namespace L2
open PySem PySem.Spec PyProof.Rows
section
variable {M:Model}{A:Around}{E:Value→Shared→Prop}{s:Shared}
theorem newEnv_cells {scope:Scope}{globals:Addr}{closure:List (Str×Addr)}{qual:Str}{func:Option Addr}{code:Value}{outer:Env}{builtins:Addr}{Q:Env→Shared→Prop}
 (hQ:Q (newEnv scope s.heap.objs.size globals (cellsFrom (s.heap.objs.size+1) scope.names closure) qual func code (some outer) builtins) { s with heap:=pushCells (s.heap.push { cls:=.type "dict",data:=.dict #[] }) scope.names }) :
 wpAny M A (newFunctionEnv scope globals closure [] qual func code (some outer) builtins) Q E s:=by
 simp only [newFunctionEnv,Option.isSome_some,if_true]
 refine wpAny_bind (wpAny_alloc ?_)
 refine wpAny_bind (wpAny_layCells _ (fun name kind cells=>by cases hkc:kind==NameKind.cell<;>simp [hkc]) _ _ _ _ ?_)
 rw [show ({ s with heap:=s.heap.push { cls:=.type "dict",data:=.dict #[] } }:Shared).heap.objs.size=s.heap.objs.size+1 from Heap.size_push ..]
 refine wpAny_bind ?_
 rw [List.forIn_nil]
 exact wpAny_pure (wpAny_pure hQ)
end
theorem cellsFrom_mem:∀ (names:List (Str×NameKind)) (n:Nat) (acc:List (Str×Addr)) (x:Str) (c:Addr),(x,c)∈cellsFrom n names acc→(x,c)∈acc∨(n≤c∧(x,NameKind.cell)∈names)
 | [],n,acc,x,c,h=>.inl h
 | (name,kind)::r,n,acc,x,c,h=>by
  unfold cellsFrom at h
  split at h
  · rename_i hk
    have hk:kind = .cell:=by simpa using hk
    subst hk
    rcases cellsFrom_mem r (n+1) _ x c h with h | ⟨h1,h2⟩
    · rcases List.mem_cons.mp h with e | h
      · cases e;exact .inr ⟨Nat.le_refl _,List.mem_cons_self⟩
      · exact .inl h
    · exact .inr ⟨by omega,List.mem_cons_of_mem _ h2⟩
  · rcases cellsFrom_mem r n acc x c h with h | ⟨h1,h2⟩
    · exact .inl h
    · exact .inr ⟨h1,List.mem_cons_of_mem _ h2⟩
theorem cellsFrom_apart:∀ (names:List (Str×NameKind)) (n:Nat) (acc:List (Str×Addr)),(∀ p∈acc,p.2<n)→∀ x y c,(x,c)∈cellsFrom n names acc→(y,c)∈cellsFrom n names acc→(∀ x y c,(x,c)∈acc→(y,c)∈acc→x=y)→x=y
 | [],n,acc,_,x,y,c,h,g,inj=>inj x y c h g
 | (name,kind)::r,n,acc,ha,x,y,c,h,g,inj=>by
  unfold cellsFrom at h g
  split at h
  · rename_i hk
    rw [if_pos hk] at g
    refine cellsFrom_apart r (n+1) ((name,n)::acc) (fun p hp=>?_) x y c h g fun x y c h g=>?_
    · rcases List.mem_cons.mp hp with rfl | hp
      · exact Nat.lt_succ_self _
      · exact Nat.lt_succ_of_lt (ha p hp)
    · rcases List.mem_cons.mp h with e | h<;>rcases List.mem_cons.mp g with e' | g
      · cases e;cases e';rfl
      · cases e;exact absurd (ha _ g) (Nat.lt_irrefl _)
      · cases e';exact absurd (ha _ h) (Nat.lt_irrefl _)
      · exact inj x y c h g
  · rename_i hk
    rw [if_neg hk] at g
    exact cellsFrom_apart r n acc ha x y c h g inj
theorem cellsFrom_acc:∀ (names:List (Str×NameKind)) (n:Nat) (acc:List (Str×Addr)) (p:Str×Addr),p∈acc→p∈cellsFrom n names acc
 | [],n,acc,p,h=>h
 | (name,kind)::r,n,acc,p,h=>by
  unfold cellsFrom
  split
  · exact cellsFrom_acc r _ _ p (List.mem_cons_of_mem _ h)
  · exact cellsFrom_acc r _ _ p h
theorem cellsFrom_has:∀ (names:List (Str×NameKind)) (n:Nat) (acc:List (Str×Addr)) (x:Str),(x,NameKind.cell)∈names→∃ c,(x,c)∈cellsFrom n names acc
 | (name,kind)::r,n,acc,x,h=>by
  unfold cellsFrom
  rcases List.mem_cons.mp h with e | h
  · cases e
    exact ⟨n,cellsFrom_acc r _ _ _ List.mem_cons_self⟩
  · split
    · exact cellsFrom_has r _ _ x h
    · exact cellsFrom_has r _ _ x h
theorem pushCells_cell:∀ (names:List (Str×NameKind)) (h:Heap) (acc:List (Str×Addr)) (x:Str) (c:Addr),(x,c)∈cellsFrom h.objs.size names acc→(x,c)∈acc∨(pushCells h names).IsCell c none
 | [],h,acc,x,c,m=>.inl m
 | (name,kind)::r,h,acc,x,c,m=>by
  unfold cellsFrom at m
  unfold pushCells
  split at m
  · rename_i hk
    rw [if_pos hk]
    have e:h.objs.size+1=(h.push { cls:=.type "cell",data:=.cell none }).objs.size:=by rw [Heap.size_push]
    rw [e] at m
    rcases pushCells_cell r _ _ x c m with m | m
    · rcases List.mem_cons.mp m with z | m
      · cases z
        exact .inr ⟨_,pushCells_keeps r _ _ _ (Heap.get?_push_size _ rfl),rfl⟩
      · exact .inl m
    · exact .inr m
  · rename_i hk
    rw [if_neg hk]
    exact pushCells_cell r h acc x c m
theorem closeL_free {env:Env}:∀ (l:List (Str×NameKind)) (cs:List (Str×Addr)) (x:Str) (c:Addr),(x,c)∈closeL env l cs→(x,c)∈cs∨(x,NameKind.free)∈l
 | [],cs,x,c,h=>.inl h
 | (n,k)::r,cs,x,c,h=>by
  unfold closeL at h
  rcases closeL_free r _ x c h with g | g
  · split at g
    · rename_i hk
      have hk:k = .free:=by simpa using hk
      subst hk
      rcases List.mem_cons.mp g with e | g
      · cases e;exact .inr List.mem_cons_self
      · exact .inl g
    · exact .inl g
  · exact .inr (List.mem_cons_of_mem _ g)
theorem uniq_kind {l:List (Str×NameKind)}(u:(l.map (·.1)).Nodup) {x:Str}{j k:NameKind}(h:(x,j)∈l) (g:(x,k)∈l):j=k:=by
 induction l with
 | nil=>cases h
 | cons p l ih=>
  rw [List.map_cons,List.nodup_cons] at u
  rcases List.mem_cons.mp h with e | h<;>rcases List.mem_cons.mp g with e' | g
  · rw [← e] at e';cases e';rfl
  · exact absurd (List.mem_map.mpr ⟨_,g,by rw [← e]⟩) u.1
  · exact absurd (List.mem_map.mpr ⟨_,h,by rw [← e']⟩) u.1
  · exact ih u.2 h g
noncomputable def cxCompC (X:Cx) (N':List Str) (scope:Scope) (C:Addr) (s:Shared) (H:Hp) (fp:List Addr):Cx:=
 { cxComp X N' scope C s H fp with env:=compEnvC scope (cellsFrom (C+1) scope.names (closeL X.env scope.names [])) C X.env,fn:=fun x=>scope.names.lookup x==some NameKind.cell }
structure CompScopeC (sc:Scope) (N:List Str) (scope:Scope) (N':List Str) (k:Nat) (idx:List Nat):Prop where
 kind:scope.kind = .function
 uniq:(scope.names.map (·.1)).Nodup
 loc:∀ x∈scope.names,x.2 = .local → scope.names.lookup x.1=some .local
 fr:∀ x∈scope.names,x.2 = .free→sc.names.lookup x.1=some .cell∨sc.names.lookup x.1=some .free
 nd:N'.Nodup
 free:∀ x∈N'.drop k,scope.names.lookup x=some .free
 ix:(N'.drop k).map some=idx.map fun i=>N[i]?
 len:N'.length=k+idx.length
section
variable {X:Cx}{pins:List (Addr×Obj)}{σ:St}{H:Hp}{s:Shared}{scope:Scope}{N':List Str}{k:Nat}{idx:List Nat}{sc:Scope}{N:List Str}
theorem comp_startC (I:Inv X pins σ H s) (S:CompScopeC sc N scope N' k idx) (hsc:X.env.scope=sc) (hNN:X.N=N) {fp:List Addr}(hf:∀ b∈fp,FpOk X pins H b) (hlt:∀ b∈fp,b<s.heap.objs.size) {t':Nat} :
 Inv (cxCompC X N' scope s.heap.objs.size s H fp) [] (startC k idx σ) H { s with heap:=pushCells (s.heap.push { cls:=.type "dict",data:=.dict #[] }) scope.names,toks:=t' }:=by
 have hcell:∀ x∈scope.names,x.2 = .free→∃ c,X.env.cells.lookup x.1=some c:=fun x hx hfree=>I.ok.has x.1 (by
  show X.env.scope.names.lookup x.1=_∨X.env.scope.names.lookup x.1=_
  rw [hsc];exact S.fr x hx hfree)
 have hclm:∀ x c,(x,c)∈closeL X.env scope.names []→X.env.cells.lookup x=some c:=fun x c e=>closeL_mem hcell (fun p hp=>by cases hp) (x,c) e
 have hold:∀ x c,(x,c)∈closeL X.env scope.names []→c<s.heap.objs.size:=fun x c e=>by
  obtain ⟨v,o,ho,_⟩:=I.cell x c (hclm x c e)
  exact Heap.lt_size ho
 have hk:∀ b o,s.heap.get? b=some o→(pushCells (s.heap.push { cls:=.type "dict",data:=.dict #[] }) scope.names).get? b=some o:=fun b o e=>pushCells_keeps _ _ b o (Heap.get?_push_of_some _ e)
 have hsp:∀ x c,(cellsFrom (s.heap.objs.size+1) scope.names (closeL X.env scope.names [])).lookup x=some c→((x,c)∈closeL X.env scope.names []∨(s.heap.objs.size+1≤c∧(x,NameKind.cell)∈scope.names)):=fun x c e=>
  cellsFrom_mem _ _ _ x c (PySem.mem_of_lookup e)
 have hok:(cxCompC X N' scope s.heap.objs.size s H fp).Ok:={
  mod:=I.ok.mod
  kind:=S.kind
  glob:=I.ok.glob
  blt:=I.ok.blt
  above:=Nat.le_refl _
  inj:=fun x y c e1 e2=>cellsFrom_apart _ _ _ (fun p hp=>Nat.lt_succ_of_lt (hold p.1 p.2 hp)) x y c (PySem.mem_of_lookup e1) (PySem.mem_of_lookup e2) fun x y c h g=>I.ok.inj x y c (hclm x c h) (hclm y c g)
  has:=fun x hx=>by
   have hcf:scope.names.lookup x=some .cell∨scope.names.lookup x=some .free:=by
    rcases hx with hx | hx
    · rcases relabel_cases (env:=X.env) (names:=scope.names) hx with h | ⟨_,h⟩
      · exact .inl h
      · exact .inr h
    · rcases relabel_cases (env:=X.env) (names:=scope.names) hx with h | ⟨h,_⟩
      · exact .inr h
      · cases h
   rcases hcf with h | h
   · obtain ⟨c,hc⟩:=cellsFrom_has scope.names (s.heap.objs.size+1) (closeL X.env scope.names []) x (PySem.mem_of_lookup h)
     exact lookup_mem_some hc
   · obtain ⟨c,hc⟩:=closeL_has (env:=X.env) (cs:=[]) (PySem.mem_of_lookup h)
     exact lookup_mem_some (cellsFrom_acc scope.names (s.heap.objs.size+1) _ _ hc)
  cab:=fun x c h e=>by
   rcases hsp x c e with m | m
   · rcases closeL_free _ _ x c m with z | z
     · cases z
     · have hx:scope.names.lookup x=some .cell:=by simpa using (show (scope.names.lookup x==some NameKind.cell)=true from h)
       have:=uniq_kind S.uniq z (PySem.mem_of_lookup hx)
       cases this
   · exact Nat.le_of_succ_le m.1
  hd:=I.ok.hd
  frames:=I.ok.frames
  stk:=.inl rfl
  exf:=fun b hb=>⟨Nat.ne_of_lt (hlt b hb),fun x c e=>by
   rcases hsp x c e with m | m
   · exact (hf b hb).2.2.2.2.1 x c (hclm x c m)
   · intro z
     have h2:=m.1
     rw [z] at h2
     exact absurd (Nat.lt_of_lt_of_le (hlt b hb) (Nat.le_of_succ_le h2)) (Nat.lt_irrefl _)⟩
  bs:=I.bs
  bsz:=Nat.le_trans I.ok.bsz I.sz
  noex:=fun b o e hb=>by
   rcases (hf b hb).2.2.2.1 with z | z
   · exact I.ok.noex b o e z
   · exact absurd (Nat.lt_of_lt_of_le (Heap.lt_size e) (Nat.le_trans I.ok.bsz z)) (Nat.lt_irrefl _)
  exfs:=fun b hb hz=>by
   rcases List.mem_cons.mp (I.stkSub b hz) with e | e
   · exact (hf b hb).2.1 e
   · exact (hf b hb).2.2.1 e
  funs:=I.stack
  frf:=I.stkFree }
 refine ⟨hok,rfl,I.bare,Un.kept hk,⟨_,(Heap.Ns.new s.heap (.type "dict")).keeps (pushCells_keeps _ _),fun i x v e1 e2 e3=>?_⟩,fun x c e=>?_,I.hok.fresh (Nat.le_refl _),fun x c e=>?_,(fun p hp=>by cases hp),I.hok.kept hk,?_⟩
 · have hi:k≤i:=by
    rcases Nat.lt_or_ge i k with h | h
    · have e2:(startC k idx σ)[i]? = some (some v):=e2
      unfold startC at e2
      rw [List.getElem?_append_left (by simpa using h),List.getElem?_replicate] at e2
      split at e2<;>cases e2
    · exact h
   have e1':(N'.drop k)[i-k]? = some x:=by
    rw [List.getElem?_drop,show k+(i-k)=i by omega];exact e1
   have hfree:=S.free x (List.mem_of_getElem? e1')
   have e2':(idx.map fun i=>(σ[i]?).join)[i-k]? = some (some v):=by
    have e2:(startC k idx σ)[i]? = some (some v):=e2
    unfold startC at e2
    rw [List.getElem?_append_right (by simpa using hi),List.length_replicate] at e2
    exact e2
   rw [List.getElem?_map] at e2'
   cases hj:idx[i-k]? with
   | none=>rw [hj] at e2';cases e2'
   | some j=>
    rw [hj] at e2'
    have e3':(σ[j]?).join=some v:=by simpa using e2'
    have eσ:σ[j]? = some (some v):=by
     cases q:σ[j]? with
     | none=>rw [q] at e3';cases e3'
     | some o=>rw [q] at e3';cases o with
      | none=>cases e3'
      | some z=>cases e3';rfl
    have eN:X.N[j]? = some x:=by
     rw [hNN]
     have:=congrArg (fun l=>l[i-k]?) S.ix
     simp only [List.getElem?_map,e1',hj,Option.map_some] at this
     exact (Option.some.inj this).symm
    have hvk:=S.fr _ (PySem.mem_of_lookup hfree) rfl
    obtain ⟨m,hm,hl⟩:=I.loc
    obtain ⟨u,ru,lk⟩:=hl j x v eN eσ (by rw [hsc];exact .inr hvk)
    refine ⟨u,ru,.inr ⟨relabel_free (env:=X.env) hfree,?_⟩⟩
    rcases lk with ⟨kl,_⟩ | ⟨_,c,ec,z⟩
    · have kl:X.env.scope.names.lookup x=some .local := kl
      rw [hsc] at kl
      rcases hvk with q | q<;>(rw [kl] at q;cases q)
    · obtain ⟨d,hd⟩:=closeL_has (env:=X.env) (cs:=[]) (PySem.mem_of_lookup hfree)
      obtain ⟨d',hd'⟩:=lookup_mem_some (cellsFrom_acc scope.names (s.heap.objs.size+1) _ _ hd)
      have e:d'=c:=by
       rcases hsp x d' hd' with m | m
       · have:=hclm x d' m
         rw [ec] at this
         cases this;rfl
       · have:=uniq_kind S.uniq m.2 (PySem.mem_of_lookup hfree)
         cases this
      subst e
      obtain ⟨o,ho,hod⟩:=z
      exact ⟨d',hd',o,hk d' o ho,hod⟩
 · have e0:s.heap.objs.size+1=(s.heap.push { cls:=.type "dict",data:=.dict #[] }).objs.size:=by rw [Heap.size_push]
   have m:=PySem.mem_of_lookup (show (cellsFrom (s.heap.objs.size+1) scope.names (closeL X.env scope.names [])).lookup x=some c from e)
   rw [e0] at m
   rcases pushCells_cell _ _ _ x c m with m | m
   · obtain ⟨v,o,ho,hod⟩:=I.cell x c (hclm x c m)
     exact ⟨v,o,hk c o ho,hod⟩
   · exact ⟨none,m⟩
 · rcases hsp x c e with m | m
   · exact I.freeC x c (hclm x c m)
   · exact I.hok.fresh (Nat.le_of_succ_le m.1)
 · show (startC k idx σ).length=N'.length
   unfold startC
   rw [S.len,List.length_append,List.length_replicate,List.length_map]
end
section
variable {X:Cx}{tg iter elt:Expr}{ifs:List Expr}{scope sc:Scope}{N N':List Str}{k:Nat}{idx:List Nat}{wi:TI}{g:TG}{tt:TT}{te:TE}{pos:Pos}
theorem comp_blockC {pins:List (Addr×Obj)}{s:Shared}{σ:St}{E:Value→Shared→Prop}{RR:Value→Addr→Result→Shared→Prop}{itv:Value}{Qe:Addr→Hp→Prop}
 (hc:X.calm=true) (S:CompScopeC sc N scope N' k idx) (hsc:X.env.scope=sc) (hNN:X.N=N)
 (hg:∀ C s H fp,PG (cxCompC X N' scope C s H fp) tg g) (ht:∀ C s H fp,PTs (cxCompC X N' scope C s H fp) ifs tt) (he:∀ C s H fp,PE (cxCompC X N' scope C s H fp) elt te)
 (hit:PIE X pins σ tg (fun J H1=>∀ l,H1 l=none→cTurns J g tt te l (startC k idx σ) (upd H1 l (.lst [])) fun H2=>Qe l H2) itv s)
 (hRR:∀ l H2 C s2,Inv X pins σ H2 s2→(∃ m,s2.heap.Ns C m)→Free1 X pins H2 C→Qe l H2→RR (.ref l) C (.ok .next) s2) :
 wpAny (model X.prog X.w) X.A (newList []) (fun acc s₃=>wpAny (model X.prog X.w) X.A (newFunctionEnv scope X.env.globals (closeL X.env scope.names []) [] X.env.qual none .none (some X.env)) (fun cenv s₄=>
  codeAny (model X.prog X.w) X.A (.compStart (.ListComp elt [⟨tg,iter,ifs,0⟩] scope pos) 0 itv acc { cenv with scope:=relabel scope X.env }) (RR acc cenv.locals) s₄) E s₃) E s:=by
 obtain ⟨it,fp,tn,J,H1,rfl,I1,T,st1,f1,q⟩:=hit
 refine wpAny_newObj_type ?_
 have hf0:H1 s.heap.objs.size=none:=I1.hok.fresh (Nat.le_refl _)
 have hflt:∀ b∈fp,b<s.heap.objs.size:=fun b hb=>let ⟨_,e,_⟩:=T.obj _ _ st1 b hb;Heap.lt_size e
 generalize hl:s.heap.objs.size=l at *
 have I2:Inv X pins σ (upd H1 l (.lst [])) { s with heap:=s.heap.push { cls:=.type "list",dict:=none,data:=.seq ([]:List Value).toArray } }:=
  I1.laid (t':=s.toks) (fun b u e=>Heap.get?_push_of_some _ e) (Nat.le_of_eq hl) (show ObjOk _ _ _ _ l (.lst []) from ⟨Nat.zero_le _,[],0,.nil,by rw [← hl];exact Heap.get?_push_size _ rfl⟩)
 have st2:tn 0 (s.heap.push { cls:=.type "list",dict:=none,data:=.seq ([]:List Value).toArray }):=T.keep _ _ _ st1 fun b _ o e=>Heap.get?_push_of_some _ e
 have f2:∀ b∈fp,FpOk X pins (upd H1 l (.lst [])) b:=fun b hb=>⟨by rw [upd_ne (Nat.ne_of_lt (hflt b hb))];exact (f1 b hb).1,(f1 b hb).2⟩
 have hsz2:(s.heap.push { cls:=.type "list",dict:=none,data:=.seq ([]:List Value).toArray }).objs.size=l+1:=by rw [Heap.size_push,hl]
 have q2:=q l hf0
 generalize hs2:({ s with heap:=s.heap.push { cls:=.type "list",dict:=none,data:=.seq ([]:List Value).toArray } }:Shared)=s2 at I2 ⊢
 have st2:tn 0 s2.heap:=by rw [← hs2];exact st2
 have hsz2:s2.heap.objs.size=l+1:=by rw [← hs2];exact hsz2
 refine newEnv_cells ?_
 have hk1:∀ b o,s2.heap.get? b=some o→(pushCells (s2.heap.push { cls:=.type "dict",data:=.dict #[] }) scope.names).get? b=some o:=fun b o e=>pushCells_keeps _ _ b o (Heap.get?_push_of_some _ e)
 have hlt2:∀ b∈fp,b<s2.heap.objs.size:=fun b hb=>by rw [hsz2];exact Nat.lt_succ_of_lt (hflt b hb)
 have I3:=comp_startC (t':=s2.toks) I2 S hsc hNN f2 hlt2
 generalize pushCells (s2.heap.push { cls:=.type "dict",data:=.dict #[] }) scope.names=h₁ at *
 generalize hC:s2.heap.objs.size=C at *
 have st3:tn 0 h₁:=T.keep _ _ _ st2 fun b _ o e=>hk1 b o e
 obtain ⟨W,⟨m0,w0⟩,turn⟩:=q2
 -- back to the frame around
 have back:∀ {σ':St} {H':Hp} {s':Shared},Inv (cxCompC X N' scope C s2 (upd H1 l (.lst [])) fp) [] σ' H' s'→Inv X pins σ H' s':=fun {σ' H' s'} I'=>
  I2.call' I'.os I'.base I'.hok I'.bare fun b hb=>⟨(f2 b hb).2.2.2.1,(f2 b hb).2.1,(f2 b hb).2.2.2.2.1,(f2 b hb).2.2.2.2.2⟩
 have loop:∀ s₃:Shared,s₃ = { s2 with heap:=h₁,toks:=s2.toks } →
  codeAny (model X.prog X.w) X.A (.compLoop (.ListComp elt [⟨tg,iter,ifs,0⟩] scope pos) 0 (.ref it) (.ref l) (compEnvC scope (cellsFrom (C+1) scope.names (closeL X.env scope.names [])) C X.env)) (RR (.ref l) C) s₃:=by
  rintro s₃ rfl
  refine compLoop_go (fun n s'=>∃ i σ' H',Inv (cxCompC X N' scope C s2 (upd H1 l (.lst [])) fp) [] σ' H' s'∧tn i s'.heap∧(∀ b∈fp,H' b=none)∧W i n σ' H') ?_ m0 ⟨0,_,_,I3,st3,fun b hb=>(f2 b hb).1,w0⟩
  rintro n s4 ⟨i,σ4,H4,I4,st4,fr4,w4⟩
  have stat:∀ {H':Hp},(∀ b∈fp,H' b=none)→∀ b∈fp,FpOk (cxCompC X N' scope C s2 (upd H1 l (.lst [])) fp) [] H' b:=fun {H'} hn b hb=>
   ⟨hn b hb,(I4.ok.exf b hb).1,I4.ok.exfs b hb,.inl hb,(I4.ok.exf b hb).2,fun p hp=>by cases hp⟩
  rcases turn i n σ4 H4 w4 with ⟨stop,qn⟩ | ⟨go,step⟩
  · refine thn (T.done (cxCompC X N' scope C s2 (upd H1 l (.lst [])) fp) rfl rfl rfl hc i [] s4 σ4 H4 NoE I4 (stat fr4) st4 stop) fun r s5 ⟨hr,I5⟩=>?_
    subst hr
    have IX:=back I5
    have hCl:C≠X.env.locals:=fun e=>by
     have:=I2.lt
     rw [hC,← e] at this
     exact Nat.lt_irrefl _ this
    have hCc:∀ x c,X.env.cells.lookup x=some c→c≠C:=fun x c e z=>by
     obtain ⟨v,o,ho,_⟩:=I2.cell x c e
     have:=Heap.lt_size ho
     rw [hC,z] at this
     exact Nat.lt_irrefl _ this
    obtain ⟨m5,hm5,_⟩:=I5.loc
    refine hRR l H4 C s5 IX ⟨m5,hm5⟩ ⟨hCl,hCc,I5.free,by rw [← hC];exact I2.sz,fun p hp z=>?_⟩ qn
    obtain ⟨e,_⟩:=I2.pin p hp
    have:=Heap.lt_size e
    rw [hC,z] at this
    exact Nat.lt_irrefl _ this
  · refine thn (T.item (cxCompC X N' scope C s2 (upd H1 l (.lst [])) fp) rfl rfl rfl hc i [] s4 σ4 H4 NoE I4 (stat fr4) st4 go) fun r s5 ⟨u,hr,h5⟩=>?_
    subst hr
    refine thn h5 fun _ s6 ⟨x,H6,I6,r6,y6,st6,fr6⟩=>?_
    have I6':=I6.pinned (stat fr6) (T.obj _ _ st6)
    have keepT:∀ {σ7:St} {H7:Hp} {s7:Shared},Inv (cxCompC X N' scope C s2 (upd H1 l (.lst [])) fp) ([]++pinsAt fp s6.heap) σ7 H7 s7→tn (i+1) s7.heap∧∀ b∈fp,H7 b=none:=fun {σ7 H7 s7} I7=>
     ⟨T.keep _ _ _ st6 fun b hb o e=>(I7.pin (b,o) (List.mem_append_right _ (List.mem_append_right _ (mem_pinsAt hb e)))).1,fun b hb=>by
      obtain ⟨o,e,d⟩:=T.obj _ _ st6 b hb
      exact (I7.pin (b,o) (List.mem_append_right _ (List.mem_append_right _ (mem_pinsAt hb e)))).2.1⟩
    refine thn (hg C s2 (upd H1 l (.lst [])) fp _ s6 σ4 H6 x u _ I6' r6 (step x H6 y6)) fun _ s7 ⟨σ7,H7,I7,q7⟩=>?_
    refine thn (ht C s2 (upd H1 l (.lst [])) fp _ s7 σ7 H7 _ I7 q7) fun ok s8 ⟨H8,I8,q8⟩=>?_
    cases ok with
    | false=>
     rw [if_neg (by decide)] at q8 ⊢
     obtain ⟨m',hm,w8⟩:=q8
     have kt:=keepT I8
     exact ⟨m',hm,i+1,σ7,H8,I8.unpinned,kt.1,kt.2,w8⟩
    | true=>
     rw [if_pos rfl] at q8 ⊢
     refine thn (he C s2 (upd H1 l (.lst [])) fp _ s8 σ7 H8 _ I8 q8) fun v s9 ⟨y,H9,I9,r9,xs,e9,z9,m',hm,w9⟩=>?_
     refine thn (mt_append _ s9 σ7 H9 (.ref l) [y] (.ref l) [v] (fun z H10=>z = .non∧H10=upd H9 l (.lst (xs++[y]))) I9 rfl (.cons r9 .nil) ⟨l,xs,y,rfl,rfl,e9,z9,rfl,rfl⟩) fun _ s10 ⟨z,H10,I10,_,_,e10⟩=>?_
     subst e10
     have kt:=keepT I10
     exact ⟨m',hm,i+1,σ7,_,I10.unpinned,kt.1,kt.2,w9⟩
 have e2:(newEnv scope C X.env.globals (cellsFrom (C+1) scope.names (closeL X.env scope.names [])) X.env.qual none .none (some X.env) builtinsNs).locals=C:=rfl
 show codeAny _ _ (.compStart _ 0 (.ref it) (.ref l) (compEnvC scope (cellsFrom (C+1) scope.names (closeL X.env scope.names [])) C X.env)) (RR (.ref l) C) _
 exact codeAny_compStart_list (loop _ rfl) (T.self _ 0 _ _ _ st3 (loop _ rfl))
theorem ps_setcompC {i:Nat}{y:Str}{py spos:Pos}(hc:X.calm=true) (hN:X.N.Nodup) (hiN:X.N[i]? = some y) (hy:X.env.scope.names.lookup y=some .local) (S:CompScopeC sc N scope N' k idx) (hsc:X.env.scope=sc) (hNN:X.N=N) (hi:PI X tg iter wi)
 (hg:∀ C s H fp,PG (cxCompC X N' scope C s H fp) tg g) (ht:∀ C s H fp,PTs (cxCompC X N' scope C s H fp) ifs tt) (he:∀ C s H fp,PE (cxCompC X N' scope C s H fp) elt te)
 (hsw:swapsWith (.ListComp elt [⟨tg,iter,ifs,0⟩] scope pos) (some (.Name y py)) spos.line X.env=pure true:=by rfl)
 (hs:∀ x,foldedSetIterable iter X.env x=pure x:=by intro _;rfl):PS X (.Assign [.Name y py] (.ListComp elt [⟨tg,iter,ifs,0⟩] scope pos) spos) (tSetComp i wi k idx g tt te):=by
 intro pins s σ H D I h
 rw [exec_Assign_Name_used _ _ _ _ hsw]
 refine wpAny_bind (wpAny_standAt (wpAny_bind ?_))
 show wpAny _ X.A (do let _ ← comprehension (.ListComp elt [⟨tg,iter,ifs,0⟩] scope pos) scope X.env _ (newList []) false (eval iter X.env) (some (assign (.Name y py) X.env))) _ _ s
 have hclos:closureFor scope X.env=pure (closeL X.env scope.names []):=closureFor_eq fun x hx hfree=>I.ok.has x.1 (by
  show X.env.scope.names.lookup x.1=_∨X.env.scope.names.lookup x.1=_
  rw [hsc];exact S.fr x hx hfree)
 refine wpAny_bind (wpAny_mono (wpAny_comprehension_free (use:=some (assign (.Name y py) X.env)) (Q:=fun _ s'=>SP X pins D .next s') rfl hs hclos S.kind S.loc (thn (hi pins s σ H _ I h) fun v s1 h1=>thn h1 fun itv s2 h2=>?_))
  (fun _ s' hq=>wpAny_pure (wpAny_pure hq)) fun _ _ e=>e)
 refine comp_blockC (RR:=fun acc C=>compPost (model X.prog X.w) X.A X.xe (some (assign (.Name y py) X.env)) (fun _ s'=>SP X pins D .next s') acc C) (Qe:=fun l H2=>D.nx (σ.set i (some (.ref l))) H2) hc S hsc hNN hg ht he h2 ?_
 intro l H2 C s2 I2 hm f q
 obtain ⟨m,hm⟩:=hm
 show wpAny _ X.A (assign (.Name y py) X.env (.ref l)) _ _ _
 refine wpAny_assign_Name (store_ok2 (v:=.ref l) I2 hN hiN (.inl hy) rfl (fun s' I' hch=>?_) (.inr hy))
 obtain ⟨a,hsb,ha⟩:=hch
 have haC:C≠a:=fun z=>by
  rcases ha with e | e
  · exact f.loc (z.trans e)
  · exact f.cel y a e z.symm
 exact ⟨m,hm.sameBut hsb haC,fun h' hs'=>⟨_,H2,I'.freed f hs',q⟩⟩
end
noncomputable def relS (scope osc:Scope):Scope:={ scope with names:=scope.names.map fun (n,k)=>if (k==NameKind.free&&osc.kind == .function&&osc.names.lookup n==some .cell) then (n,NameKind.cell) else (n,k) }
theorem hscC {X:Cx}{N':List Str}{scope osc:Scope}{C:Addr}{s:Shared}{H:Hp}{fp:List Addr}(h:X.env.scope=osc):(cxCompC X N' scope C s H fp).env.scope=relS scope osc:=by
 subst h;rfl
end L2
namespace My
open PySem PySem.Spec PyProof.Rows L2
inductive Vl where
 | jnk | jar | tape | d (x:PyData) | own (xs:List PyData) | dct (kvs:List (Key×PyData)) | own2 (ks:Option (List Key)) (ps:List (Addr×List PyData)) | pin (v:V) (x:PyData)
structure Src where
 jv:V
 ch:List Addr
 inv:Nat→Hp→Prop
 keep:∀ {n:Nat} {H H':Hp},inv n H→(∀ b∈ch,∀ o,H b=some o→H' b=some o)→inv n H'
 dom:∀ {n:Nat} {H:Hp},inv n H→∀ b∈ch,H b≠none
noncomputable def Src.no:Src:=⟨.non,[],fun _ _=>True,fun _ _=>trivial,fun _ _ h=>by cases h⟩
noncomputable def JarN (H:Hp) (p c:Addr) (n:Nat):Prop:=∃ e,JarE H p c e∧(n=0∨e=some (n:Int))
theorem JarN.jar {H:Hp}{p c:Addr}{n:Nat}(J:JarN H p c n):Jar H p c:=J.choose_spec.1.jar
theorem Jar.n {H:Hp}{p c:Addr}(J:Jar H p c):JarN H p c 0:=let ⟨e,h⟩:=J.e;⟨e,h,.inl rfl⟩
theorem jar_dom {H:Hp}{p c:Addr}{n:Nat}(J:JarN H p c n):∀ b∈[p,c],H b≠none:=fun b hb z=>J.jar.fresh z hb
theorem jar_keep {H H':Hp}{p c:Addr}{n:Nat}(J:JarN H p c n) (h:∀ b∈[p,c],∀ o,H b=some o→H' b=some o):JarN H' p c n:=by
 obtain ⟨e,⟨ns,r,s,t,X,h3⟩,hn⟩:=J
 exact ⟨e,⟨ns,r,s,t,⟨h _ (by simp) _ X.d,h _ (by simp) _ X.l⟩,h3⟩,hn⟩
noncomputable def Src.jar (p c:Addr):Src:=⟨.ref p,[p,c],fun n H=>JarN H p c n,fun J h=>jar_keep J h,fun J=>jar_dom J⟩
theorem tape_keep {H H':Hp}{p c:Addr}{n:Nat}(J:Tape H p c n) (h:∀ b∈[p,c],∀ o,H b=some o→H' b=some o):Tape H' p c n:=by
 obtain ⟨ns,a,g,h1,h2,h3⟩:=J.ex
 exact ⟨ns,a,g,h _ (by simp) _ h1,h _ (by simp) _ h2,h3⟩
noncomputable def Src.tape (p c:Addr):Src:=⟨.ref p,[p,c],fun n H=>Tape H p c n,fun J h=>tape_keep J h,fun J b hb z=>J.fresh z hb⟩
noncomputable def Step (S:Src) (n':Nat) (H H':Hp):Prop:=Kp S.ch H H'∧S.inv n' H'
section
variable {S:Src}{n m:Nat}{H H1 H2 H':Hp}{ex:List Addr}
theorem Step.refl (h:S.inv n H):Step S n H H:=⟨.refl,h⟩
theorem Step.trans (a:Step S n H H1) (b:Step S m H1 H2):Step S m H H2:=⟨a.1.trans b.1,b.2⟩
theorem Step.new (h:S.inv n H) (k:Kp [] H H'):Step S n H H':=⟨k.of,S.keep h fun b _ o e=>k b o e (by simp)⟩
theorem Step.then (a:Step S n H H1) (k:Kp [] H1 H2):Step S n H H2:=a.trans (.new a.2 k)
theorem Step.free {p:Addr}(a:Step S n H H1) (h:H1 p=none):H p=none:=by
 cases e:H p with
 | none=>rfl
 | some o=>
  by_cases hp:p∈S.ch
  · exact absurd h (S.dom a.2 p hp)
  · rw [a.1 p o e hp] at h;cases h
noncomputable def Alc (ex:List Addr) (H:Hp):Prop:=∀ a∈ex,H a≠none
theorem Alc.nm {p:Addr}(h:Alc ex H) (e:H p=none):p∉ex:=fun z=>h p z e
theorem Alc.step (h:Alc ex H) (k:Step S n H H'):Alc ex H':=fun a ha z=>h a ha (k.free z)
mutual
theorem Rep.add {l:Addr}(h:H l=none):∀ {d:PyData}{v:V},Rep ex H d v→Rep (l::ex) H d v
 | _,_,.none=>.none
 | _,_,.bool b=>.bool b
 | _,_,.int i=>.int i
 | _,_,.str x=>.str x
 | _,_,.tuple e n z r=>.tuple e (fun q=>(List.mem_cons.mp q).elim (fun q=>by rw [q,h] at e;cases e) n) z (Reps.add h r)
 | _,_,.list e n z r=>.list e (fun q=>(List.mem_cons.mp q).elim (fun q=>by rw [q,h] at e;cases e) n) z (Reps.add h r)
theorem Reps.add {l:Addr}(h:H l=none):∀ {ds:List PyData}{vs:List V},Reps ex H ds vs→Reps (l::ex) H ds vs
 | _,_,.nil=>.nil
 | _,_,.cons r t=>.cons (Rep.add h r) (Reps.add h t)
end
theorem Reps.sub {l:Addr}{d:List PyData}{v:List V}(r:Reps (l::ex) H d v):Reps ex H d v:=Reps.mono (fun b hb=>List.mem_cons_of_mem _ hb) r
end
noncomputable def exm (m:Bool) (S:Src) (ex:List Addr):List Addr:=match m with | true=>ex | false=>S.ch
noncomputable def KvR (ex:List Addr) (H:Hp) (kvs:List (Key×PyData)) (kws:List (Key×V)):Prop:=kws.map (·.1)=kvs.map (·.1)∧Reps ex H (kvs.map (·.2)) (kws.map (·.2))
noncomputable def nestO (ks:Option (List Key)) (rs:List V):HO:=match ks with
 | none=>.lst rs
 | some ks=>.dK (ks.zip rs)
structure In2 (S:Src) (ex:List Addr) (H:Hp) (p:Addr×List PyData):Prop where
 m:p.1∈ex
 c:p.1∉S.ch
 h:∃ vs,H p.1=some (.lst vs)∧vs.length≤sizeLine∧Reps ex H p.2 vs
noncomputable def refs (ps:List (Addr×List PyData)):List V:=ps.map fun p=>.ref p.1
structure Own2 (S:Src) (ex:List Addr) (H:Hp) (ks:Option (List Key)) (ps:List (Addr×List PyData)) (a:Addr):Prop where
 h:H a=some (nestO ks (refs ps))
 z:ps.length≤1000000
 k:∀ l,ks=some l→l.length=ps.length
 nd:(a::ps.map (·.1)).Nodup
 m:a∈ex
 c:a∉S.ch
 i:∀ p∈ps,In2 S ex H p
noncomputable def SlR (S:Src) (ex:List Addr) (H:Hp):Vl→Option V→Prop
 | .jnk,_=>True
 | .jar,o=>∃ p c,S=Src.jar p c∧o=some (.ref p)
 | .tape,o=>∃ p c,S=Src.tape p c∧o=some (.ref p)
 | .d x,o=>∃ v,o=some v∧Rep ex H x v
 | .own xs,o=>∃ a vs,o=some (.ref a)∧H a=some (.lst vs)∧vs.length≤sizeLine∧Reps ex H xs vs∧a∈ex∧a∉S.ch
 | .dct kvs,o=>∃ a kws,o=some (.ref a)∧H a=some (.dK kws)∧KvR ex H kvs kws∧a∈ex∧a∉S.ch
 | .own2 ks ps,o=>∃ a,o=some (.ref a)∧Own2 S ex H ks ps a
 | .pin v x,o=>o=some v∧Rep ex H x v
structure Ev (S:Src) (ex:List Addr) (env:List Vl) (σ:L2.St) (H:Hp) (n:Nat):Prop where
 len:env.length≤σ.length
 sl:∀ (i:Nat) (w:Vl),env[i]? = some w→SlR S ex H w (σ[i]?).join
 ch:∀ a∈S.ch,a∈ex
 al:Alc ex H
 inv:S.inv n H
section
variable {S:Src}{n m:Nat}{H H1 H2 H':Hp}{ex:List Addr}{env:List Vl}{σ:L2.St}
theorem SlR.kp {w:Vl}{o:Option V}(hc:∀ a∈S.ch,a∈ex) (k:Kp S.ch H H') (h:SlR S ex H w o):SlR S ex H' w o:=by
 have kx:Kp ex H H':=k.mono hc
 cases w with
 | jnk=>trivial
 | jar=>exact h
 | tape=>exact h
 | d x=>obtain ⟨v,e,r⟩:=h;exact ⟨v,e,r.keep kx⟩
 | pin v x=>obtain ⟨e,r⟩:=h;exact ⟨e,r.keep kx⟩
 | own xs=>obtain ⟨a,vs,e,h1,h2,h3,h4,h5⟩:=h;exact ⟨a,vs,e,k _ _ h1 h5,h2,h3.keep kx,h4,h5⟩
 | dct kvs=>obtain ⟨a,kws,e,h1,⟨h2,h3⟩,h4,h5⟩:=h;exact ⟨a,kws,e,k _ _ h1 h5,⟨h2,h3.keep kx⟩,h4,h5⟩
 | own2 ks ps=>obtain ⟨a,e,q⟩:=h;exact ⟨a,e,k _ _ q.h q.c,q.z,q.k,q.nd,q.m,q.c,fun p hp=>let w:=q.i p hp;⟨w.m,w.c,let ⟨vs,h1,h2,h3⟩:=w.h;⟨vs,k _ _ h1 w.c,h2,h3.keep kx⟩⟩⟩
theorem Ev.step (E:Ev S ex env σ H n) (k:Step S m H H'):Ev S ex env σ H' m:=⟨E.len,fun i w e=>(E.sl i w e).kp E.ch k.1,E.ch,E.al.step k,k.2⟩
theorem Ev.rep (E:Ev S ex env σ H n) (k:Step S m H H') {d:PyData}{v:V}(r:Rep ex H d v):Rep ex H' d v:=r.keep (k.1.mono E.ch)
theorem Ev.reps (E:Ev S ex env σ H n) (k:Step S m H H') {d:List PyData}{v:List V}(r:Reps ex H d v):Reps ex H' d v:=r.keep (k.1.mono E.ch)
theorem Ev.sub (E:Ev S ex env σ H n) (b:Bool):∀ a∈exm b S ex,a∈ex:=by
 cases b with
 | true=>exact fun a h=>h
 | false=>exact E.ch
theorem Ev.sup (E:Ev S ex env σ H n) (b:Bool):∀ a∈S.ch,a∈exm b S ex:=by
 cases b with
 | true=>exact E.ch
 | false=>exact fun a h=>h
theorem Ev.alm (E:Ev S ex env σ H n) (b:Bool):Alc (exm b S ex) H:=fun a h=>E.al a (E.sub b a h)
theorem Ev.repm (E:Ev S ex env σ H n) (b:Bool) (k:Step S m H H') {d:PyData}{v:V}(r:Rep (exm b S ex) H d v):Rep (exm b S ex) H' d v:=r.keep (k.1.mono (E.sup b))
theorem Rep.nil {d:PyData}{v:V}(r:Rep ex H d v):Rep [] H d v:=Rep.mono (fun b hb=>by cases hb) r
theorem Reps.nil' {d:List PyData}{v:List V}(r:Reps ex H d v):Reps [] H d v:=Reps.mono (fun b hb=>by cases hb) r
theorem join_some {i:Nat}{v:V}(h:(σ[i]?).join=some v):σ[i]? = some (some v):=by
 cases e:σ[i]? with
 | none=>rw [e] at h;cases h
 | some o=>rw [e] at h;cases o with
  | none=>cases h
  | some u=>cases h;rfl
end
noncomputable abbrev GE:=List Vl→Nat→(PyData→Nat→Prop)→Prop
noncomputable abbrev GT:=List Vl→Nat→(Bool→Nat→Prop)→Prop
noncomputable abbrev GA:=List Vl→Nat→(List Vl→Nat→Prop)→Prop
noncomputable abbrev GN:=List Vl→Nat→(List PyData→Nat→Prop)→Prop
noncomputable abbrev GSp:=List Vl→Nat→(PyData→Nat→Prop)→Prop
noncomputable abbrev GSn:=List Vl→Nat→(List PyData→Nat→Prop)→Prop
noncomputable def ArgsR (S:Src) (ex:List Addr) (H:Hp):List Vl→List V→Prop
 | [],[]=>True
 | a::as,v::vs=>SlR S ex H a (some v)∧ArgsR S ex H as vs
 | _,_=>False
class EV (m:Bool) (te:TE) (g:outParam GE):Prop where
 ev:∀ {S:Src} {ex:List Addr} {env:List Vl} {σ:L2.St} {H:Hp} {n:Nat} {Q:VK} {P:PyData→Nat→Prop},Ev S ex env σ H n→g env n P→(∀ d n' v H',P d n'→Step S n' H H'→Rep (exm m S ex) H' d v→Q v H')→te σ H Q
class NV (te:TE) (g:outParam GN):Prop where
 nv:∀ {S:Src} {ex:List Addr} {env:List Vl} {σ:L2.St} {H:Hp} {n:Nat} {Q:VK} {P:List PyData→Nat→Prop},Ev S ex env σ H n→g env n P→(∀ ds n' a vs H',P ds n'→Step S n' H H'→H a=none→H' a=some (.lst vs)→vs.length≤sizeLine→Reps (a::ex) H' ds vs→Q (.ref a) H')→te σ H Q
class TV (tt:TT) (g:outParam GT):Prop where
 tv:∀ {S:Src} {ex:List Addr} {env:List Vl} {σ:L2.St} {H:Hp} {n:Nat} {Q:Bool→Hp→Prop} {P:Bool→Nat→Prop},Ev S ex env σ H n→g env n P→(∀ b n' H',P b n'→Step S n' H H'→Q b H')→tt σ H Q
class AV (m:Bool) (ta:TA) (g:outParam GA):Prop where
 av:∀ {S:Src} {ex:List Addr} {env:List Vl} {σ:L2.St} {H:Hp} {n:Nat} {Q:List V→Hp→Prop} {P:List Vl→Nat→Prop},Ev S ex env σ H n→g env n P→(∀ as n' vs H',P as n'→Step S n' H H'→ArgsR S (exm m S ex) H' as vs→Q vs H')→ta σ H Q
class DV (m:Bool) (ta:TA) (g:outParam GN):Prop where
 dv:∀ {S:Src} {ex:List Addr} {env:List Vl} {σ:L2.St} {H:Hp} {n:Nat} {Q:List V→Hp→Prop} {P:List PyData→Nat→Prop},Ev S ex env σ H n→g env n P→(∀ ds n' vs H',P ds n'→Step S n' H H'→Reps (exm m S ex) H' ds vs→Q vs H')→ta σ H Q
noncomputable abbrev G2:=PyData→PyData→(PyData→Prop)→Prop
class OV (r:R2) (f:outParam G2):Prop where
 ov:∀ {ex:List Addr} {H:Hp} {x y:V} {dx dy:PyData} {Q:VK} {P:PyData→Prop},Alc ex H→Rep ex H dx x→Rep ex H dy y→f dx dy P→(∀ d v H',P d→Kp [] H H'→Rep ex H' d v→Q v H')→r x y H Q
class OS (r:R2) (f:outParam G2):Prop where
 os:∀ {H:Hp} {x y:V} {dx dy:PyData} {Q:VK} {P:PyData→Prop},Rep [] H dx x→Rep [] H dy y→f dx dy P→(∀ d v,P d→(∀ ex,Rep ex H d v)→Q v H)→r x y H Q
class ON (r:R2) (f:outParam (PyData→PyData→(List PyData→Prop)→Prop)):Prop where
 on:∀ {ex:List Addr} {H:Hp} {x y:V} {dx dy:PyData} {Q:VK} {P:List PyData→Prop},Rep ex H dx x→Rep ex H dy y→f dx dy P→(∀ ds p vs,P ds→H p=none→vs.length≤sizeLine→Reps ex H ds vs→Q (.ref p) (upd H p (.lst vs)))→r x y H Q
noncomputable abbrev G1:=List PyData→(PyData→Prop)→Prop
class CS (r:List V→Hp→VK→Prop) (f:outParam G1):Prop where
 cs:∀ {H:Hp} {xs:List V} {ds:List PyData} {Q:VK} {P:PyData→Prop},Reps [] H ds xs→f ds P→(∀ d v,P d→(∀ ex,Rep ex H d v)→Q v H)→r xs H Q
class CO (r:List V→Hp→VK→Prop) (f:outParam G1):Prop where
 co:∀ {ex:List Addr} {H:Hp} {xs:List V} {ds:List PyData} {Q:VK} {P:PyData→Prop},Alc ex H→Reps ex H ds xs→f ds P→(∀ d v H',P d→Kp [] H H'→Rep ex H' d v→Q v H')→r xs H Q
class CN (r:List V→Hp→VK→Prop) (f:outParam (List PyData→(List PyData→Prop)→Prop)):Prop where
 cn:∀ {ex:List Addr} {H:Hp} {xs:List V} {ds:List PyData} {Q:VK} {P:List PyData→Prop},Reps ex H ds xs→f ds P→(∀ es p vs,P es→H p=none→vs.length≤sizeLine→Reps ex H es vs→Q (.ref p) (upd H p (.lst vs)))→r xs H Q
noncomputable abbrev gVar (i:Nat):GE:=fun env n Q=>match env[i]? with
 | some (.d x)=>Q x n
 | some (.pin _ x)=>Q x n
 | _=>False
noncomputable abbrev gLook (i:Nat):GE:=fun env n Q=>match env[i]? with
 | some (.d x)=>Q x n
 | some (.pin _ x)=>Q x n
 | some (.own xs)=>Q (.list xs) n
 | some (.own2 none ps)=>Q (.list (ps.map fun p=>.list p.2)) n
 | _=>False
theorem own2_reps {S:Src}{ex:List Addr}{H:Hp}:∀ {ps:List (Addr×List PyData)},(∀ a∈S.ch,a∈ex)→(∀ p∈ps,In2 S ex H p)→Reps S.ch H (ps.map fun p=>PyData.list p.2) (refs ps)
 | [],_,_=>.nil
 | p::ps,hc,h=>by
  have w:=h p List.mem_cons_self
  obtain ⟨vs,h1,h2,h3⟩:=w.h
  exact .cons (.list h1 w.c h2 (Reps.mono hc h3)) (own2_reps hc fun q hq=>h q (List.mem_cons_of_mem _ hq))
noncomputable abbrev gC (d:PyData):GE:=fun _ n Q=>Q d n
section
variable {S:Src}{n m:Nat}{H H1 H2 H':Hp}{ex:List Addr}{env:List Vl}{σ:L2.St}{b:Bool}{te ta tb tc:TE}{g ga gb gc:GE}
noncomputable instance ev_var {i:Nat}:EV true (tVar i) (gVar i):=⟨fun {S ex env σ H n Q P} E h k=>by
 unfold gVar at h
 split at h
 · rename_i x e
   obtain ⟨v,ev,r⟩:=E.sl i _ e
   exact ⟨v,join_some ev,k _ _ v H h (.refl E.inv) r⟩
 · rename_i v x e
   obtain ⟨ev,r⟩:=E.sl i _ e
   exact ⟨v,join_some ev,k _ _ v H h (.refl E.inv) r⟩
 · exact h.elim⟩
noncomputable instance pv_var {i:Nat}:EV false (tVar i) (gLook i):=⟨fun {S ex env σ H n Q P} E h k=>by
 unfold gLook at h
 split at h
 · rename_i x e
   obtain ⟨v,ev,r⟩:=E.sl i _ e
   exact ⟨v,join_some ev,k _ _ v H h (.refl E.inv) (Rep.mono E.ch r)⟩
 · rename_i v x e
   obtain ⟨ev,r⟩:=E.sl i _ e
   exact ⟨v,join_some ev,k _ _ v H h (.refl E.inv) (Rep.mono E.ch r)⟩
 · rename_i xs e
   obtain ⟨a,vs,ev,h1,h2,h3,h4,h5⟩:=E.sl i _ e
   exact ⟨_,join_some ev,k _ _ _ H h (.refl E.inv) (.list h1 h5 h2 (Reps.mono E.ch h3))⟩
 · rename_i ps e
   obtain ⟨a,ev,q⟩:=E.sl i _ e
   have hs:sizeLine=16777216:=sizeLine_eq
   exact ⟨_,join_some ev,k _ _ _ H h (.refl E.inv) (.list q.h q.c (by unfold refs;rw [List.length_map];have:=q.z;omega) (own2_reps E.ch q.i))⟩
 · exact h.elim⟩
noncomputable instance ev_int {i:Int}:EV b (tC (.int i)) (gC (.int i)):=⟨fun E h k=>k _ _ _ _ h (.refl E.inv) (.int i)⟩
noncomputable instance ev_bl {i:Bool}:EV b (tC (.bl i)) (gC (.bool i)):=⟨fun E h k=>k _ _ _ _ h (.refl E.inv) (.bool i)⟩
noncomputable instance ev_str {i:Str}:EV b (tC (.str i)) (gC (.str i)):=⟨fun E h k=>k _ _ _ _ h (.refl E.inv) (.str i)⟩
noncomputable instance ev_non:EV b (tC .non) (gC .none):=⟨fun E h k=>k _ _ _ _ h (.refl E.inv) .none⟩
noncomputable abbrev gOp (f:G2) (ga gb:GE):GE:=fun env n Q=>ga env n fun x n1=>gb env n1 fun y n2=>f x y fun d=>Q d n2
noncomputable instance ev_opS {r:R2}{f:G2} [O:OS r f] [A:EV false ta ga] [B:EV false tb gb]:EV b (tOp r ta tb) (gOp f ga gb):=⟨fun {S ex env σ H n Q P} E h k=>by
 refine A.ev E h fun x n1 v1 H1 h1 s1 r1=>B.ev (E.step s1) h1 fun y n2 v2 H2 h2 s2 r2=>?_
 exact O.os (Rep.nil ((E.step s1).repm false s2 r1)) (Rep.nil r2) h2 fun d v p r=>k _ _ _ _ p (s1.trans s2) (r _)⟩
noncomputable instance (priority:=low) ev_op {r:R2}{f:G2} [O:OV r f] [A:EV b ta ga] [B:EV b tb gb]:EV b (tOp r ta tb) (gOp f ga gb):=⟨fun {S ex env σ H n Q P} E h k=>by
 refine A.ev E h fun x n1 v1 H1 h1 s1 r1=>B.ev (E.step s1) h1 fun y n2 v2 H2 h2 s2 r2=>?_
 exact O.ov ((E.step (s1.trans s2)).alm b) ((E.step s1).repm b s2 r1) r2 h2 fun d v H' p kp r=>k _ _ _ _ p ((s1.trans s2).then kp) r⟩
noncomputable abbrev gNew (g:GN):GE:=fun env n Q=>g env n fun ds n'=>Q (.list ds) n'
noncomputable instance (priority:=low) ev_nv {g:GN} [N:NV te g]:EV b te (gNew g):=⟨fun {S ex env σ H n Q P} E h k=>
 N.nv E h fun ds n' a vs H' p st ha hl hz r=>k _ _ _ _ p st (.list hl (fun z=>E.alm b a z ha) hz (Reps.mono (fun c hc=>List.mem_cons_of_mem _ (E.sub b c hc)) r))⟩
noncomputable abbrev gOpN (f:PyData→PyData→(List PyData→Prop)→Prop) (ga gb:GE):GN:=fun env n Q=>ga env n fun x n1=>gb env n1 fun y n2=>f x y fun d=>Q d n2
theorem nv_close {S:Src}{ex:List Addr}{env:List Vl}{σ:L2.St}{H H1:Hp}{n n1:Nat}{p:Addr}{vs:List V}{ds:List PyData}(E:Ev S ex env σ H n) (s:Step S n1 H H1) (hp:H1 p=none) (r:Reps ex H1 ds vs) :
 Step S n1 H (upd H1 p (.lst vs))∧H p=none∧Reps (p::ex) (upd H1 p (.lst vs)) ds vs:=
 ⟨s.then (Kp.new hp _),s.free hp,(Reps.add hp r).keep (Kp.new hp _)⟩
noncomputable instance nv_op {r:R2}{f:PyData→PyData→(List PyData→Prop)→Prop} [O:ON r f] [A:EV true ta ga] [B:EV true tb gb]:NV (tOp r ta tb) (gOpN f ga gb):=⟨fun {S ex env σ H n Q P} E h k=>by
 refine A.ev E h fun x n1 v1 H1 h1 s1 r1=>B.ev (E.step s1) h1 fun y n2 v2 H2 h2 s2 r2=>?_
 refine O.on ((E.step s1).repm true s2 r1) r2 h2 fun ds p vs pp hp hz r=>?_
 obtain ⟨c1,c2,c3⟩:=nv_close E (s1.trans s2) hp r
 exact k _ _ _ _ _ pp c1 c2 upd_same hz c3⟩
noncomputable abbrev gNilA:GA:=fun _ n Q=>Q [] n
noncomputable abbrev gArg (i:Nat) (rest:GA):GA:=fun env n Q=>match env[i]? with
 | some (.d x)=>rest env n fun as n'=>Q (.d x::as) n'
 | some .jar=>rest env n fun as n'=>Q (.jar::as) n'
 | some .tape=>rest env n fun as n'=>Q (.tape::as) n'
 | _=>False
noncomputable abbrev gArgL (i:Nat) (rest:GA):GA:=fun env n Q=>match env[i]? with
 | some (.d x)=>rest env n fun as n'=>Q (.d x::as) n'
 | some (.own xs)=>rest env n fun as n'=>Q (.d (.list xs)::as) n'
 | some (.own2 none ps)=>rest env n fun as n'=>Q (.d (.list (ps.map fun p=>.list p.2))::as) n'
 | some .jar=>rest env n fun as n'=>Q (.jar::as) n'
 | some .tape=>rest env n fun as n'=>Q (.tape::as) n'
 | _=>False
noncomputable abbrev gConsA (g:GE) (rest:GA):GA:=fun env n Q=>g env n fun d n1=>rest env n1 fun as n2=>Q (.d d::as) n2
noncomputable abbrev gNilD:GN:=fun _ n Q=>Q [] n
noncomputable abbrev gConsD (g:GE) (rest:GN):GN:=fun env n Q=>g env n fun d n1=>rest env n1 fun as n2=>Q (d::as) n2
noncomputable instance av_nil:AV b tNil gNilA:=⟨fun E h k=>k _ _ _ _ h (.refl E.inv) trivial⟩
noncomputable instance (priority:=low) av_cons {t:TA}{gt:GA} [A:EV b te g] [B:AV b t gt]:AV b (tCons te t) (gConsA g gt):=⟨fun {S ex env σ H n Q P} E h k=>
 A.ev E h fun x n1 v1 H1 h1 s1 r1=>B.av (E.step s1) h1 fun as n2 vs H2 h2 s2 r2=>k _ _ _ _ h2 (s1.trans s2) ⟨⟨_,rfl,(E.step s1).repm b s2 r1⟩,r2⟩⟩
noncomputable instance av_var {t:TA}{gt:GA}{i:Nat} [B:AV true t gt]:AV true (tCons (tVar i) t) (gArg i gt):=⟨fun {S ex env σ H n Q P} E h k=>by
 unfold gArg at h
 split at h
 · rename_i x e
   obtain ⟨v,ev,r⟩:=E.sl i _ e
   exact ⟨v,join_some ev,B.av E h fun as n2 vs H2 h2 s2 r2=>k _ _ _ _ h2 s2 ⟨⟨_,rfl,E.repm true s2 r⟩,r2⟩⟩
 · rename_i e
   obtain ⟨p,c,hS,ev⟩:=E.sl i _ e
   exact ⟨_,join_some ev,B.av E h fun as n2 vs H2 h2 s2 r2=>k _ _ _ _ h2 s2 ⟨⟨p,c,hS,rfl⟩,r2⟩⟩
 · rename_i e
   obtain ⟨p,c,hS,ev⟩:=E.sl i _ e
   exact ⟨_,join_some ev,B.av E h fun as n2 vs H2 h2 s2 r2=>k _ _ _ _ h2 s2 ⟨⟨p,c,hS,rfl⟩,r2⟩⟩
 · exact h.elim⟩
noncomputable instance av_look {t:TA}{gt:GA}{i:Nat} [B:AV false t gt]:AV false (tCons (tVar i) t) (gArgL i gt):=⟨fun {S ex env σ H n Q P} E h k=>by
 unfold gArgL at h
 split at h
 · rename_i x e
   obtain ⟨v,ev,r⟩:=E.sl i _ e
   exact ⟨v,join_some ev,B.av E h fun as n2 vs H2 h2 s2 r2=>k _ _ _ _ h2 s2 ⟨⟨_,rfl,E.repm false s2 (Rep.mono E.ch r)⟩,r2⟩⟩
 · rename_i xs e
   obtain ⟨a,vs,ev,h1,h2,h3,h4,h5⟩:=E.sl i _ e
   exact ⟨_,join_some ev,B.av E h fun as n2 vs' H2 hh s2 r2=>k _ _ _ _ hh s2 ⟨⟨_,rfl,E.repm false s2 (.list h1 h5 h2 (Reps.mono E.ch h3))⟩,r2⟩⟩
 · rename_i ps e
   obtain ⟨a,ev,q⟩:=E.sl i _ e
   exact ⟨_,join_some ev,B.av E h fun as n2 vs' H2 hh s2 r2=>k _ _ _ _ hh s2 ⟨⟨_,rfl,E.repm false s2 (.list q.h q.c (by unfold refs;rw [List.length_map,sizeLine_eq];have:=q.z;omega) (own2_reps E.ch q.i))⟩,r2⟩⟩
 · rename_i e
   obtain ⟨p,c,hS,ev⟩:=E.sl i _ e
   exact ⟨_,join_some ev,B.av E h fun as n2 vs H2 h2 s2 r2=>k _ _ _ _ h2 s2 ⟨⟨p,c,hS,rfl⟩,r2⟩⟩
 · rename_i e
   obtain ⟨p,c,hS,ev⟩:=E.sl i _ e
   exact ⟨_,join_some ev,B.av E h fun as n2 vs H2 h2 s2 r2=>k _ _ _ _ h2 s2 ⟨⟨p,c,hS,rfl⟩,r2⟩⟩
 · exact h.elim⟩
noncomputable instance dv_nil:DV b tNil gNilD:=⟨fun E h k=>k _ _ _ _ h (.refl E.inv) .nil⟩
noncomputable instance dv_cons {t:TA}{gt:GN} [A:EV b te g] [B:DV b t gt]:DV b (tCons te t) (gConsD g gt):=⟨fun {S ex env σ H n Q P} E h k=>
 A.ev E h fun x n1 v1 H1 h1 s1 r1=>B.dv (E.step s1) h1 fun as n2 vs H2 h2 s2 r2=>k _ _ _ _ h2 (s1.trans s2) (.cons ((E.step s1).repm b s2 r1) r2)⟩
noncomputable abbrev gTupD (t:GN):GE:=fun env n Q=>t env n fun ds n1=>ds.length≤sizeLine∧Q (.tuple ds) n1
noncomputable abbrev gLstD (t:GN):GN:=fun env n Q=>t env n fun ds n1=>ds.length≤sizeLine∧Q ds n1
noncomputable instance ev_tup {t:TA}{gt:GN} [A:DV b t gt]:EV b (tTup t) (gTupD gt):=⟨fun {S ex env σ H n Q P} E h k=>
 A.dv E h fun ds n1 vs H1 h1 s1 r1=>⟨by rw [← r1.length];exact h1.1,fun p hp=>k _ _ _ _ h1.2 (s1.then (Kp.new hp _)) (.tuple upd_same ((E.step s1).alm b |>.nm hp) (by rw [← r1.length];exact h1.1) (r1.keep (Kp.new hp _)))⟩⟩
noncomputable instance nv_lst {t:TA}{gt:GN} [A:DV true t gt]:NV (tLst t) (gLstD gt):=⟨fun {S ex env σ H n Q P} E h k=>
 A.dv E h fun ds n1 vs H1 h1 s1 r1=>⟨by rw [← r1.length];exact h1.1,fun p hp=>by
  obtain ⟨c1,c2,c3⟩:=nv_close E s1 hp r1
  exact k _ _ _ _ _ h1.2 c1 c2 upd_same (by rw [← r1.length];exact h1.1) c3⟩⟩
noncomputable abbrev gCB (f:G1) (t:GN):GE:=fun env n Q=>t env n fun ds n1=>f ds fun d=>Q d n1
noncomputable abbrev gCBN (f:List PyData→(List PyData→Prop)→Prop) (t:GN):GN:=fun env n Q=>t env n fun ds n1=>f ds fun d=>Q d n1
noncomputable instance ev_cs {r:List V→Hp→VK→Prop}{f:G1}{t:TA}{gt:GN} [C:CS r f] [A:DV false t gt]:EV b (tCB r t) (gCB f gt):=⟨fun {S ex env σ H n Q P} E h k=>
 A.dv E h fun ds n1 vs H1 h1 s1 r1=>C.cs (Reps.nil' r1) h1 fun d v p r=>k _ _ _ _ p s1 (r _)⟩
noncomputable instance (priority:=low) ev_co {r:List V→Hp→VK→Prop}{f:G1}{t:TA}{gt:GN} [C:CO r f] [A:DV b t gt]:EV b (tCB r t) (gCB f gt):=⟨fun {S ex env σ H n Q P} E h k=>
 A.dv E h fun ds n1 vs H1 h1 s1 r1=>C.co ((E.step s1).alm b) r1 h1 fun d v H' p kp r=>k _ _ _ _ p (s1.then kp) r⟩
noncomputable instance nv_cn {r:List V→Hp→VK→Prop}{f:List PyData→(List PyData→Prop)→Prop}{t:TA}{gt:GN} [C:CN r f] [A:DV true t gt]:NV (tCB r t) (gCBN f gt):=⟨fun {S ex env σ H n Q P} E h k=>
 A.dv E h fun ds n1 vs H1 h1 s1 r1=>C.cn r1 h1 fun es p ws pp hp hz r=>by
  obtain ⟨c1,c2,c3⟩:=nv_close E s1 hp r
  exact k _ _ _ _ _ pp c1 c2 upd_same hz c3⟩
noncomputable def liftV (sp:GSp):Sp:=fun vs H Q _=>∃ (S:Src) (ex:List Addr) (as:List Vl) (n:Nat) (P:PyData→Nat→Prop),ArgsR S ex H as vs∧(∀ a∈S.ch,a∈ex)∧Alc ex H∧S.inv n H∧sp as n P∧∀ d n' v H',P d n'→Step S n' H H'→Rep ex H' d v→Q v H'
noncomputable def liftN (sp:GSn):Sp:=fun vs H Q _=>∃ (S:Src) (ex:List Addr) (as:List Vl) (n:Nat) (P:List PyData→Nat→Prop),ArgsR S ex H as vs∧(∀ a∈S.ch,a∈ex)∧Alc ex H∧S.inv n H∧sp as n P∧∀ ds n' a ws H',P ds n'→Step S n' H H'→H a=none→H' a=some (.lst ws)→ws.length≤sizeLine→Reps (a::ex) H' ds ws→Q (.ref a) H'
noncomputable def scalD:PyData→Bool
 | .none | .bool _ | .int _ | .str _=>true
 | _=>false
theorem scal_rep {d:PyData}{v:V}(h:scalD d=true) (r:Rep ex H d v):∀ ex',Rep ex' H d v:=fun ex'=>by
 cases r with
 | none=>exact .none
 | bool b=>exact .bool b
 | int i=>exact .int i
 | str x=>exact .str x
 | tuple=>cases h
 | list=>cases h
class Scal (sp:GSp):Prop where
 sc:∀ {as:List Vl} {n:Nat} {P:PyData→Nat→Prop},sp as n P→sp as n fun d n'=>scalD d=true∧P d n'
noncomputable abbrev gCall (sp:GSp) (ga:GA):GE:=fun env n Q=>ga env n fun as n1=>sp as n1 Q
noncomputable abbrev gCallN (sp:GSn) (ga:GA):GN:=fun env n Q=>ga env n fun as n1=>sp as n1 Q
noncomputable instance ev_callS {sp:GSp}{E':XK}{t:TA}{gt:GA} [Z:Scal sp] [A:AV false t gt]:EV b (tCall (liftV sp) [] E' t) (gCall sp gt):=⟨fun {S ex env σ H n Q P} E h k=>
 A.av E h fun as n1 vs H1 h1 s1 r1=>by
  rw [List.append_nil]
  exact ⟨S,S.ch,as,n1,_,r1,fun _ h=>h,fun a ha=>(E.step s1).al a (E.ch a ha),s1.2,Z.sc h1,fun d n' v H' p s2 r=>k _ _ _ _ p.2 (s1.trans s2) (scal_rep p.1 r _)⟩⟩
noncomputable instance (priority:=low) ev_call {sp:GSp}{E':XK}{t:TA}{gt:GA} [A:AV b t gt]:EV b (tCall (liftV sp) [] E' t) (gCall sp gt):=⟨fun {S ex env σ H n Q P} E h k=>
 A.av E h fun as n1 vs H1 h1 s1 r1=>by
  rw [List.append_nil]
  exact ⟨S,exm b S ex,as,n1,_,r1,E.sup b,(E.step s1).alm b,s1.2,h1,fun d n' v H' p s2 r=>k _ _ _ _ p (s1.trans s2) r⟩⟩
noncomputable instance nv_call {sp:GSn}{E':XK}{t:TA}{gt:GA} [A:AV true t gt]:NV (tCall (liftN sp) [] E' t) (gCallN sp gt):=⟨fun {S ex env σ H n Q P} E h k=>
 A.av E h fun as n1 vs H1 h1 s1 r1=>by
  rw [List.append_nil]
  exact ⟨S,ex,as,n1,_,r1,E.ch,(E.step s1).al,s1.2,h1,fun ds n' a ws H' p s2 ha hl hz r=>k _ _ _ _ _ p (s1.trans s2) (s1.free ha) hl hz r⟩⟩
noncomputable abbrev gTest (g:GE):GT:=fun env n Q=>g env n fun d n1=>match d with
 | .bool c=>Q c n1
 | _=>False
theorem bool_inv {d:PyData}{n:Nat}{Q:Bool→Nat→Prop}{v:V}(h:match d with | .bool c=>Q c n | _=>False) (r:Rep ex H d v):∃ c,v = .bl c∧Q c n:=by
 cases r with
 | bool c=>exact ⟨c,rfl,h⟩
 | none=>exact h.elim
 | int=>exact h.elim
 | str=>exact h.elim
 | tuple=>exact h.elim
 | list=>exact h.elim
noncomputable instance tv_test [A:EV false te g]:TV (tTest te) (gTest g):=⟨fun {S ex env σ H n Q P} E h k=>A.ev E h fun d n1 v H1 h1 s1 r1=>by
 obtain ⟨c,e,q⟩:=bool_inv h1 r1
 exact ⟨c,e,k _ _ _ q s1⟩⟩
noncomputable instance tv_b [A:EV false te g]:TV (tB te) (gTest g):=⟨fun {S ex env σ H n Q P} E h k=>A.ev E h fun d n1 v H1 h1 s1 r1=>by
 obtain ⟨c,e,q⟩:=bool_inv h1 r1
 exact ⟨c,e,k _ _ _ q s1⟩⟩
noncomputable abbrev gAnd (a b:GT):GT:=fun env n Q=>a env n fun c n1=>if c=true then b env n1 Q else Q false n1
noncomputable abbrev gOr (a b:GT):GT:=fun env n Q=>a env n fun c n1=>if c=true then Q true n1 else b env n1 Q
noncomputable abbrev gNot (a:GT):GT:=fun env n Q=>a env n fun c n1=>Q (!c) n1
noncomputable instance tv_and {t u:TT}{gt gu:GT} [A:TV t gt] [B:TV u gu]:TV (tAnd t u) (gAnd gt gu):=⟨fun {S ex env σ H n Q P} E h k=>A.tv E h fun c n1 H1 h1 s1=>by
 cases c with
 | true=>exact B.tv (E.step s1) h1 fun c n2 H2 h2 s2=>k _ _ _ h2 (s1.trans s2)
 | false=>exact k _ _ _ h1 s1⟩
noncomputable instance tv_or {t u:TT}{gt gu:GT} [A:TV t gt] [B:TV u gu]:TV (tOr t u) (gOr gt gu):=⟨fun {S ex env σ H n Q P} E h k=>A.tv E h fun c n1 H1 h1 s1=>by
 cases c with
 | false=>exact B.tv (E.step s1) h1 fun c n2 H2 h2 s2=>k _ _ _ h2 (s1.trans s2)
 | true=>exact k _ _ _ h1 s1⟩
noncomputable instance tv_not {t:TT}{gt:GT} [A:TV t gt]:TV (tNot t) (gNot gt):=⟨fun {S ex env σ H n Q P} E h k=>A.tv E h fun c n1 H1 h1 s1=>k _ _ _ h1 s1⟩
noncomputable instance tv_noTest:TV tNoTest (fun _ n Q=>Q true n):=⟨fun {S ex env σ H n Q P} E h k=>k _ _ _ h (.refl E.inv)⟩
noncomputable abbrev gIf (t:GT) (a b:GE):GE:=fun env n Q=>t env n fun c n1=>if c=true then a env n1 Q else b env n1 Q
noncomputable instance ev_if {t:TT}{gt:GT} [T:TV t gt] [A:EV b ta ga] [B:EV b tb gb]:EV b (tIf t ta tb) (gIf gt ga gb):=⟨fun {S ex env σ H n Q P} E h k=>T.tv E h fun c n1 H1 h1 s1=>by
 cases c with
 | true=>exact A.ev (E.step s1) h1 fun d n2 v H2 h2 s2 r=>k _ _ _ _ h2 (s1.trans s2) r
 | false=>exact B.ev (E.step s1) h1 fun d n2 v H2 h2 s2 r=>k _ _ _ _ h2 (s1.trans s2) r⟩
noncomputable abbrev gAndV (a b:GE):GE:=fun env n Q=>a env n fun d n1=>match d with
 | .bool c=>if c=true then b env n1 Q else Q (.bool false) n1
 | _=>False
noncomputable abbrev gOrV (a b:GE):GE:=fun env n Q=>a env n fun d n1=>match d with
 | .bool c=>if c=true then Q (.bool true) n1 else b env n1 Q
 | _=>False
noncomputable abbrev gNotV (a:GE):GE:=fun env n Q=>a env n fun d n1=>match d with
 | .bool c=>Q (.bool (!c)) n1
 | _=>False
noncomputable instance ev_andV [A:EV false ta ga] [B:EV b tb gb]:EV b (tAndV ta tb) (gAndV ga gb):=⟨fun {S ex env σ H n Q P} E h k=>A.ev E h fun d n1 v H1 h1 s1 r1=>by
 obtain ⟨c,e,q⟩:=bool_inv (Q:=fun c n1=>if c=true then gb env n1 P else P (.bool false) n1) h1 r1
 refine ⟨c,e,?_⟩
 cases c with
 | true=>exact B.ev (E.step s1) q fun d n2 v H2 h2 s2 r=>k _ _ _ _ h2 (s1.trans s2) r
 | false=>exact k _ _ _ _ q s1 (.bool _)⟩
noncomputable instance ev_orV [A:EV false ta ga] [B:EV b tb gb]:EV b (tOrV ta tb) (gOrV ga gb):=⟨fun {S ex env σ H n Q P} E h k=>A.ev E h fun d n1 v H1 h1 s1 r1=>by
 obtain ⟨c,e,q⟩:=bool_inv (Q:=fun c n1=>if c=true then P (.bool true) n1 else gb env n1 P) h1 r1
 refine ⟨c,e,?_⟩
 cases c with
 | false=>exact B.ev (E.step s1) q fun d n2 v H2 h2 s2 r=>k _ _ _ _ h2 (s1.trans s2) r
 | true=>exact k _ _ _ _ q s1 (.bool _)⟩
noncomputable instance ev_notV [A:EV false ta ga]:EV b (tNotV ta) (gNotV ga):=⟨fun {S ex env σ H n Q P} E h k=>A.ev E h fun d n1 v H1 h1 s1 r1=>by
 obtain ⟨c,e,q⟩:=bool_inv (Q:=fun c n1=>P (.bool (!c)) n1) h1 r1
 exact ⟨c,e,k _ _ _ _ q s1 (.bool _)⟩⟩
noncomputable abbrev gUn (f:PyData→(PyData→Prop)→Prop) (a:GE):GE:=fun env n Q=>a env n fun d n1=>f d fun e=>Q e n1
noncomputable abbrev fU (f:Int→V):PyData→(PyData→Prop)→Prop:=fun d Q=>match d with
 | .int i=>(match f i with | .int k=>Q (.int k) | _=>False)
 | _=>False
noncomputable instance ev_unI {f:Int→V} [A:EV false ta ga]:EV b (tUn (rU f) ta) (gUn (fU f) ga):=⟨fun {S ex env σ H n Q P} E h k=>A.ev E h fun d n1 v H1 h1 s1 r1=>by
 cases r1 with
 | int i=>
  unfold fU at h1
  refine ⟨i,rfl,?_⟩
  dsimp only at h1
  split at h1
  · rename_i j e;rw [e];exact k _ _ _ _ h1 s1 (.int _)
  · exact h1.elim
 | none=>exact h1.elim
 | bool=>exact h1.elim
 | str=>exact h1.elim
 | tuple=>exact h1.elim
 | list=>exact h1.elim⟩
end
noncomputable abbrev ofV:V→(PyData→Prop)→Prop
 | .int k,Q=>Q (.int k)
 | .bl c,Q=>Q (.bool c)
 | .str s,Q=>Q (.str s)
 | .non,Q=>Q .none
 | _,_=>False
theorem ofV_rep {v:V}{P:PyData→Prop}{H:Hp}(h:ofV v P):∃ d,P d∧∀ ex,Rep ex H d v:=by
 cases v with
 | int k=>exact ⟨_,h,fun _=>.int k⟩
 | bl k=>exact ⟨_,h,fun _=>.bool k⟩
 | str k=>exact ⟨_,h,fun _=>.str k⟩
 | non=>exact ⟨_,h,fun _=>.none⟩
 | byt _=>exact h.elim
 | flt _=>exact h.elim
 | ref _=>exact h.elim
 | ty _=>exact h.elim
noncomputable abbrev fI0 (f:Int→Int→V):G2:=fun x y Q=>match x,y with
 | .int i,.int j=>ofV (f i j) Q
 | _,_=>False
noncomputable abbrev fI (C:Int→Int→Prop) (f:Int→Int→V):G2:=fun x y Q=>match x,y with
 | .int i,.int j=>C i j∧ofV (f i j) Q
 | _,_=>False
theorem ints_inv {ex:List Addr}{H:Hp}{dx dy:PyData}{x y:V}{A:Int→Int→Prop}(h:match dx,dy with | .int i,.int j=>A i j | _,_=>False) (r1:Rep ex H dx x) (r2:Rep ex H dy y):∃ i j,x = .int i∧y = .int j∧A i j:=by
 split at h
 · cases r1;cases r2;exact ⟨_,_,rfl,rfl,h⟩
 · exact h.elim
noncomputable instance os_I0 {f:Int→Int→V}:OS (rI0 f) (fI0 f):=⟨fun {H x y dx dy Q P} r1 r2 h k=>by
 obtain ⟨i,j,rfl,rfl,h⟩:=ints_inv (A:=fun i j=>ofV (f i j) P) h r1 r2
 obtain ⟨d,p,r⟩:=ofV_rep (H:=H) h
 exact ⟨i,j,rfl,rfl,k _ _ p r⟩⟩
noncomputable instance os_I {C:Int→Int→Prop}{f:Int→Int→V}:OS (rI C f) (fI C f):=⟨fun {H x y dx dy Q P} r1 r2 h k=>by
 obtain ⟨i,j,rfl,rfl,hc,h⟩:=ints_inv (A:=fun i j=>C i j∧ofV (f i j) P) h r1 r2
 obtain ⟨d,p,r⟩:=ofV_rep (H:=H) h
 exact ⟨i,j,rfl,rfl,hc,k _ _ p r⟩⟩
noncomputable def eqS:PyData→PyData→Option Bool
 | .int i,.int j=>some (decide (i=j))
 | .str a,.str b=>some (decide (a=b))
 | .bool a,.bool b=>some (decide (a=b))
 | .none,.none=>some true
 | .none,.int _ | .none,.bool _ | .none,.str _ | .int _,.none | .bool _,.none | .str _,.none=>some false
 | .int _,.str _ | .str _,.int _ | .bool _,.str _ | .str _,.bool _=>some false
 | _,_=>none
noncomputable def fEq (neg:Bool):G2:=fun x y Q=>match eqS x y with
 | some c=>Q (.bool (if neg then !c else c))
 | none=>False
theorem eqS_ok {ex:List Addr}{H:Hp}{dx dy:PyData}{x y:V}{c:Bool}(h:eqS dx dy=some c) (r1:Rep ex H dx x) (r2:Rep ex H dy y):scal x y=true∧decide (x=y)=c:=by
 cases r1<;>cases r2<;>simp [eqS] at h<;>subst h<;>simp [scal]
noncomputable instance os_eq:OS rEq (fEq false):=⟨fun {H x y dx dy Q P} r1 r2 h k=>by
 unfold fEq at h
 split at h
 · rename_i c e
   obtain ⟨h1,h2⟩:=eqS_ok e r1 r2
   exact ⟨h1,by rw [h2];exact k _ _ h fun _=>.bool _⟩
 · exact h.elim⟩
noncomputable instance os_ne:OS rNe (fEq true):=⟨fun {H x y dx dy Q P} r1 r2 h k=>by
 unfold fEq at h
 split at h
 · rename_i c e
   obtain ⟨h1,h2⟩:=eqS_ok e r1 r2
   exact ⟨h1,by rw [h2];exact k _ _ h fun _=>.bool _⟩
 · exact h.elim⟩
noncomputable def EqOk (x y:PyData):Prop:=x.canLay0=true∧y.canLay0=true∧min x.depth y.depth≤50
noncomputable def fEqD (neg:Bool):G2:=fun x y Q=>EqOk x y∧Q (.bool (if neg then !PyData.eqv x y else PyData.eqv x y))
noncomputable instance os_eqD:OS rEqD (fEqD false):=⟨fun {H x y dx dy Q P} r1 r2 h k=>⟨[],dx,dy,r1,r2,h.1.1,h.1.2.1,h.1.2.2,k _ _ h.2 fun _=>.bool _⟩⟩
noncomputable instance os_neD:OS rNeD (fEqD true):=⟨fun {H x y dx dy Q P} r1 r2 h k=>⟨[],dx,dy,r1,r2,h.1.1,h.1.2.1,h.1.2.2,k _ _ h.2 fun _=>.bool _⟩⟩
noncomputable def isNone:PyData→Bool
 | .none=>true
 | _=>false
noncomputable abbrev fIsN (neg:Bool):G2:=fun x y Q=>isNone y=true∧Q (.bool (if neg then !isNone x else isNone x))
theorem isNone_ok {ex:List Addr}{H:Hp}{d:PyData}{v:V}(r:Rep ex H d v):decide (v = .non)=isNone d:=by
 cases r<;>simp [isNone]
theorem isNone_v {ex:List Addr}{H:Hp}{d:PyData}{v:V}(r:Rep ex H d v) (h:isNone d=true):v = .non:=by
 cases r<;>simp [isNone] at h<;>rfl
noncomputable instance os_isN:OS (fun x y H Q=>y = .non∧Q (.bl (decide (x = .non))) H) (fIsN false):=⟨fun {H x y dx dy Q P} r1 r2 h k=>⟨isNone_v r2 h.1,by rw [isNone_ok r1];exact k _ _ h.2 fun _=>.bool _⟩⟩
noncomputable instance os_notN:OS (fun x y H Q=>y = .non∧Q (.bl (!decide (x = .non))) H) (fIsN true):=⟨fun {H x y dx dy Q P} r1 r2 h k=>⟨isNone_v r2 h.1,by rw [isNone_ok r1];exact k _ _ h.2 fun _=>.bool _⟩⟩
noncomputable def inD (x:PyData) (xs:List PyData):Bool:=xs.any fun y=>PyData.eqv y x
noncomputable def fIn (neg:Bool):G2:=fun x y Q=>match y with
 | .list xs=>scalD x=true∧xs.all scalD=true∧Q (.bool (if neg then !inD x xs else inD x xs))
 | .tuple xs=>scalD x=true∧xs.all scalD=true∧Q (.bool (if neg then !inD x xs else inD x xs))
 | _=>False
theorem flat_ok {ex:List Addr}{H:Hp}{d:PyData}{v:V}(r:Rep ex H d v) (h:scalD d=true):flatV v=true:=by
 cases r<;>first | rfl | cases h
theorem flat_all {ex:List Addr}{H:Hp}:∀ {ds:List PyData}{vs:List V},Reps ex H ds vs→ds.all scalD=true→vs.all flatV=true
 | _,_,.nil,_=>rfl
 | _,_,.cons r t,h=>by
  simp only [List.all_cons,Bool.and_eq_true] at h ⊢
  exact ⟨flat_ok r h.1,flat_all t h.2⟩
theorem eqv_ok {ex:List Addr}{H:Hp}{d e:PyData}{v w:V}(r:Rep ex H d v) (s:Rep ex H e w) (h:scalD d=true) (g:scalD e=true):eqV v w=PyData.eqv d e:=by
 cases r<;>cases s<;>first | rfl | (cases h;done) | (cases g;done) | simp [eqV,PyData.eqv]
theorem in_ok {ex:List Addr}{H:Hp}{d:PyData}{v:V}(r:Rep ex H d v) (h:scalD d=true):∀ {ds:List PyData}{vs:List V},Reps ex H ds vs→ds.all scalD=true→inV v vs=inD d ds
 | _,_,.nil,_=>rfl
 | _,_,.cons s t,g=>by
  simp only [List.all_cons,Bool.and_eq_true] at g
  have:=in_ok r h t g.2
  unfold inV inD at this ⊢
  rw [List.any_cons,List.any_cons,this,eqv_ok s r g.1 h]
noncomputable instance os_in {K:PySem.W.Frag}{neg:Bool}:OS (rIn K neg) (fIn neg):=⟨fun {H x y dx dy Q P} r1 r2 h k=>by
 cases r2 with
 | list e _ _ rs=>exact ⟨_,_,rfl,.inl (SqL.of e),flat_ok r1 h.1,flat_all rs h.2.1,by rw [in_ok r1 h.1 rs h.2.1];exact k _ _ h.2.2 fun _=>.bool _⟩
 | tuple e _ _ rs=>exact ⟨_,_,rfl,.inr (SqT.of e),flat_ok r1 h.1,flat_all rs h.2.1,by rw [in_ok r1 h.1 rs h.2.1];exact k _ _ h.2.2 fun _=>.bool _⟩
 | none=>exact h.elim
 | bool=>exact h.elim
 | int=>exact h.elim
 | str=>exact h.elim⟩
theorem reps_at {ex:List Addr}{H:Hp}{ds:List PyData}{vs:List V}{i:Int}{d:PyData}(r:Reps ex H ds vs) (h:atI ds i=some d):∃ v,atI vs i=some v∧Rep ex H d v:=by
 unfold atI at h ⊢
 rw [← r.length]
 cases e:ixN ds.length i with
 | none=>rw [e] at h;cases h
 | some j=>rw [e] at h;exact r.get h
noncomputable abbrev fIxL:G2:=fun x y Q=>match x,y with
 | .list xs,.int i=>∃ d,atI xs i=some d∧Q d
 | _,_=>False
noncomputable abbrev fIxT:G2:=fun x y Q=>match x,y with
 | .tuple xs,.int i=>∃ d,atI xs i=some d∧Q d
 | _,_=>False
noncomputable instance ov_ixL {K:PySem.W.Frag}:OV (rIxL K) fIxL:=⟨fun {ex H x y dx dy Q P} al r1 r2 h k=>by
 unfold fIxL at h
 split at h
 · obtain ⟨d,e,p⟩:=h
   cases r2
   cases r1 with
   | list e1 _ _ rs=>
    obtain ⟨v,ev,r⟩:=reps_at rs e
    exact ⟨_,_,_,v,rfl,rfl,SqL.of e1,ev,k _ _ _ p .refl r⟩
 · exact h.elim⟩
noncomputable instance ov_ixT {K:PySem.W.Frag}:OV (rIxT K) fIxT:=⟨fun {ex H x y dx dy Q P} al r1 r2 h k=>by
 unfold fIxT at h
 split at h
 · obtain ⟨d,e,p⟩:=h
   cases r2
   cases r1 with
   | tuple e1 _ _ rs=>
    obtain ⟨v,ev,r⟩:=reps_at rs e
    exact ⟨_,_,_,v,rfl,rfl,SqT.of e1,ev,k _ _ _ p .refl r⟩
 · exact h.elim⟩
noncomputable abbrev gIxO (i:Nat) (gb:GE):GE:=fun env n Q=>match env[i]? with
 | some (.own xs)=>gb env n fun y n1=>fIxL (.list xs) y fun d=>Q d n1
 | some (.d x)=>gb env n fun y n1=>fIxL x y fun d=>Q d n1
 | _=>False
noncomputable instance (priority:=high) ev_ixO {K:PySem.W.Frag}{i:Nat}{tb:TE}{gb:GE} [B:EV true tb gb]:EV true (tOp (rIxL K) (tVar i) tb) (gIxO i gb):=⟨fun {S ex env σ H n Q P} E h k=>by
 unfold gIxO at h
 split at h
 · rename_i xs e
   obtain ⟨a,vs,ev,h1,h2,h3,h4,h5⟩:=E.sl i _ e
   refine ⟨_,join_some ev,B.ev E h fun y n1 v1 H1 hh s1 r1=>?_⟩
   cases r1 with
   | int j=>
    obtain ⟨d,ed,p⟩:=hh
    obtain ⟨v,ev2,r⟩:=reps_at (E.reps s1 h3) ed
    exact ⟨_,_,_,v,rfl,rfl,SqL.of (s1.1 _ _ h1 h5),ev2,k _ _ _ _ p s1 r⟩
   | none=>exact hh.elim
   | bool=>exact hh.elim
   | str=>exact hh.elim
   | tuple=>exact hh.elim
   | list=>exact hh.elim
 · rename_i x e
   obtain ⟨v,ev,r⟩:=E.sl i _ e
   refine ⟨v,join_some ev,B.ev E h fun y n1 v1 H1 hh s1 r1=>?_⟩
   exact (ov_ixL (K:=K)).ov (E.step s1).al (E.rep s1 r) r1 hh fun d v H' p kp r=>k _ _ _ _ p (s1.then kp) r
 · exact h.elim⟩
noncomputable instance on_rep:ON rRep (fun x y Q=>match x,y with | .list xs,.int k=>(-(2^63)≤k∧k<2^63∧xs.length*k.toNat≤sizeLine)∧Q (List.replicate k.toNat xs).flatten | _,_=>False):=⟨fun {ex H x y dx dy Q P} r1 r2 h k=>by
 split at h
 · cases r1 with
   | list e1 _ _ rs=>
    cases r2
    have l1:=rs.length
    refine ⟨_,_,_,rfl,rfl,e1,h.1.1,h.1.2.1,by rw [← l1];exact h.1.2.2,fun p hp=>k _ p _ h.2 hp ?_ (rs.rep _)⟩
    rw [len_rep,← l1,Nat.mul_comm];exact h.1.2.2
 · exact h.elim⟩
noncomputable abbrev fLen:G1:=fun ds Q=>match ds with
 | [.list xs]=>Q (.int xs.length)
 | [.tuple xs]=>Q (.int xs.length)
 | _=>False
noncomputable instance cs_len {K:PySem.W.Frag}:CS (fun xs H Q=>∃ p ys,xs=[.ref p]∧(SqL K H p ys∨SqT K H p ys)∧Q (.int ys.length) H) fLen:=⟨fun {H xs ds Q P} r h k=>by
 unfold fLen at h
 split at h
 · cases r with
   | cons r1 t=>
    cases t
    cases r1 with
    | list e _ _ rs=>exact ⟨_,_,rfl,.inl (SqL.of e),by rw [← rs.length];exact k _ _ h fun _=>.int _⟩
 · cases r with
   | cons r1 t=>
    cases t
    cases r1 with
    | tuple e _ _ rs=>exact ⟨_,_,rfl,.inr (SqT.of e),by rw [← rs.length];exact k _ _ h fun _=>.int _⟩
 · exact h.elim⟩
noncomputable abbrev fListOf (ds:List PyData) (Q:List PyData→Prop):Prop:=match ds with
 | [.list xs]=>Q xs
 | [.tuple xs]=>Q xs
 | _=>False
noncomputable instance cn_list {K:PySem.W.Frag}:CN (fun xs H Q=>∃ p ys,xs=[.ref p]∧(SqL K H p ys∨SqT K H p ys)∧∀ l,H l=none→Q (.ref l) (upd H l (.lst ys))) fListOf:=⟨fun {ex H xs ds Q P} r h k=>by
 unfold fListOf at h
 split at h
 · cases r with
   | cons r1 t=>
    cases t
    cases r1 with
    | list e _ z rs=>exact ⟨_,_,rfl,.inl (SqL.of e),fun l hl=>k _ l _ h hl z rs⟩
 · cases r with
   | cons r1 t=>
    cases t
    cases r1 with
    | tuple e _ z rs=>exact ⟨_,_,rfl,.inr (SqT.of e),fun l hl=>k _ l _ h hl z rs⟩
 · exact h.elim⟩
noncomputable abbrev fTupleOf:G1:=fun ds Q=>match ds with
 | [.list xs]=>Q (.tuple xs)
 | [.tuple xs]=>Q (.tuple xs)
 | _=>False
noncomputable instance co_tuple {K:PySem.W.Frag}:CO (fun xs H Q=>∃ p ys,xs=[.ref p]∧((SqL K H p ys∧∀ l,H l=none→Q (.ref l) (upd H l (.tup ys)))∨(SqT K H p ys∧Q (.ref p) H))) fTupleOf:=⟨fun {ex H xs ds Q P} al r h k=>by
 unfold fTupleOf at h
 split at h
 · cases r with
   | cons r1 t=>
    cases t
    cases r1 with
    | list e _ z rs=>exact ⟨_,_,rfl,.inl ⟨SqL.of e,fun l hl=>k _ _ _ h (Kp.new hl _) (.tuple upd_same (al.nm hl) z (rs.keep (Kp.new hl _)))⟩⟩
 · cases r with
   | cons r1 t=>
    cases t
    cases r1 with
    | tuple e n z rs=>exact ⟨_,_,rfl,.inr ⟨SqT.of e,k _ _ _ h .refl (.tuple e n z rs)⟩⟩
 · exact h.elim⟩
theorem Reps.bools_inv {ex:List Addr}{H:Hp}:∀ {ns:List Bool}{vs:List V},Reps ex H (ns.map PyData.bool) vs→vs=ns.map V.bl
 | [],_,.nil=>rfl
 | n::r,_,.cons (.bool _) t=>by rw [Reps.bools_inv t];rfl
noncomputable def fAll (c:Bool):G1:=fun ds Q=>∃ bs:List Bool,ds=[.list (bs.map .bool)]∧c=true∧Q (.bool (bs.all id))
noncomputable instance cs_all {K:PySem.W.Frag}{c:Bool}:CS (fun xs H Q=>c=true∧∃ (p:Addr) (bs:List Bool),xs=[.ref p]∧SqL K H p (bs.map V.bl)∧Q (.bl (bs.all id)) H) (fAll c):=⟨fun {H xs ds Q P} r h k=>by
 obtain ⟨ns,rfl,hc,q⟩:=h
 cases r with
 | cons r1 t=>
  cases t
  cases r1 with
  | list e _ _ rs=>
   cases Reps.bools_inv rs
   exact ⟨hc,_,ns,rfl,SqL.of e,k _ _ q fun _=>.bool _⟩⟩
noncomputable def fAnyI (tup:Bool):G1:=fun ds Q=>∃ ns:List Int,ds=[if tup then .tuple (ns.map .int) else .list (ns.map .int)]∧Q (.bool (ns.any fun n=>decide (n≠0)))
noncomputable instance cs_anyL {K:PySem.W.Frag}:CS (fun xs H Q=>∃ (p:Addr) (ns:List Int),xs=[.ref p]∧SqL K H p (ns.map V.int)∧Q (.bl (ns.any fun n=>decide (n≠0))) H) (fAnyI false):=⟨fun {H xs ds Q P} r h k=>by
 obtain ⟨ns,rfl,q⟩:=h
 cases r with
 | cons r1 t=>
  cases t
  cases r1 with
  | list e _ _ rs=>
   cases rs.ints_inv
   exact ⟨_,ns,rfl,SqL.of e,k _ _ q fun _=>.bool _⟩⟩
noncomputable def fMin (tup:Bool):G1:=fun ds Q=>∃ ns:List Int,ds=[if tup then .tuple (ns.map .int) else .list (ns.map .int)]∧ns≠[]∧∀ m∈ns,(∀ n∈ns,m≤n)→Q (.int m)
noncomputable instance cs_minL {K:PySem.W.Frag}:CS (fun xs H Q=>∃ (p:Addr) (ns:List Int),xs=[.ref p]∧SqL K H p (ns.map V.int)∧ns≠[]∧∀ m∈ns,(∀ n∈ns,m≤n)→Q (.int m) H) (fMin false):=⟨fun {H xs ds Q P} r h k=>by
 obtain ⟨ns,rfl,hne,q⟩:=h
 cases r with
 | cons r1 t=>
  cases t
  cases r1 with
  | list e _ _ rs=>
   cases rs.ints_inv
   exact ⟨_,ns,rfl,SqL.of e,hne,fun m h1 h2=>k _ _ (q m h1 h2) fun _=>.int _⟩⟩
noncomputable abbrev gInst (T:String) (g:GE):GE:=fun env n Q=>g env n fun d n1=>Q (.bool (instD d T)) n1
section
variable {b:Bool}{te:TE}{g:GE}
theorem ev_inst (T:String) (hT:T = "int"∨T = "bool"∨T = "str"∨T = "tuple"∨T = "list") [A:EV false te g]:EV b (tCB (fun xs H Q=>∃ ex d x T,xs=[x,.ty T]∧Rep ex H d x∧(T = "int"∨T = "bool"∨T = "str"∨T = "tuple"∨T = "list")∧Q (.bl (instD d T)) H) (tCons te (tCons (tC (.ty T)) tNil))) (gInst T g):=⟨fun {S ex env σ H n Q P} E h k=>
 A.ev E h fun d n1 v H1 h1 s1 r1=>⟨_,d,v,T,rfl,r1,hT,k _ _ _ _ h1 s1 (.bool _)⟩⟩
noncomputable instance (priority:=high) ev_instI [A:EV false te g]:EV b (tCB (fun xs H Q=>∃ ex d x T,xs=[x,.ty T]∧Rep ex H d x∧(T = "int"∨T = "bool"∨T = "str"∨T = "tuple"∨T = "list")∧Q (.bl (instD d T)) H) (tCons te (tCons (tC (.ty "int")) tNil))) (gInst "int" g):=ev_inst _ (by simp)
noncomputable instance (priority:=high) ev_instB [A:EV false te g]:EV b (tCB (fun xs H Q=>∃ ex d x T,xs=[x,.ty T]∧Rep ex H d x∧(T = "int"∨T = "bool"∨T = "str"∨T = "tuple"∨T = "list")∧Q (.bl (instD d T)) H) (tCons te (tCons (tC (.ty "bool")) tNil))) (gInst "bool" g):=ev_inst _ (by simp)
noncomputable instance (priority:=high) ev_instS [A:EV false te g]:EV b (tCB (fun xs H Q=>∃ ex d x T,xs=[x,.ty T]∧Rep ex H d x∧(T = "int"∨T = "bool"∨T = "str"∨T = "tuple"∨T = "list")∧Q (.bl (instD d T)) H) (tCons te (tCons (tC (.ty "str")) tNil))) (gInst "str" g):=ev_inst _ (by simp)
noncomputable instance (priority:=high) ev_instT [A:EV false te g]:EV b (tCB (fun xs H Q=>∃ ex d x T,xs=[x,.ty T]∧Rep ex H d x∧(T = "int"∨T = "bool"∨T = "str"∨T = "tuple"∨T = "list")∧Q (.bl (instD d T)) H) (tCons te (tCons (tC (.ty "tuple")) tNil))) (gInst "tuple" g):=ev_inst _ (by simp)
class OPV (t:TO) (g:outParam (List Vl→Nat→(Option Int→Nat→Prop)→Prop)):Prop where
 op:∀ {S:Src} {ex:List Addr} {env:List Vl} {σ:L2.St} {H:Hp} {n:Nat} {Q:Option Int→Hp→Prop} {P:Option Int→Nat→Prop},Ev S ex env σ H n→g env n P→(∀ o n' H',P o n'→Step S n' H H'→Q o H')→t σ H Q
noncomputable instance op_no:OPV tNoPart (fun _ n Q=>Q none n):=⟨fun E h k=>k _ _ _ h (.refl E.inv)⟩
noncomputable abbrev gPart (g:GE):List Vl→Nat→(Option Int→Nat→Prop)→Prop:=fun env n Q=>g env n fun d n1=>match d with
 | .int i=>Q (some i) n1
 | _=>False
noncomputable instance op_part [A:EV false te g]:OPV (tPart te) (gPart g):=⟨fun {S ex env σ H n Q P} E h k=>A.ev E h fun d n1 v H1 h1 s1 r1=>by
 cases r1 with
 | int i=>exact ⟨i,rfl,k _ _ _ h1 s1⟩
 | none=>exact h1.elim
 | bool=>exact h1.elim
 | str=>exact h1.elim
 | tuple=>exact h1.elim
 | list=>exact h1.elim⟩
theorem reps_cut {ex:List Addr}{H:Hp}{ds:List PyData}{vs:List V}(r:Reps ex H ds vs) (lo hi:Option Int):Reps ex H (cutD ds lo hi) (cutV vs lo hi):=by
 unfold cutD cutV
 rw [r.length]
 exact Reps.take _ (Reps.drop _ r)
noncomputable abbrev gSlT (g:GE) (gl gh:List Vl→Nat→(Option Int→Nat→Prop)→Prop):GE:=fun env n Q=>g env n fun d n1=>gl env n1 fun lo n2=>gh env n2 fun hi n3=>match d with
 | .tuple xs=>¬ (HT.sIx xs.length 0 lo=0∧HT.sIx xs.length xs.length hi=xs.length)∧Q (.tuple (cutD xs lo hi)) n3
 | _=>False
noncomputable instance ev_slT {K:PySem.W.Frag}{tl th:TO}{gl gh:List Vl→Nat→(Option Int→Nat→Prop)→Prop} [A:EV b te g] [B:OPV tl gl] [C:OPV th gh]:EV b (tSl (rSlT K) te tl th) (gSlT g gl gh):=⟨fun {S ex env σ H n Q P} E h k=>
 A.ev E h fun d n1 v H1 h1 s1 r1=>B.op (E.step s1) h1 fun lo n2 H2 h2 s2=>C.op (E.step (s1.trans s2)) h2 fun hi n3 H3 h3 s3=>by
  have r3:=(E.step s1).repm b (s2.trans s3) r1
  cases r3 with
  | tuple e m z rs=>
   have l:=rs.length
   refine ⟨_,_,rfl,SqT.of e,by rw [← l];exact h3.1,fun p hp=>k _ _ _ _ h3.2 (((s1.trans s2).trans s3).then (Kp.new hp _)) (.tuple upd_same ((E.step ((s1.trans s2).trans s3)).alm b |>.nm hp) (Nat.le_trans (cutV_length _ _ _) z) ((reps_cut rs lo hi).keep (Kp.new hp _)))⟩
  | none=>exact h3.elim
  | bool=>exact h3.elim
  | str=>exact h3.elim
  | list=>exact h3.elim
  | int=>exact h3.elim⟩
noncomputable abbrev gChain (f f':G2) (ga gb gc:GE):GE:=fun env n Q=>ga env n fun x n1=>gb env n1 fun y n2=>f x y fun d=>match d with
 | .bool true=>gc env n2 fun z n3=>f' y z fun e=>Q e n3
 | .bool false=>Q (.bool false) n2
 | _=>False
noncomputable instance ev_chain {r r':R2}{f f':G2}{ta tb tc:TE}{ga gb gc:GE} [O:OS r f] [O':OS r' f'] [A:EV false ta ga] [B:EV false tb gb] [C:EV false tc gc]:EV b (tChain r r' ta tb tc) (gChain f f' ga gb gc):=⟨fun {S ex env σ H n Q P} E h k=>by
 refine A.ev E h fun x n1 v1 H1 h1 s1 r1=>B.ev (E.step s1) h1 fun y n2 v2 H2 h2 s2 r2=>?_
 refine O.os (Rep.nil ((E.step s1).repm false s2 r1)) (Rep.nil r2) h2 fun d v p r=>?_
 cases r [] with
 | bool c=>
  refine ⟨c,rfl,?_⟩
  cases c with
  | true=>exact C.ev (E.step (s1.trans s2)) p fun z n3 v3 H3 h3 s3 r3=>O'.os (Rep.nil ((E.step (s1.trans s2)).repm false s3 r2)) (Rep.nil r3) h3 fun d v p r=>k _ _ _ _ p ((s1.trans s2).trans s3) (r _)
  | false=>exact k _ _ _ _ p (s1.trans s2) (.bool _)
 | none=>exact p.elim
 | int=>exact p.elim
 | str=>exact p.elim
 | tuple=>exact p.elim
 | list=>exact p.elim⟩
end
noncomputable def ItAt (ex:List Addr) (J:It) (items:List PyData) (H:Hp):Prop:=J.stop items.length H∧∀ (i:Nat) (d:PyData),items[i]? = some d→J.go i H∧∀ x H',J.yld i H x H'→Kp [] H H'∧Rep ex H' d x
class IV (wi:TI) (g:outParam GN):Prop where
 iv:∀ {S:Src} {ex:List Addr} {env:List Vl} {σ:L2.St} {H:Hp} {n:Nat} {R:It→Hp→Prop} {P:List PyData→Nat→Prop},Ev S ex env σ H n→g env n P →
  (∀ items n' J (hd:List (PyData×V)) H',P items n'→Step S n' H H'→(∀ h∈hd,Rep ex H' h.1 h.2)→(∀ ex' H2,Alc ex' H2→(∀ h∈hd,Rep ex' H2 h.1 h.2)→ItAt ex' J items H2)→R J H')→wi σ H R
class IC (wi:TI) (g:outParam GN):Prop where
 ic:∀ {S:Src} {ex:List Addr} {env:List Vl} {σ:L2.St} {H:Hp} {n:Nat} {R:It→Hp→Prop} {P:List PyData→Nat→Prop},Ev S ex env σ H n→g env n P →
  (∀ items n' J H',P items n'→Step S n' H H'→(∀ l H2,H' l=none→Kp (l::S.ch) H' H2→Alc (l::ex) H2→ItAt (l::ex) J items H2)→R J H')→wi σ H R
section
variable {K:PySem.W.Frag}{S:Src}{n m:Nat}{H H1 H2 H':Hp}{ex:List Addr}{env:List Vl}{σ:L2.St}{b:Bool}{te ta tb tc:TE}{g ga gb gc:GE}{wi:TI}{gi:GN}
theorem kp_cons {l:Addr}(hc:∀ a∈S.ch,a∈ex) (k:Kp (l::S.ch) H H'):Kp (l::ex) H H':=k.mono fun b hb=>(List.mem_cons.mp hb).elim (fun e=>by rw [e];exact List.mem_cons_self) fun h=>List.mem_cons_of_mem _ (hc b h)
noncomputable instance (priority:=low) ic_iv [I:IV wi gi]:IC wi gi:=⟨fun {S ex env σ H n R P} E h k=>I.iv E h fun items n' J hd H' p s hr hit=>k _ _ _ _ p s fun l H2 hl kp al=>
 hit _ _ al fun x hx=>(Rep.add hl (hr x hx)).keep (kp_cons E.ch kp)⟩
theorem it_list {a:Addr}{vs:List V}{ds:List PyData}(ha:H a=some (.lst vs)) (r:Reps ex H ds vs):ItAt ex (Itl K a) ds H:=by
 refine ⟨⟨vs,SqL.of ha,by rw [r.length];exact Nat.le_refl _⟩,fun i d e=>?_⟩
 obtain ⟨v,ev,rv⟩:=r.get e
 refine ⟨⟨vs,v,SqL.of ha,ev⟩,fun x H' y=>?_⟩
 obtain ⟨rfl,hx⟩:=y
 have:=hx vs (SqL.of ha)
 rw [ev] at this
 cases this
 exact ⟨.refl,rv⟩
theorem it_tup {a:Addr}{vs:List V}{ds:List PyData}(ha:H a=some (.tup vs)) (r:Reps ex H ds vs):ItAt ex (Itt K a) ds H:=by
 refine ⟨⟨vs,SqT.of ha,by rw [r.length];exact Nat.le_refl _⟩,fun i d e=>?_⟩
 obtain ⟨v,ev,rv⟩:=r.get e
 refine ⟨⟨vs,v,SqT.of ha,ev⟩,fun x H' y=>?_⟩
 obtain ⟨rfl,hx⟩:=y
 have:=hx vs (SqT.of ha)
 rw [ev] at this
 cases this
 exact ⟨.refl,rv⟩
noncomputable def rngD (lo:Int) (k:Nat):List PyData:=(List.range k).map fun (i:Nat)=>.int (lo+(i:Int))
theorem rngD_len (lo:Int) (k:Nat):(rngD lo k).length=k:=by unfold rngD;rw [List.length_map,List.length_range]
theorem it_rng {lo:Int}{k:Nat}:ItAt ex (Itr lo k) (rngD lo k) H:=by
 refine ⟨by rw [rngD_len];exact Nat.le_refl _,fun i d e=>?_⟩
 have hi:i<k:=by
  have:=(List.getElem?_eq_some_iff.mp e).1
  rw [rngD_len] at this
  exact this
 unfold rngD at e
 rw [List.getElem?_map,List.getElem?_range hi] at e
 cases e
 refine ⟨hi,fun x H' y=>?_⟩
 obtain ⟨rfl,rfl⟩:=y
 exact ⟨.refl,.int _⟩
noncomputable def seqD:PyData→Option (List PyData)
 | .list xs=>some xs
 | .tuple xs=>some xs
 | _=>none
theorem rep_seq {d:PyData}{v:V}{ds:List PyData}(r:Rep ex H d v) (h:seqD d=some ds):∃ (c:Bool) (a:Addr) (vs:List V),v = .ref a∧(∀ K,SqK c K H a vs)∧Reps ex H ds vs∧((c=true∧H a=some (.tup vs))∨(c=false∧H a=some (.lst vs)))∧a∉ex:=by
 cases r with
 | tuple e n z rs=>cases h;exact ⟨true,_,_,rfl,fun K=>SqT.of e,rs,.inl ⟨rfl,e⟩,n⟩
 | list e n z rs=>cases h;exact ⟨false,_,_,rfl,fun K=>SqL.of e,rs,.inr ⟨rfl,e⟩,n⟩
 | none=>cases h
 | bool=>cases h
 | int=>cases h
 | str=>cases h
noncomputable def enumD (ds:List PyData):List PyData:=ds.mapIdx fun i d=>.tuple [.int (i:Int),d]
theorem two_line:(2:Nat)≤sizeLine:=by rw [sizeLine_eq];decide
theorem three_line:(3:Nat)≤sizeLine:=by rw [sizeLine_eq];decide
theorem it_enum {c:Bool}{a:Addr}{vs:List V}{ds:List PyData}(al:Alc ex H) (ha:SqK c K H a vs) (r:Reps ex H ds vs):ItAt ex (Ite c K a) (enumD ds) H:=by
 unfold enumD
 refine ⟨⟨vs,ha,by rw [List.length_mapIdx,r.length]⟩,fun i d e=>?_⟩
 rw [List.getElem?_mapIdx] at e
 cases hd:ds[i]? with
 | none=>rw [hd] at e;cases e
 | some d0=>
  rw [hd] at e
  cases e
  obtain ⟨v,ev,rv⟩:=r.get hd
  refine ⟨⟨vs,v,ha,ev⟩,fun x H' y=>?_⟩
  obtain ⟨p,y,hp,rfl,rfl,hy⟩:=y
  have:=hy vs ha
  rw [ev] at this
  cases this
  exact ⟨Kp.new hp _,.tuple upd_same (al.nm hp) two_line (.cons (.int _) (.cons (rv.keep (Kp.new hp _)) .nil))⟩
noncomputable def zipD (ds es:List PyData):List PyData:=List.zipWith (fun x y=>.tuple [x,y]) ds es
theorem it_zip {c c':Bool}{a a':Addr}{vs vs':List V}{ds es:List PyData}(al:Alc ex H) (ha:SqK c K H a vs) (r:Reps ex H ds vs) (ha':SqK c' K H a' vs') (r':Reps ex H es vs'):ItAt ex (Itz c c' K a a') (zipD ds es) H:=by
 unfold zipD
 refine ⟨⟨vs,vs',ha,ha',by rw [List.length_zipWith,r.length,r'.length]⟩,fun i d e=>?_⟩
 rw [List.getElem?_zipWith] at e
 cases hd:ds[i]? with
 | none=>rw [hd] at e;cases e
 | some d0=>
  cases he:es[i]? with
  | none=>rw [hd,he] at e;cases e
  | some e0=>
   rw [hd,he] at e
   cases e
   obtain ⟨v,ev,rv⟩:=r.get hd
   obtain ⟨v',ev',rv'⟩:=r'.get he
   refine ⟨⟨vs,vs',v,v',ha,ha',ev,ev'⟩,fun x H' y=>?_⟩
   obtain ⟨p,y,y',hp,rfl,rfl,hy,hy'⟩:=y
   have:=hy vs ha
   rw [ev] at this
   cases this
   have:=hy' vs' ha'
   rw [ev'] at this
   cases this
   exact ⟨Kp.new hp _,.tuple upd_same (al.nm hp) two_line (.cons (rv.keep (Kp.new hp _)) (.cons (rv'.keep (Kp.new hp _)) .nil))⟩
noncomputable abbrev gIter (f:PyData→Option (List PyData)) (g:GE):GN:=fun env n Q=>g env n fun d n1=>match f d with
 | some ds=>Q ds n1
 | none=>False
noncomputable def lstD:PyData→Option (List PyData)
 | .list xs=>some xs
 | _=>none
noncomputable def tupD':PyData→Option (List PyData)
 | .tuple xs=>some xs
 | _=>none
noncomputable instance iv_list [A:EV true te g]:IV (iList K te) (gIter lstD g):=⟨fun {S ex env σ H n R P} E h k=>A.ev E h fun d n1 v H1 h1 s1 r1=>by
 cases r1 with
 | list e m z rs=>
  refine ⟨_,rfl,⟨_,SqL.of e⟩,k _ _ _ [(PyData.list _,V.ref _)] _ h1 s1 (fun h hh=>by rw [List.mem_singleton.mp hh];exact .list e m z rs) fun ex' H2 al hr=>?_⟩
  have:=hr _ (List.mem_singleton.mpr rfl)
  cases this with
  | list e m z rs=>exact it_list e rs
 | none=>exact h1.elim
 | bool=>exact h1.elim
 | str=>exact h1.elim
 | int=>exact h1.elim
 | tuple=>exact h1.elim⟩
noncomputable instance iv_tup [A:EV true te g]:IV (iTup K te) (gIter tupD' g):=⟨fun {S ex env σ H n R P} E h k=>A.ev E h fun d n1 v H1 h1 s1 r1=>by
 cases r1 with
 | tuple e m z rs=>
  refine ⟨_,rfl,⟨_,SqT.of e⟩,k _ _ _ [(PyData.tuple _,V.ref _)] _ h1 s1 (fun h hh=>by rw [List.mem_singleton.mp hh];exact .tuple e m z rs) fun ex' H2 al hr=>?_⟩
  have:=hr _ (List.mem_singleton.mpr rfl)
  cases this with
  | tuple e m z rs=>exact it_tup e rs
 | none=>exact h1.elim
 | bool=>exact h1.elim
 | str=>exact h1.elim
 | int=>exact h1.elim
 | list=>exact h1.elim⟩
noncomputable abbrev gIterO (i:Nat):GN:=fun env n Q=>match env[i]? with
 | some (.own xs)=>Q xs n
 | some (.d (.list xs))=>Q xs n
 | _=>False
noncomputable instance (priority:=high) ic_own {i:Nat}:IC (iList K (tVar i)) (gIterO i):=⟨fun {S ex env σ H n R P} E h k=>by
 unfold gIterO at h
 split at h
 · rename_i xs e
   obtain ⟨a,vs,ev,h1,h2,h3,h4,h5⟩:=E.sl i _ e
   refine ⟨_,join_some ev,_,rfl,⟨_,SqL.of h1⟩,k _ _ _ _ h (.refl E.inv) fun l H2 hl kp al=>?_⟩
   have na:a≠l:=ne_of_none h1 hl
   exact it_list (kp _ _ h1 fun z=>(List.mem_cons.mp z).elim na h5) ((Reps.add hl h3).keep (kp_cons E.ch kp))
 · rename_i xs e
   obtain ⟨v,ev,r⟩:=E.sl i _ e
   cases r with
   | list e1 m z rs=>
    refine ⟨_,join_some ev,_,rfl,⟨_,SqL.of e1⟩,k _ _ _ _ h (.refl E.inv) fun l H2 hl kp al=>?_⟩
    have:=(Rep.add hl (.list e1 m z rs)).keep (kp_cons E.ch kp)
    cases this with
    | list e m z rs=>exact it_list e rs
 · exact h.elim⟩
noncomputable abbrev gRng1 (t:GN):GN:=fun env n Q=>t env n fun ds n1=>∃ j:Int,ds=[.int j]∧(-(2^62)≤j∧j<2^62)∧Q (rngD 0 j.toNat) n1
noncomputable instance iv_rng1 {t:TA}{gt:GN} [A:DV false t gt]:IV (iRng1 t) (gRng1 gt):=⟨fun {S ex env σ H n R P} E h k=>A.dv E h fun ds n1 vs H1 h1 s1 r1=>by
 obtain ⟨j,rfl,h2,q⟩:=h1
 cases r1 with
 | cons r1 t=>
  cases t
  cases r1
  exact ⟨j,rfl,h2.1,h2.2,k _ _ _ [] _ q s1 (fun h hh=>by cases hh) fun ex' H2 al _=>it_rng⟩⟩
noncomputable abbrev gEnum (t:GN):GN:=fun env n Q=>t env n fun ds n1=>∃ d xs,ds=[d]∧seqD d=some xs∧Q (enumD xs) n1
noncomputable abbrev gZip (t:GN):GN:=fun env n Q=>t env n fun ds n1=>∃ d e xs ys,ds=[d,e]∧seqD d=some xs∧seqD e=some ys∧Q (zipD xs ys) n1
theorem rep_seqc {d:PyData}{ds:List PyData}{c:Bool}{a:Addr}{vs:List V}(hs:seqD d=some ds) (hc:(c=true∧H a=some (.tup vs))∨(c=false∧H a=some (.lst vs))) (r:Rep ex H d (.ref a)) (ex':List Addr) (H2:Hp) (r2:Rep ex' H2 d (.ref a)):∃ vs',(∀ K,SqK c K H2 a vs')∧Reps ex' H2 ds vs':=by
 cases r2 with
 | tuple e n z rs=>
  cases hs
  refine ⟨_,fun K=>?_,rs⟩
  rcases hc with ⟨rfl,_⟩ | ⟨_,h⟩
  · exact SqT.of e
  · cases r with | tuple e' _ _ _=>rw [h] at e';cases e'
 | list e n z rs=>
  cases hs
  refine ⟨_,fun K=>?_,rs⟩
  rcases hc with ⟨_,h⟩ | ⟨rfl,_⟩
  · cases r with | list e' _ _ _=>rw [h] at e';cases e'
  · exact SqL.of e
noncomputable instance iv_enum {t:TA}{gt:GN} [A:DV true t gt]:IV (iEnum K t) (gEnum gt):=⟨fun {S ex env σ H n R P} E h k=>A.dv E h fun ds n1 vs H1 h1 s1 r1=>by
 obtain ⟨d,xs,rfl,hs,q⟩:=h1
 cases r1 with
 | cons r1 t=>
  cases t
  obtain ⟨c,a,ws,rfl,hq,rs,hc,na⟩:=rep_seq r1 hs
  refine ⟨c,a,ws,rfl,hq K,k _ _ _ [(d,V.ref a)] _ q s1 (fun h hh=>by rw [List.mem_singleton.mp hh];exact r1) fun ex' H2 al hr=>?_⟩
  obtain ⟨vs',h3,h4⟩:=rep_seqc hs hc r1 ex' H2 (hr _ (List.mem_singleton.mpr rfl))
  exact it_enum al (h3 K) h4⟩
noncomputable instance iv_zip {t:TA}{gt:GN} [A:DV true t gt]:IV (iZip K t) (gZip gt):=⟨fun {S ex env σ H n R P} E h k=>A.dv E h fun ds n1 vs H1 h1 s1 r1=>by
 obtain ⟨d,e,xs,ys,rfl,hs,hs',q⟩:=h1
 cases r1 with
 | cons r1 t=>
  cases t with
  | cons r2 t=>
   cases t
   obtain ⟨c,a,ws,rfl,hq,rs,hc,na⟩:=rep_seq r1 hs
   obtain ⟨c',a',ws',rfl,hq',rs',hc',na'⟩:=rep_seq r2 hs'
   refine ⟨c,c',a,a',ws,ws',rfl,hq K,hq' K,k _ _ _ [(d,V.ref a),(e,V.ref a')] _ q s1 (fun h hh=>?_) fun ex' H2 al hr=>?_⟩
   · rcases List.mem_cons.mp hh with e | hh
     · rw [e];exact r1
     · rw [List.mem_singleton.mp hh];exact r2
   obtain ⟨v1,h3,h4⟩:=rep_seqc hs hc r1 ex' H2 (hr _ List.mem_cons_self)
   obtain ⟨v2,h5,h6⟩:=rep_seqc hs' hc' r2 ex' H2 (hr _ (List.mem_cons_of_mem _ (List.mem_singleton.mpr rfl)))
   exact it_zip al (h3 K) h4 (h5 K) h6⟩
end
noncomputable def ownAt (env:List Vl) (σ:L2.St) (i:Nat):List Addr:=match env[i]?,(σ[i]?).join with
 | some (.own _),some (.ref a)=>[a]
 | some (.dct _),some (.ref a)=>[a]
 | some (.own2 _ ps),some (.ref a)=>a::ps.map (·.1)
 | _,_=>[]
noncomputable abbrev GG:=PyData→List Vl→(List Vl→Prop)→Prop
noncomputable abbrev GGs:=List PyData→List Vl→(List Vl→Prop)→Prop
class GV (g:TG) (bd:outParam GG) (ks:outParam (List Nat)):Prop where
 gv:∀ {S:Src} {ex:List Addr} {env:List Vl} {σ:L2.St} {H:Hp} {n:Nat} {d:PyData} {v:V} {Q:L2.St→Hp→Prop} {P:List Vl→Prop},Ev S ex env σ H n→Rep ex H d v→bd d env P →
  (∀ env' σ',P env'→Ev S ex env' σ' H n→(∀ i a,a∈ownAt env' σ' i→a∈ownAt env σ i)→(∀ i:Nat,i∉ks→σ'[i]? = σ[i]?)→σ'.length = σ.length→Q σ' H)→g v σ H Q
class GVs (g:TGs) (bd:outParam GGs) (ks:outParam (List Nat)):Prop where
 gvs:∀ {S:Src} {ex:List Addr} {env:List Vl} {σ:L2.St} {H:Hp} {n:Nat} {d:List PyData} {v:List V} {Q:L2.St→Hp→Prop} {P:List Vl→Prop},Ev S ex env σ H n→Reps ex H d v→bd d env P →
  (∀ env' σ',P env'→Ev S ex env' σ' H n→(∀ i a,a∈ownAt env' σ' i→a∈ownAt env σ i)→(∀ i:Nat,i∉ks→σ'[i]? = σ[i]?)→σ'.length = σ.length→Q σ' H)→g v σ H Q
noncomputable abbrev bName (i:Nat):GG:=fun d env P=>P (env.set i (.d d))
theorem Ev.put {S:Src}{ex:List Addr}{env:List Vl}{σ:L2.St}{H:Hp}{n i:Nat}{w:Vl}{v:V}(E:Ev S ex env σ H n) (h:SlR S ex H w (some v)):Ev S ex (env.set i w) (σ.set i (some v)) H n:=by
 refine ⟨by rw [List.length_set,List.length_set];exact E.len,fun j u e=>?_,E.ch,E.al,E.inv⟩
 by_cases hj:i=j
 · subst hj
   have hl:i<env.length:=by
    have:=(List.getElem?_eq_some_iff.mp e).1
    rw [List.length_set] at this;exact this
   rw [List.getElem?_set_self hl] at e
   cases e
   rw [List.getElem?_set_self (Nat.lt_of_lt_of_le hl E.len)]
   exact h
 · rw [List.getElem?_set_ne hj] at e ⊢
   exact E.sl j u e
theorem own_put {env:List Vl}{σ:L2.St}{i:Nat}{d:PyData}{v:V}:∀ j a,a∈ownAt (env.set i (.d d)) (σ.set i (some v)) j→a∈ownAt env σ j:=fun j a h=>by
 unfold ownAt at h ⊢
 by_cases hj:i=j
 · subst hj
   by_cases hl:i<env.length
   · rw [List.getElem?_set_self hl] at h
     cases h
   · rw [List.getElem?_eq_none (by rw [List.length_set];omega)] at h
     cases h
 · rw [List.getElem?_set_ne hj,List.getElem?_set_ne hj] at h
   exact h
noncomputable instance gv_name {i:Nat}:GV (gName i) (bName i) [i]:=⟨fun {S ex env σ H n d v Q P} E r h k=>k _ _ h (E.put ⟨v,rfl,r⟩) own_put (fun j hj=>List.getElem?_set_ne (fun z=>hj (by rw [z];exact List.mem_singleton.mpr rfl))) List.length_set⟩
noncomputable abbrev bNil:GGs:=fun ds env P=>ds=[]∧P env
noncomputable abbrev bCons (t:GG) (u:GGs):GGs:=fun ds env P=>match ds with
 | d::r=>t d env fun env1=>u r env1 P
 | []=>False
noncomputable instance gvs_nil:GVs L2.gNil bNil []:=⟨fun {S ex env σ H n d v Q P} E r h k=>by
 obtain ⟨rfl,h⟩:=h
 cases r
 exact ⟨rfl,k _ _ h E (fun _ _ h=>h) (fun _ _=>rfl) rfl⟩⟩
noncomputable instance gvs_cons {t:TG}{u:TGs}{bt:GG}{bu:GGs}{k1 k2:List Nat} [A:GV t bt k1] [B:GVs u bu k2]:GVs (L2.gCons t u) (bCons bt bu) (k1++k2):=⟨fun {S ex env σ H n d v Q P} E r h k=>by
 cases r with
 | nil=>exact h.elim
 | cons r1 t=>
  refine ⟨_,_,rfl,A.gv E r1 h fun env1 σ1 h1 E1 o1 f1 z1=>B.gvs E1 t h1 fun env2 σ2 h2 E2 o2 f2 z2=>k _ _ h2 E2 (fun i a ha=>o1 i a (o2 i a ha)) (fun i hi=>?_) (z2.trans z1)⟩
  rw [f2 i fun z=>hi (List.mem_append_right _ z),f1 i fun z=>hi (List.mem_append_left _ z)]⟩
noncomputable abbrev bTup (k:Nat) (bs:GGs):GG:=fun d env P=>match d with
 | .tuple ds=>ds.length=k∧bs ds env P
 | _=>False
noncomputable instance gv_tup {K:PySem.W.Frag}{k:Nat}{t:TGs}{bs:GGs}{ks:List Nat} [A:GVs t bs ks]:GV (gTup K k t) (bTup k bs) ks:=⟨fun {S ex env σ H n d v Q P} E r h k=>by
 cases r with
 | tuple e m z rs=>exact ⟨_,_,rfl,SqT.of e,by rw [← rs.length];exact h.1,A.gvs E rs h.2 k⟩
 | none=>exact h.elim
 | bool=>exact h.elim
 | str=>exact h.elim
 | int=>exact h.elim
 | list=>exact h.elim⟩
noncomputable def cmpW (f:PyData→Nat→(Option PyData→Nat→Prop)→Prop):List PyData→Nat→(List PyData→Nat→Prop)→Prop
 | [],n,Q=>Q [] n
 | x::xs,n,Q=>f x n fun o n1=>cmpW f xs n1 fun ys n2=>Q (o.toList++ys) n2
noncomputable def jenv (k:Nat) (idx:List Nat) (env:List Vl):List Vl:=List.replicate k .jnk++idx.map fun i=>(env[i]?).getD .jnk
noncomputable abbrev gTurn (bd:GG) (gt:GT) (ge:GE) (env:List Vl):PyData→Nat→(Option PyData→Nat→Prop)→Prop:=fun x n Q=>bd x env fun env'=>gt env' n fun c n1=>if c=true then ge env' n1 fun y n2=>Q (some y) n2 else Q none n1
noncomputable abbrev gComp (gi:GN) (k:Nat) (idx:List Nat) (ks:List Nat) (bd:GG) (gt:GT) (ge:GE):GN:=fun env n Q=>gi env n fun items n1=>(ks.all (fun i=>decide (i<k))=true∧items.length≤sizeLine)∧cmpW (gTurn bd gt ge (jenv k idx env)) items n1 Q
theorem SlR.add {S:Src}{ex:List Addr}{H:Hp}{l:Addr}{w:Vl}{o:Option V}(hl:H l=none) (h:SlR S ex H w o):SlR S (l::ex) H w o:=by
 cases w with
 | jnk=>trivial
 | jar=>exact h
 | tape=>exact h
 | d x=>obtain ⟨v,e,r⟩:=h;exact ⟨v,e,Rep.add hl r⟩
 | pin v x=>obtain ⟨e,r⟩:=h;exact ⟨e,Rep.add hl r⟩
 | own xs=>obtain ⟨a,vs,e,h1,h2,h3,h4,h5⟩:=h;exact ⟨a,vs,e,h1,h2,Reps.add hl h3,List.mem_cons_of_mem _ h4,h5⟩
 | dct kvs=>obtain ⟨a,kws,e,h1,⟨h2,h3⟩,h4,h5⟩:=h;exact ⟨a,kws,e,h1,⟨h2,Reps.add hl h3⟩,List.mem_cons_of_mem _ h4,h5⟩
 | own2 ks ps=>obtain ⟨a,e,q⟩:=h;exact ⟨a,e,q.h,q.z,q.k,q.nd,List.mem_cons_of_mem _ q.m,q.c,fun p hp=>let w:=q.i p hp;⟨List.mem_cons_of_mem _ w.m,w.c,let ⟨vs,h1,h2,h3⟩:=w.h;⟨vs,h1,h2,Reps.add hl h3⟩⟩⟩
theorem SlR.upd {S:Src}{ex:List Addr}{H:Hp}{l:Addr}{w:Vl}{o:Option V}{u:HO}(hl:l∈ex) (hn:∀ b∈ownAt [w] [o] 0,b≠l) (h:SlR S ex H w o):SlR S ex (upd H l u) w o:=by
 cases w with
 | jnk=>trivial
 | jar=>exact h
 | tape=>exact h
 | d x=>obtain ⟨v,e,r⟩:=h;exact ⟨v,e,r.keep (Kp.at hl _)⟩
 | pin v x=>obtain ⟨e,r⟩:=h;exact ⟨e,r.keep (Kp.at hl _)⟩
 | own xs=>obtain ⟨a,vs,e,h1,h2,h3,h4,h5⟩:=h;subst e;exact ⟨a,vs,rfl,by rw [upd_ne (hn a List.mem_cons_self)];exact h1,h2,h3.keep (Kp.at hl _),h4,h5⟩
 | dct kvs=>obtain ⟨a,kws,e,h1,⟨h2,h3⟩,h4,h5⟩:=h;subst e;exact ⟨a,kws,rfl,by rw [upd_ne (hn a List.mem_cons_self)];exact h1,⟨h2,h3.keep (Kp.at hl _)⟩,h4,h5⟩
 | own2 ks ps=>obtain ⟨a,e,q⟩:=h;subst e;exact ⟨a,rfl,by rw [upd_ne (hn a List.mem_cons_self)];exact q.h,q.z,q.k,q.nd,q.m,q.c,fun p hp=>let w:=q.i p hp;⟨w.m,w.c,let ⟨vs,h1,h2,h3⟩:=w.h;⟨vs,by rw [upd_ne (hn p.1 (List.mem_cons_of_mem _ (List.mem_map.mpr ⟨p,hp,rfl⟩)))];exact h1,h2,h3.keep (Kp.at hl _)⟩⟩⟩
theorem ev_inner {S:Src}{ex:List Addr}{env:List Vl}{σ:L2.St}{H:Hp}{n:Nat}(E:Ev S ex env σ H n) (k:Nat) (idx:List Nat):Ev S ex (jenv k idx env) (startC k idx σ) H n:=by
 refine ⟨by unfold jenv startC;simp,fun i w e=>?_,E.ch,E.al,E.inv⟩
 unfold jenv at e
 by_cases hi:i<k
 · rw [List.getElem?_append_left (by simpa using hi),List.getElem?_replicate,if_pos hi] at e
   cases e
   trivial
 · rw [List.getElem?_append_right (by simpa using Nat.le_of_not_lt hi),List.getElem?_map] at e
   rw [List.length_replicate] at e
   cases hj:idx[i-k]? with
   | none=>rw [hj] at e;cases e
   | some j=>
    rw [hj] at e
    cases e
    have e2:(startC k idx σ)[i]? = some ((σ[j]?).join):=by
     unfold startC
     rw [List.getElem?_append_right (by simpa using Nat.le_of_not_lt hi),List.length_replicate,List.getElem?_map,hj];rfl
    rw [e2]
    show SlR S ex H ((env[j]?).getD .jnk) (σ[j]?).join
    cases hw:env[j]? with
    | none=>exact trivial
    | some w=>exact E.sl j w hw
theorem ev_turn {S:Src}{ex:List Addr}{je:List Vl}{σ0 σ':L2.St}{H1 H2:Hp}{n1 n2 k:Nat}{l:Addr}(E:Ev S ex je σ0 H1 n1) (hl:H1 l=none) (kp:Kp (l::S.ch) H1 H2) (h2:H2 l≠none) (iv:S.inv n2 H2) (hj:∀ j:Nat,j<k→je[j]? = none∨je[j]? = some .jnk) (hs:∀ j:Nat,k≤j→σ'[j]? = σ0[j]?) (hz:σ'.length = σ0.length):Ev S (l::ex) je σ' H2 n2:=by
 have hc:∀ a∈S.ch,a∈l::ex:=fun a h=>List.mem_cons_of_mem _ (E.ch a h)
 have kx:Kp (l::ex) H1 H2:=kp_cons E.ch kp
 refine ⟨by rw [hz];exact E.len,fun j w e=>?_,hc,fun a ha=>?_,iv⟩
 · by_cases hjk:j<k
   · rcases hj j hjk with h | h
     · rw [h] at e;cases e
     · rw [h] at e;cases e;trivial
   · rw [hs j (Nat.le_of_not_lt hjk)]
     have h:=SlR.add hl (E.sl j w e)
     cases w with
     | jnk=>trivial
     | jar=>exact h
     | tape=>exact h
     | d x=>obtain ⟨v,e,r⟩:=h;exact ⟨v,e,r.keep kx⟩
     | pin v x=>obtain ⟨e,r⟩:=h;exact ⟨e,r.keep kx⟩
     | own xs=>obtain ⟨a,vs,e,h1,h2,h3,h4,h5⟩:=h;exact ⟨a,vs,e,kp _ _ h1 fun z=>(List.mem_cons.mp z).elim (ne_of_none h1 hl) h5,h2,h3.keep kx,h4,h5⟩
     | dct kvs=>obtain ⟨a,kws,e,h1,⟨h2,h3⟩,h4,h5⟩:=h;exact ⟨a,kws,e,kp _ _ h1 fun z=>(List.mem_cons.mp z).elim (ne_of_none h1 hl) h5,⟨h2,h3.keep kx⟩,h4,h5⟩
     | own2 ks ps=>obtain ⟨a,e,q⟩:=h;exact ⟨a,e,kp _ _ q.h fun z=>(List.mem_cons.mp z).elim (ne_of_none q.h hl) q.c,q.z,q.k,q.nd,q.m,q.c,fun p hp=>let w:=q.i p hp;⟨w.m,w.c,let ⟨vs,h1,h2,h3⟩:=w.h;⟨vs,kp _ _ h1 fun z=>(List.mem_cons.mp z).elim (ne_of_none h1 hl) w.c,h2,h3.keep kx⟩⟩⟩
 · rcases List.mem_cons.mp ha with rfl | ha
   · exact h2
   · by_cases hac:a∈S.ch
     · exact S.dom iv a hac
     · intro z
       cases e:H1 a with
       | none=>exact E.al a ha e
       | some o=>
        rw [kp a o e fun q=>(List.mem_cons.mp q).elim (ne_of_none e hl) hac] at z
        cases z
theorem jenv_jnk {k:Nat}{idx:List Nat}{env:List Vl}(j:Nat) (h:j<k):(jenv k idx env)[j]? = none∨(jenv k idx env)[j]? = some .jnk:=by
 right
 unfold jenv
 rw [List.getElem?_append_left (by simpa using h),List.getElem?_replicate,if_pos h]
noncomputable instance nv_comp {wi:TI}{gi:GN}{k:Nat}{idx ks:List Nat}{g:TG}{bd:GG}{tt:TT}{gt:GT}{te:TE}{ge:GE} [I:IC wi gi] [G:GV g bd ks] [T:TV tt gt] [A:EV true te ge]:NV (tComp wi k idx g tt te) (gComp gi k idx ks bd gt ge):=⟨fun {S ex env σ H n Q P} E h kk=>by
 refine I.ic E h fun items n1 J H1 hc s1 hit l hl=>?_
 obtain ⟨⟨hk,hz⟩,hc⟩:=hc
 have E1:=ev_inner (E.step s1) k idx
 have lch:l∉S.ch:=fun z=>S.dom s1.2 l z hl
 have hkk:∀ i∈ks,i<k:=fun i hi=>of_decide_eq_true (List.all_eq_true.mp hk i hi)
 refine ⟨fun i m σ' H2=>i≤items.length∧m=items.length-i∧∃ (n2:Nat) (ds:List PyData) (vs:List V),cmpW (gTurn bd gt ge (jenv k idx env)) (items.drop i) n2 (fun ys n'=>P (ds++ys) n')∧Kp (l::S.ch) H1 H2∧H2 l=some (.lst vs)∧vs.length≤i∧Reps (l::ex) H2 ds vs∧S.inv n2 H2∧(∀ j:Nat,k≤j→σ'[j]? = (startC k idx σ)[j]?)∧σ'.length=(startC k idx σ).length,
  ⟨items.length,Nat.zero_le _,rfl,n1,[],[],by simpa using hc,Kp.new hl _,upd_same,Nat.le_refl _,.nil,S.keep s1.2 fun b _ o' e=>Kp.new (ex:=[]) hl _ _ _ e (by simp),fun _ _=>rfl,rfl⟩,?_⟩
 rintro i m σ' H2 ⟨hi,rfl,n2,ds,vs,hcm,kp,h2l,hvl,rs,iv2,hsl,hln⟩
 have E2:Ev S (l::ex) (jenv k idx env) σ' H2 n2:=ev_turn E1 hl kp (by rw [h2l];intro z;cases z) iv2 jenv_jnk hsl hln
 have IT:=hit l H2 hl kp E2.al
 rcases Nat.lt_or_ge i items.length with hlt | hge
 · refine .inr ⟨(IT.2 i items[i] (List.getElem?_eq_getElem hlt)).1,fun x H3 y=>?_⟩
   obtain ⟨kp3,rx⟩:=(IT.2 i items[i] (List.getElem?_eq_getElem hlt)).2 x H3 y
   rw [List.drop_eq_getElem_cons hlt] at hcm
   have st3:Step S n2 H2 H3:=Step.new E2.inv kp3
   have E3:=E2.step st3
   refine G.gv E3 rx hcm fun env' σ2 ht E4 _ hs hl2=>T.tv E4 ht fun c n4 H4 h4 s4=>?_
   have hs2:∀ j:Nat,k≤j→σ2[j]? = (startC k idx σ)[j]?:=fun j hj=>by
    rw [hs j fun z=>by have:=hkk j z;omega];exact hsl j hj
   cases c with
   | true=>
    refine A.ev (E4.step s4) h4 fun d n5 v H5 h5 s5 r5=>?_
    have s25:=st3.trans (s4.trans s5)
    have k5:Kp S.ch H2 H5:=s25.1
    have h5l:H5 l=some (.lst vs):=k5 _ _ h2l lch
    refine ⟨vs,h5l,by omega,_,(?_:items.length-(i+1)<_),hlt,rfl,n5,ds++[d],vs++[v],?_,?_,upd_same,?_,?_,?_,hs2,hl2.trans hln⟩
    · omega
    · simpa using h5
    · exact (kp.trans (k5.mono fun b hb=>List.mem_cons_of_mem _ hb)).trans (Kp.at List.mem_cons_self _)
    · rw [List.length_append,List.length_singleton];omega
    · have q1:Reps (l::ex) H5 ds vs:=rs.keep (k5.mono E2.ch)
      exact (Reps.append q1 (.cons r5 .nil)).keep (Kp.at List.mem_cons_self _)
    · exact S.keep s25.2 fun b hb o e=>by rw [upd_ne (fun z=>lch (by rw [← z];exact hb))];exact e
   | false=>
    have s24:=st3.trans s4
    refine ⟨_,(?_:items.length-(i+1)<_),hlt,rfl,n4,ds,vs,by simpa using h4,kp.trans (s24.1.mono fun b hb=>List.mem_cons_of_mem _ hb),s24.1 _ _ h2l lch,by omega,rs.keep (s24.1.mono E2.ch),s24.2,hs2,hl2.trans hln⟩
    omega
 · have e:i=items.length:=by omega
   subst e
   rw [List.drop_length] at hcm
   refine .inl ⟨IT.1,kk _ _ _ _ _ (by simpa [cmpW] using hcm) ⟨fun b o e nb=>kp b o (s1.1 b o e nb) fun z=>(List.mem_cons.mp z).elim (fun e2=>by rw [e2,s1.free hl] at e;cases e) nb,iv2⟩ (s1.free hl) h2l (Nat.le_trans hvl hz) rs⟩⟩
structure VEnds where
 nx:List Vl→Nat→Prop
 rt:PyData→Nat→Prop
 rtn:List PyData→Nat→Prop
 bk:List Vl→Nat→Prop:=fun _ _=>False
 ct:List Vl→Nat→Prop:=fun _ _=>False
 xc:XK→Addr→Nat→Prop:=fun _ _ _=>False
 rt2:List (List PyData)→Nat→Prop:=fun _ _=>False
noncomputable abbrev GS:=VEnds→List Vl→Nat→Prop
structure Cv where
 S:Src
 ex0:List Addr
 H0:Hp
 held:List (PyData×V)
structure At (C:Cv) (ex:List Addr) (env:List Vl) (σ:L2.St) (H:Hp) (n:Nat):Prop where
 ev:Ev C.S ex env σ H n
 ex0:∀ a∈C.ex0,a∈ex
 al0:Alc C.ex0 C.H0
 sep:∀ i j a,a∈ownAt env σ i→a∈ownAt env σ j→i=j
 new:∀ i a,a∈ownAt env σ i→C.H0 a=none
 kp:Kp C.S.ch C.H0 H
 held:∀ h∈C.held,Rep ex H h.1 h.2
structure Ret (C:Cv) (d:PyData) (n:Nat) (v:V) (H:Hp):Prop where
 kp:Kp C.S.ch C.H0 H
 inv:C.S.inv n H
 r:Rep C.ex0 H d v
structure RetN (C:Cv) (ds:List PyData) (n:Nat) (a:Addr) (H:Hp):Prop where
 kp:Kp C.S.ch C.H0 H
 inv:C.S.inv n H
 fr:C.H0 a=none
 r:∃ vs,H a=some (.lst vs)∧vs.length≤sizeLine∧Reps (a::C.ex0) H ds vs
structure Ret2 (C:Cv) (ps:List (Addr×List PyData)) (n:Nat) (a:Addr) (H:Hp):Prop where
 kp:Kp C.S.ch C.H0 H
 inv:C.S.inv n H
 fr:C.H0 a=none
 frs:∀ p∈ps,C.H0 p.1=none
 o:Own2 C.S (a::ps.map (·.1)++C.ex0) H none ps a
structure EndsOk (C:Cv) (G:VEnds) (D:Ends):Prop where
 nx:∀ {ex env σ H n},At C ex env σ H n→G.nx env n→D.nx σ H
 bk:∀ {ex env σ H n},At C ex env σ H n→G.bk env n→D.bk σ H
 ct:∀ {ex env σ H n},At C ex env σ H n→G.ct env n→D.ct σ H
 rt:∀ {d n v H},Ret C d n v H→G.rt d n→D.rt v H
 rtn:∀ {ds n a H},RetN C ds n a H→G.rtn ds n→D.rt (.ref a) H
 xc:∀ {E c n H},Kp C.S.ch C.H0 H→C.S.inv n H→G.xc E c n→E (.ref c) none H
 r2:∀ {ps n a H},Ret2 C ps n a H→G.rt2 (ps.map (·.2)) n→D.rt (.ref a) H
class SV (ts:TS) (gs:outParam GS):Prop where
 sv:∀ {C:Cv} {G:VEnds} {D:Ends},EndsOk C G D→∀ {ex env σ H n},At C ex env σ H n→gs G env n→ts D σ H
section
variable {C:Cv}{ex:List Addr}{env:List Vl}{σ:L2.St}{H H':Hp}{n m:Nat}
theorem At.step (A:At C ex env σ H n) (s:Step C.S m H H'):At C ex env σ H' m:=⟨A.ev.step s,A.ex0,A.al0,A.sep,A.new,A.kp.trans s.1,fun h hh=>A.ev.rep s (A.held h hh)⟩
theorem own_sl {i:Nat}{a:Addr}(E:Ev C.S ex env σ H n) (h:a∈ownAt env σ i):H a≠none∧a∈ex∧a∉C.S.ch:=by
 unfold ownAt at h
 split at h
 · rename_i xs b e1 e2
   obtain ⟨c,vs,e,h1,h2,h3,h4,h5⟩:=E.sl i _ e1
   rw [e2] at e
   cases e
   rw [List.mem_singleton.mp h]
   exact ⟨(by rw [h1];intro z;cases z),h4,h5⟩
 · rename_i xs b e1 e2
   obtain ⟨c,vs,e,h1,h2,h4,h5⟩:=E.sl i _ e1
   rw [e2] at e
   cases e
   rw [List.mem_singleton.mp h]
   exact ⟨(by rw [h1];intro z;cases z),h4,h5⟩
 · rename_i ks ps b e1 e2
   obtain ⟨c,e,q⟩:=E.sl i _ e1
   rw [e2] at e
   cases e
   rcases List.mem_cons.mp h with rfl | h
   · exact ⟨(by rw [q.h];exact Option.some_ne_none _),q.m,q.c⟩
   · obtain ⟨p,hp,rfl⟩:=List.mem_map.mp h
     have w:=q.i p hp
     obtain ⟨vs,h1,_⟩:=w.h
     exact ⟨(by rw [h1];exact Option.some_ne_none _),w.m,w.c⟩
 · cases h
theorem set_get {α:Type}{l:List α}{i:Nat}{a b:α}(h:(l.set i a)[i]? = some b):b=a:=by
 have hl:=(List.getElem?_eq_some_iff.mp h).1
 rw [List.length_set] at hl
 rw [List.getElem?_set_self hl] at h
 exact (Option.some.inj h).symm
theorem own_one {j:Nat}{w:Vl}(e:env[j]? = some w):ownAt env σ j=ownAt [w] [(σ[j]?).join] 0:=by
 unfold ownAt
 rw [e]
 rfl
theorem At.put (A:At C ex env σ H n) {i:Nat}{d:PyData}{v:V}(r:Rep ex H d v):At C ex (env.set i (.d d)) (σ.set i (some v)) H n:=
 ⟨A.ev.put ⟨v,rfl,r⟩,A.ex0,A.al0,fun j k a h1 h2=>A.sep j k a (own_put j a h1) (own_put k a h2),fun j a h=>A.new j a (own_put j a h),A.kp,A.held⟩
theorem At.bind (A:At C ex env σ H n) {env':List Vl}{σ':L2.St}(E:Ev C.S ex env' σ' H n) (o:∀ i a,a∈ownAt env' σ' i→a∈ownAt env σ i):At C ex env' σ' H n:=
 ⟨E,A.ex0,A.al0,fun j k a h1 h2=>A.sep j k a (o j a h1) (o k a h2),fun j a h=>A.new j a (o j a h),A.kp,A.held⟩
theorem At.free (A:At C ex env σ H n) {a:Addr}(h:H a=none):C.H0 a=none:=by
 cases e:C.H0 a with
 | none=>rfl
 | some o=>
  by_cases hp:a∈C.S.ch
  · exact absurd h (C.S.dom A.ev.inv a hp)
  · rw [A.kp a o e hp] at h;cases h
theorem own_other {i j:Nat}{w:Vl}{o:Option V}(h:i≠j):ownAt (env.set i w) (σ.set i o) j=ownAt env σ j:=by
 unfold ownAt
 rw [List.getElem?_set_ne h,List.getElem?_set_ne h]
theorem own_at {i:Nat}{ds:List PyData}{a b:Addr}(h:b∈ownAt (env.set i (.own ds)) (σ.set i (some (.ref a))) i):b=a:=by
 unfold ownAt at h
 split at h
 · rename_i c e1 e2
   have e3:(σ.set i (some (.ref a)))[i]? = some (some (.ref c)):=join_some e2
   have:=set_get e3
   cases this
   exact List.mem_singleton.mp h
 · rename_i e1 e2
   have:=set_get e1
   cases this
 · rename_i e1 e2
   have:=set_get e1
   cases this
 · cases h
theorem At.own (A:At C ex env σ H n) {i:Nat}{ds:List PyData}{vs:List V}{a:Addr}(s:Step C.S m H H') (ha:H a=none) (hl:H' a=some (.lst vs)) (hz:vs.length≤sizeLine) (r:Reps (a::ex) H' ds vs) :
 At C (a::ex) (env.set i (.own ds)) (σ.set i (some (.ref a))) H' m:=by
 have ac:a∉C.S.ch:=fun z=>C.S.dom A.ev.inv a z ha
 have hc:∀ b∈C.S.ch,b∈a::ex:=fun b h=>List.mem_cons_of_mem _ (A.ev.ch b h)
 have E1:Ev C.S (a::ex) env σ H' m:=by
  refine ⟨A.ev.len,fun j w e=>(SlR.add ha (A.ev.sl j w e)).kp hc s.1,hc,fun b hb=>?_,s.2⟩
  rcases List.mem_cons.mp hb with rfl | hb
  · rw [hl];intro z;cases z
  · exact A.ev.al.step s b hb
 refine ⟨E1.put ⟨a,vs,rfl,hl,hz,r,List.mem_cons_self,ac⟩,fun b h=>List.mem_cons_of_mem _ (A.ex0 b h),A.al0,fun j k b h1 h2=>?_,fun j b h=>?_,A.kp.trans s.1,fun h hh=>(Rep.add ha (A.held h hh)).keep (s.1.mono hc)⟩
 · by_cases hj:i=j
   · subst hj
     have e:=own_at h1
     subst e
     by_cases hk:i=k
     · exact hk
     · rw [own_other hk] at h2
       exact absurd ha (own_sl A.ev h2).1
   · rw [own_other hj] at h1
     by_cases hk:i=k
     · subst hk
       have e:=own_at h2
       subst e
       exact absurd ha (own_sl A.ev h1).1
     · rw [own_other hk] at h2
       exact A.sep j k b h1 h2
 · by_cases hj:i=j
   · subst hj
     have e:=own_at h
     subst e
     exact A.free ha
   · rw [own_other hj] at h
     exact A.new j b h
theorem own_same {i:Nat}{xs ys:List PyData}(h:env[i]? = some (.own xs)):∀ j,ownAt (env.set i (.own ys)) σ j=ownAt env σ j:=fun j=>by
 unfold ownAt
 by_cases hj:i=j
 · subst hj
   rw [List.getElem?_set_self (List.getElem?_eq_some_iff.mp h).1,h]
   cases (σ[i]?).join with
   | none=>rfl
   | some v=>cases v<;>rfl
 · rw [List.getElem?_set_ne hj]
theorem At.re (A:At C ex env σ H n) {i:Nat}{xs ys:List PyData}{ws:List V}{a:Addr}(h:env[i]? = some (.own xs)) (hs:(σ[i]?).join=some (.ref a)) (r:Reps ex H ys ws) (hz:ws.length≤sizeLine) :
 At C ex (env.set i (.own ys)) σ (upd H a (.lst ws)) n:=by
 have ha:a∈ownAt env σ i:=by unfold ownAt;rw [h,hs];exact List.mem_singleton.mpr rfl
 obtain ⟨h1,h2,h3⟩:=own_sl A.ev ha
 have h0:=A.new i a ha
 have kx:Kp ex H (upd H a (.lst ws)):=Kp.at h2 _
 refine ⟨⟨by rw [List.length_set];exact A.ev.len,fun j w e=>?_,A.ev.ch,fun b hb=>?_,C.S.keep A.ev.inv fun b hb o e=>by rw [upd_ne (fun z=>h3 (by rw [← z];exact hb))];exact e⟩,A.ex0,A.al0,fun j k b q1 q2=>?_,fun j b q=>?_,Kp.late A.kp h0 _,fun x hx=>(A.held x hx).keep kx⟩
 · by_cases hj:i=j
   · subst hj
     rw [List.getElem?_set_self (List.getElem?_eq_some_iff.mp h).1] at e
     cases e
     exact ⟨a,ws,hs,upd_same,hz,r.keep kx,h2,h3⟩
   · rw [List.getElem?_set_ne hj] at e
     exact SlR.upd h2 (fun b hb z=>hj (A.sep i j a ha (by rw [own_one e,← z];exact hb))) (A.ev.sl j w e)
 · by_cases hb2:b=a
   · rw [hb2,upd_same];intro z;cases z
   · rw [upd_ne hb2];exact A.ev.al b hb
 · rw [own_same h] at q1 q2;exact A.sep j k b q1 q2
 · rw [own_same h] at q;exact A.new j b q
inductive Fz:List Vl→List Vl→Prop
 | refl {env:List Vl}:Fz env env
 | fz {env env':List Vl} (i:Nat) (xs:List PyData) (h:env[i]? = some (.own xs)) (t:Fz (env.set i (.d (.list xs))) env'):Fz env env'
 | jnk {env env':List Vl} (i:Nat) (t:Fz (env.set i .jnk) env'):Fz env env'
 | fz2 {env env':List Vl} (i:Nat) (ps:List (Addr×List PyData)) (h:env[i]? = some (.own2 none ps)) (t:Fz (env.set i (.d (.list (ps.map fun p=>.list p.2)))) env'):Fz env env'
 | fzh {env env':List Vl} (i:Nat) (ps:List (Addr×List PyData)) (h:env[i]? = some (.own2 none ps)) (t:Fz (env.set i (.own (ps.map fun p=>.list p.2))) env'):Fz env env'
theorem At.fz1 (A:At C ex env σ H n) {i:Nat}{xs:List PyData}(h:env[i]? = some (.own xs)):∃ ex',At C ex' (env.set i (.d (.list xs))) σ H n:=by
 obtain ⟨a,vs,e,h1,h2,h3,h4,h5⟩:=A.ev.sl i _ h
 have ha:a∈ownAt env σ i:=by unfold ownAt;rw [h,e];exact List.mem_singleton.mpr rfl
 have hsub:∀ b∈ex.filter (fun b=>decide (b≠a)),b∈ex:=fun b hb=>(List.mem_filter.mp hb).1
 have hin:∀ b∈ex,b≠a→b∈ex.filter (fun b=>decide (b≠a)):=fun b hb hn=>List.mem_filter.mpr ⟨hb,decide_eq_true hn⟩
 have hn:a∉ex.filter (fun b=>decide (b≠a)):=fun z=>(of_decide_eq_true (List.mem_filter.mp z).2) rfl
 have oo:∀ j b,b∈ownAt (env.set i (.d (.list xs))) σ j→b∈ownAt env σ j∧b≠a:=fun j b hb=>by
  by_cases hj:i=j
  · subst hj
    unfold ownAt at hb
    rw [List.getElem?_set_self (List.getElem?_eq_some_iff.mp h).1] at hb
    cases hb
  · have:ownAt (env.set i (.d (.list xs))) σ j=ownAt env σ j:=by unfold ownAt;rw [List.getElem?_set_ne hj]
    rw [this] at hb
    exact ⟨hb,fun z=>hj (A.sep i j a ha (by rw [← z];exact hb))⟩
 refine ⟨ex.filter fun b=>decide (b≠a),⟨by rw [List.length_set];exact A.ev.len,fun j w ew=>?_,fun b hb=>hin b (A.ev.ch b hb) fun z=>h5 (by rw [← z];exact hb),fun b hb=>A.ev.al b (hsub b hb),A.ev.inv⟩,fun b hb=>hin b (A.ex0 b hb) fun z=>?_,A.al0,fun j k b q1 q2=>A.sep j k b (oo j b q1).1 (oo k b q2).1,fun j b q=>A.new j b (oo j b q).1,A.kp,fun x hx=>Rep.mono hsub (A.held x hx)⟩
 · by_cases hj:i=j
   · subst hj
     rw [List.getElem?_set_self (List.getElem?_eq_some_iff.mp h).1] at ew
     cases ew
     exact ⟨_,e,.list h1 hn h2 (Reps.mono hsub h3)⟩
   · rw [List.getElem?_set_ne hj] at ew
     have q:=A.ev.sl j w ew
     have ne:∀ b∈ownAt [w] [(σ[j]?).join] 0,b≠a:=fun b hb z=>hj (A.sep i j a ha (by rw [own_one ew,← z];exact hb))
     cases w with
     | jnk=>trivial
     | jar=>exact q
     | tape=>exact q
     | d x=>obtain ⟨v,e,r⟩:=q;exact ⟨v,e,Rep.mono hsub r⟩
     | pin v x=>obtain ⟨e,r⟩:=q;exact ⟨e,Rep.mono hsub r⟩
     | own ys=>obtain ⟨b,ws,e,g1,g2,g3,g4,g5⟩:=q;exact ⟨b,ws,e,g1,g2,Reps.mono hsub g3,hin b g4 (ne b (by rw [e];exact List.mem_cons_self)),g5⟩
     | dct kvs=>obtain ⟨b,ws,e,g1,⟨g2,g3⟩,g4,g5⟩:=q;exact ⟨b,ws,e,g1,⟨g2,Reps.mono hsub g3⟩,hin b g4 (ne b (by rw [e];exact List.mem_cons_self)),g5⟩
     | own2 ks ps=>obtain ⟨b,e,q⟩:=q;exact ⟨b,e,q.h,q.z,q.k,q.nd,hin b q.m (ne b (by rw [e];exact List.mem_cons_self)),q.c,fun p hp=>let w:=q.i p hp;⟨hin p.1 w.m (ne p.1 (by rw [e];exact List.mem_cons_of_mem _ (List.mem_map.mpr ⟨p,hp,rfl⟩))),w.c,let ⟨vs,h1,h2,h3⟩:=w.h;⟨vs,h1,h2,Reps.mono hsub h3⟩⟩⟩
 · subst z
   exact A.al0 b hb (A.new i b ha)
theorem At.fz2 (A:At C ex env σ H n) {i:Nat}{ps:List (Addr×List PyData)}(h:env[i]? = some (.own2 none ps)):∃ ex',At C ex' (env.set i (.d (.list (ps.map fun p=>.list p.2)))) σ H n:=by
 obtain ⟨a,e,o⟩:=A.ev.sl i _ h
 have hL:∀ b∈a::ps.map (·.1),b∈ownAt env σ i:=fun b hb=>by unfold ownAt;rw [h,e];exact hb
 have hsub:∀ b∈ex.filter (fun b=>decide (b∉a::ps.map (·.1))),b∈ex:=fun b hb=>(List.mem_filter.mp hb).1
 have hin:∀ b∈ex,b∉a::ps.map (·.1)→b∈ex.filter (fun b=>decide (b∉a::ps.map (·.1))):=fun b hb hn=>List.mem_filter.mpr ⟨hb,decide_eq_true hn⟩
 have hn:∀ b∈a::ps.map (·.1),b∉ex.filter (fun b=>decide (b∉a::ps.map (·.1))):=fun b hb z=>(of_decide_eq_true (List.mem_filter.mp z).2) hb
 have hc:∀ b∈a::ps.map (·.1),b∉C.S.ch:=fun b hb=>by
  rcases List.mem_cons.mp hb with rfl | hb
  · exact o.c
  · obtain ⟨p,hp,rfl⟩:=List.mem_map.mp hb;exact (o.i p hp).c
 have oo:∀ j b,b∈ownAt (env.set i (.d (.list (ps.map fun p=>.list p.2)))) σ j→b∈ownAt env σ j∧b∉a::ps.map (·.1):=fun j b hb=>by
  by_cases hj:i=j
  · subst hj
    unfold ownAt at hb
    rw [List.getElem?_set_self (List.getElem?_eq_some_iff.mp h).1] at hb
    cases hb
  · have:ownAt (env.set i (.d (.list (ps.map fun p=>.list p.2)))) σ j=ownAt env σ j:=by unfold ownAt;rw [List.getElem?_set_ne hj]
    rw [this] at hb
    exact ⟨hb,fun z=>hj (A.sep i j b (hL b z) hb)⟩
 refine ⟨ex.filter fun b=>decide (b∉a::ps.map (·.1)),⟨by rw [List.length_set];exact A.ev.len,fun j w ew=>?_,fun b hb=>hin b (A.ev.ch b hb) fun z=>hc b z hb,fun b hb=>A.ev.al b (hsub b hb),A.ev.inv⟩,fun b hb=>hin b (A.ex0 b hb) fun z=>?_,A.al0,fun j k b q1 q2=>A.sep j k b (oo j b q1).1 (oo k b q2).1,fun j b q=>A.new j b (oo j b q).1,A.kp,fun x hx=>Rep.mono hsub (A.held x hx)⟩
 · by_cases hj:i=j
   · subst hj
     rw [List.getElem?_set_self (List.getElem?_eq_some_iff.mp h).1] at ew
     cases ew
     refine ⟨_,e,.list o.h (hn a List.mem_cons_self) (by unfold refs;rw [List.length_map,sizeLine_eq];have:=o.z;omega) ?_⟩
     have:∀ qs:List (Addr×List PyData),(∀ q∈qs,q∈ps)→Reps (ex.filter fun b=>decide (b∉a::ps.map (·.1))) H (qs.map fun p=>PyData.list p.2) (refs qs):=by
      intro qs
      induction qs with
      | nil=>exact fun _=>.nil
      | cons q qs ih=>
       intro hq
       have hm:=hq q List.mem_cons_self
       obtain ⟨vs,g1,g2,g3⟩:=(o.i q hm).h
       exact .cons (.list g1 (hn q.1 (List.mem_cons_of_mem _ (List.mem_map.mpr ⟨q,hm,rfl⟩))) g2 (Reps.mono hsub g3)) (ih fun x hx=>hq x (List.mem_cons_of_mem _ hx))
     exact this ps fun _ h=>h
   · rw [List.getElem?_set_ne hj] at ew
     have q:=A.ev.sl j w ew
     have ne:∀ b∈ownAt [w] [(σ[j]?).join] 0,b∉a::ps.map (·.1):=fun b hb z=>hj (A.sep i j b (hL b z) (by rw [own_one ew];exact hb))
     cases w with
     | jnk=>trivial
     | jar=>exact q
     | tape=>exact q
     | d x=>obtain ⟨v,e,r⟩:=q;exact ⟨v,e,Rep.mono hsub r⟩
     | pin v x=>obtain ⟨e,r⟩:=q;exact ⟨e,Rep.mono hsub r⟩
     | own ys=>obtain ⟨b,ws,e,g1,g2,g3,g4,g5⟩:=q;exact ⟨b,ws,e,g1,g2,Reps.mono hsub g3,hin b g4 (ne b (by rw [e];exact List.mem_cons_self)),g5⟩
     | dct kvs=>obtain ⟨b,ws,e,g1,⟨g2,g3⟩,g4,g5⟩:=q;exact ⟨b,ws,e,g1,⟨g2,Reps.mono hsub g3⟩,hin b g4 (ne b (by rw [e];exact List.mem_cons_self)),g5⟩
     | own2 ks qs=>obtain ⟨b,e,q⟩:=q;exact ⟨b,e,q.h,q.z,q.k,q.nd,hin b q.m (ne b (by rw [e];exact List.mem_cons_self)),q.c,fun p hp=>let w:=q.i p hp;⟨hin p.1 w.m (ne p.1 (by rw [e];exact List.mem_cons_of_mem _ (List.mem_map.mpr ⟨p,hp,rfl⟩))),w.c,let ⟨vs,h1,h2,h3⟩:=w.h;⟨vs,h1,h2,Reps.mono hsub h3⟩⟩⟩
 · exact A.al0 b hb (A.new i b (hL b z))
theorem At.fzh (A:At C ex env σ H n) {i:Nat}{ps:List (Addr×List PyData)}(h:env[i]? = some (.own2 none ps)):∃ ex',At C ex' (env.set i (.own (ps.map fun p=>.list p.2))) σ H n:=by
 obtain ⟨a,e,o⟩:=A.ev.sl i _ h
 have hL:∀ b∈ps.map (·.1),b∈ownAt env σ i:=fun b hb=>by unfold ownAt;rw [h,e];exact List.mem_cons_of_mem _ hb
 have hsub:∀ b∈ex.filter (fun b=>decide (b∉ps.map (·.1))),b∈ex:=fun b hb=>(List.mem_filter.mp hb).1
 have hin:∀ b∈ex,b∉ps.map (·.1)→b∈ex.filter (fun b=>decide (b∉ps.map (·.1))):=fun b hb hn=>List.mem_filter.mpr ⟨hb,decide_eq_true hn⟩
 have hn:∀ b∈ps.map (·.1),b∉ex.filter (fun b=>decide (b∉ps.map (·.1))):=fun b hb z=>(of_decide_eq_true (List.mem_filter.mp z).2) hb
 have hc:∀ b∈ps.map (·.1),b∉C.S.ch:=fun b hb=>by
  obtain ⟨p,hp,rfl⟩:=List.mem_map.mp hb;exact (o.i p hp).c
 have ha:a∈ownAt env σ i:=by unfold ownAt;rw [h,e];exact List.mem_cons_self
 have hna:a∉ps.map (·.1):=(List.nodup_cons.mp o.nd).1
 have oo:∀ j b,b∈ownAt (env.set i (.own (ps.map fun p=>.list p.2))) σ j→b∈ownAt env σ j∧b∉ps.map (·.1):=fun j b hb=>by
  by_cases hj:i=j
  · subst hj
    unfold ownAt at hb
    rw [List.getElem?_set_self (List.getElem?_eq_some_iff.mp h).1,e] at hb
    have hb':b=a:=List.mem_singleton.mp hb
    rw [hb']
    exact ⟨ha,hna⟩
  · have:ownAt (env.set i (.own (ps.map fun p=>.list p.2))) σ j=ownAt env σ j:=by unfold ownAt;rw [List.getElem?_set_ne hj]
    rw [this] at hb
    exact ⟨hb,fun z=>hj (A.sep i j b (hL b z) hb)⟩
 refine ⟨ex.filter fun b=>decide (b∉ps.map (·.1)),⟨by rw [List.length_set];exact A.ev.len,fun j w ew=>?_,fun b hb=>hin b (A.ev.ch b hb) fun z=>hc b z hb,fun b hb=>A.ev.al b (hsub b hb),A.ev.inv⟩,fun b hb=>hin b (A.ex0 b hb) fun z=>?_,A.al0,fun j k b q1 q2=>A.sep j k b (oo j b q1).1 (oo k b q2).1,fun j b q=>A.new j b (oo j b q).1,A.kp,fun x hx=>Rep.mono hsub (A.held x hx)⟩
 · by_cases hj:i=j
   · subst hj
     rw [List.getElem?_set_self (List.getElem?_eq_some_iff.mp h).1] at ew
     cases ew
     refine ⟨a,refs ps,e,o.h,by unfold refs;rw [List.length_map,sizeLine_eq];have:=o.z;omega,?_,hin a o.m hna,o.c⟩
     have:∀ qs:List (Addr×List PyData),(∀ q∈qs,q∈ps)→Reps (ex.filter fun b=>decide (b∉ps.map (·.1))) H (qs.map fun p=>PyData.list p.2) (refs qs):=by
      intro qs
      induction qs with
      | nil=>exact fun _=>.nil
      | cons q qs ih=>
       intro hq
       have hm:=hq q List.mem_cons_self
       obtain ⟨vs,g1,g2,g3⟩:=(o.i q hm).h
       exact .cons (.list g1 (hn q.1 (List.mem_map.mpr ⟨q,hm,rfl⟩)) g2 (Reps.mono hsub g3)) (ih fun x hx=>hq x (List.mem_cons_of_mem _ hx))
     exact this ps fun _ h=>h
   · rw [List.getElem?_set_ne hj] at ew
     have q:=A.ev.sl j w ew
     have ne:∀ b∈ownAt [w] [(σ[j]?).join] 0,b∉ps.map (·.1):=fun b hb z=>hj (A.sep i j b (hL b z) (by rw [own_one ew];exact hb))
     cases w with
     | jnk=>trivial
     | jar=>exact q
     | tape=>exact q
     | d x=>obtain ⟨v,e,r⟩:=q;exact ⟨v,e,Rep.mono hsub r⟩
     | pin v x=>obtain ⟨e,r⟩:=q;exact ⟨e,Rep.mono hsub r⟩
     | own ys=>obtain ⟨b,ws,e,g1,g2,g3,g4,g5⟩:=q;exact ⟨b,ws,e,g1,g2,Reps.mono hsub g3,hin b g4 (ne b (by rw [e];exact List.mem_cons_self)),g5⟩
     | dct kvs=>obtain ⟨b,ws,e,g1,⟨g2,g3⟩,g4,g5⟩:=q;exact ⟨b,ws,e,g1,⟨g2,Reps.mono hsub g3⟩,hin b g4 (ne b (by rw [e];exact List.mem_cons_self)),g5⟩
     | own2 ks qs=>obtain ⟨b,e,q⟩:=q;exact ⟨b,e,q.h,q.z,q.k,q.nd,hin b q.m (ne b (by rw [e];exact List.mem_cons_self)),q.c,fun p hp=>let w:=q.i p hp;⟨hin p.1 w.m (ne p.1 (by rw [e];exact List.mem_cons_of_mem _ (List.mem_map.mpr ⟨p,hp,rfl⟩))),w.c,let ⟨vs,h1,h2,h3⟩:=w.h;⟨vs,h1,h2,Reps.mono hsub h3⟩⟩⟩
 · exact A.al0 b hb (A.new i b (hL b z))
theorem At.jnk (A:At C ex env σ H n) (i:Nat):At C ex (env.set i .jnk) σ H n:=by
 have oo:∀ j b,b∈ownAt (env.set i .jnk) σ j→b∈ownAt env σ j:=fun j b hb=>by
  by_cases hj:i=j
  · subst hj
    unfold ownAt at hb
    by_cases hl:i<env.length
    · rw [List.getElem?_set_self hl] at hb;cases hb
    · rw [List.getElem?_eq_none (by rw [List.length_set];omega)] at hb;cases hb
  · have:ownAt (env.set i .jnk) σ j=ownAt env σ j:=by unfold ownAt;rw [List.getElem?_set_ne hj]
    rw [this] at hb
    exact hb
 refine A.bind ⟨by rw [List.length_set];exact A.ev.len,fun j w e=>?_,A.ev.ch,A.ev.al,A.ev.inv⟩ oo
 by_cases hj:i=j
 · subst hj
   have hl:i<env.length:=by
    have:=(List.getElem?_eq_some_iff.mp e).1
    rw [List.length_set] at this;exact this
   rw [List.getElem?_set_self hl] at e
   cases e
   trivial
 · rw [List.getElem?_set_ne hj] at e
   exact A.ev.sl j w e
theorem At.fz {env':List Vl}(f:Fz env env'):∀ {ex:List Addr},At C ex env σ H n→∃ ex',At C ex' env' σ H n:=by
 induction f with
 | refl=>exact fun A=>⟨_,A⟩
 | fz i xs h t ih=>exact fun A=>let ⟨_,B⟩:=A.fz1 h;ih B
 | jnk i t ih=>exact fun A=>ih (A.jnk i)
 | fz2 i ps h t ih=>exact fun A=>let ⟨_,B⟩:=A.fz2 h;ih B
 | fzh i ps h t ih=>exact fun A=>let ⟨_,B⟩:=A.fzh h;ih B
end
section
variable {te ta:TE}{ge ga:GE}{gn:GN}{t u tb:TS}{gt gu gb:GS}{i j:Nat}{K:PySem.W.Frag}
noncomputable instance sv_next:SV tNext (fun G env n=>G.nx env n):=⟨fun {C G D} O {ex env σ H n} A h=>O.nx A h⟩
noncomputable instance sv_never:SV tNever (fun _ _ _=>False):=⟨fun {C G D} O {ex env σ H n} A h=>h⟩
noncomputable abbrev gSeq (t u:GS):GS:=fun G env n=>t { G with nx:=fun env1 n1=>∃ env2,Fz env1 env2∧u G env2 n1 } env n
noncomputable instance sv_seq [T:SV t gt] [U:SV u gu]:SV (tSeq t u) (gSeq gt gu):=⟨fun {C G D} O {ex env σ H n} A h=>by
 refine T.sv (C:=C) (G:={ G with nx:=fun env1 n1=>∃ env2,Fz env1 env2∧gu G env2 n1 }) (D:={ D with nx:=u D }) ⟨fun {ex1 env1 σ1 H1 n1} A1 h1=>?_,O.bk,O.ct,O.rt,O.rtn,O.xc,O.r2⟩ A h
 obtain ⟨env2,f,h2⟩:=h1
 obtain ⟨ex2,A2⟩:=A1.fz f
 exact U.sv O A2 h2⟩
noncomputable abbrev gSet (i:Nat) (g:GE):GS:=fun G env n=>g env n fun d n1=>G.nx (env.set i (.d d)) n1
noncomputable abbrev gSetN (i:Nat) (g:GN):GS:=fun G env n=>g env n fun ds n1=>G.nx (env.set i (.own ds)) n1
noncomputable instance sv_setN [E:NV te gn]:SV (tAsg te (gName i)) (gSetN i gn):=⟨fun {C G D} O {ex env σ H n} A h=>E.nv A.ev h fun ds n1 a vs H1 h1 s1 ha hl hz r=>O.nx (A.own s1 ha hl hz r) h1⟩
noncomputable instance (priority:=low) sv_set [E:EV true te ge]:SV (tAsg te (gName i)) (gSet i ge):=⟨fun {C G D} O {ex env σ H n} A h=>E.ev A.ev h fun d n1 v H1 h1 s1 r=>O.nx ((A.step s1).put r) h1⟩
noncomputable instance sv_setC {wi:TI}{k:Nat}{idx:List Nat}{g:TG}{tt:TT} [E:NV (tComp wi k idx g tt te) gn]:SV (tSetComp i wi k idx g tt te) (gSetN i gn):=⟨fun {C G D} O {ex env σ H n} A h=>
 show tComp wi k idx g tt te σ H (fun v H2=>D.nx (σ.set i (some v)) H2) from E.nv A.ev h fun ds n1 a vs H1 h1 s1 ha hl hz r=>O.nx (A.own s1 ha hl hz r) h1⟩
noncomputable abbrev gAsg (bd:GG) (g:GE):GS:=fun G env n=>g env n fun d n1=>bd d env fun env1=>G.nx env1 n1
noncomputable instance (priority:=low) sv_asg {g:TG}{bd:GG}{ks:List Nat} [E:EV true te ge] [B:GV g bd ks]:SV (tAsg te g) (gAsg bd ge):=⟨fun {C G D} O {ex env σ H n} A h=>E.ev A.ev h fun d n1 v H1 h1 s1 r=>
 B.gv (A.step s1).ev r h1 fun env' σ' p E' o _ _=>O.nx ((A.step s1).bind E' o) p⟩
noncomputable abbrev gRet (g:GE):GS:=fun G env n=>g env n fun d n1=>G.rt d n1
noncomputable abbrev gRetN (g:GN):GS:=fun G env n=>g env n fun ds n1=>G.rtn ds n1
noncomputable abbrev gRetV (i:Nat):GS:=fun G env n=>match env[i]? with
 | some (.d x)=>G.rt x n
 | some (.own xs)=>G.rtn xs n
 | _=>False
noncomputable instance (priority:=low) sv_ret [E:EV true te ge]:SV (tRet te) (gRet ge):=⟨fun {C G D} O {ex env σ H n} A h=>E.ev A.ev h fun d n1 v H1 h1 s1 r=>O.rt ⟨(A.step s1).kp,s1.2,Rep.mono A.ex0 r⟩ h1⟩
noncomputable instance sv_retN [E:NV te gn]:SV (tRet te) (gRetN gn):=⟨fun {C G D} O {ex env σ H n} A h=>E.nv A.ev h fun ds n1 a vs H1 h1 s1 ha hl hz r=>
 O.rtn ⟨(A.step s1).kp,s1.2,A.free ha,vs,hl,hz,Reps.mono (fun b hb=>(List.mem_cons.mp hb).elim (fun e=>by rw [e];exact List.mem_cons_self) fun h=>List.mem_cons_of_mem _ (A.ex0 b h)) r⟩ h1⟩
noncomputable instance (priority:=high) sv_retV:SV (tRet (tVar i)) (gRetV i):=⟨fun {C G D} O {ex env σ H n} A h=>by
 unfold gRetV at h
 split at h
 · rename_i x e
   obtain ⟨v,ev,r⟩:=A.ev.sl i _ e
   exact ⟨v,join_some ev,O.rt ⟨A.kp,A.ev.inv,Rep.mono A.ex0 r⟩ h⟩
 · rename_i xs e
   obtain ⟨a,vs,ev,h1,h2,h3,h4,h5⟩:=A.ev.sl i _ e
   have ha:a∈ownAt env σ i:=by unfold ownAt;rw [e,ev];exact List.mem_singleton.mpr rfl
   obtain ⟨ex',A'⟩:=A.fz1 e
   obtain ⟨v',ev',r'⟩:=A'.ev.sl i _ (List.getElem?_set_self (List.getElem?_eq_some_iff.mp e).1)
   rw [ev] at ev'
   cases ev'
   have:=A.new i a ha
   refine ⟨_,join_some ev,O.rtn ⟨A.kp,A.ev.inv,this,vs,h1,h2,Reps.mono (fun b hb=>?_) h3⟩ h⟩
   rcases List.mem_cons.mp hb with rfl | hb
   · exact h4
   · exact A.ex0 b hb
 · exact h.elim⟩
noncomputable abbrev gIfS (c:GT) (t u:GS):GS:=fun G env n=>c env n fun b n1=>if b=true then t G env n1 else u G env n1
noncomputable instance sv_if {c:TT}{gc:GT} [X:TV c gc] [T:SV t gt] [U:SV u gu]:SV (tIfS c t u) (gIfS gc gt gu):=⟨fun {C G D} O {ex env σ H n} A h=>X.tv A.ev h fun b n1 H1 h1 s1=>by
 cases b with
 | true=>exact T.sv O (A.step s1) h1
 | false=>exact U.sv O (A.step s1) h1⟩
noncomputable abbrev gFor (gi:GN) (bd:GG) (gb:GS):GS:=fun G env n=>gi env n fun items n1=>∃ W:Nat→List Vl→Nat→Prop,W 0 env n1 ∧
 (∀ i x env n,items[i]? = some x→W i env n→bd x env fun env1=>gb { G with nx:=W (i+1),ct:=W (i+1),bk:=G.nx } env1 n)∧∀ env n,W items.length env n→G.nx env n
noncomputable instance sv_for {wi:TI}{gi:GN}{g:TG}{bd:GG}{ks:List Nat} [I:IV wi gi] [B:GV g bd ks] [T:SV tb gb]:SV (tFor wi g tb) (gFor gi bd gb):=⟨fun {C G D} O {ex env σ H n} A h=>I.iv A.ev h fun items n1 J hd H1 h1 s1 hr hit=>by
 obtain ⟨W,w0,wt,wd⟩:=h1
 have A1:=A.step s1
 have dropd:∀ {ex2 env2 σ2 H2 n2},At { C with held:=hd++C.held } ex2 env2 σ2 H2 n2→At C ex2 env2 σ2 H2 n2:=fun {_ _ _ _ _} B=>⟨B.ev,B.ex0,B.al0,B.sep,B.new,B.kp,fun h hh=>B.held h (List.mem_append_right _ hh)⟩
 refine ⟨fun i m σ2 H2=>i≤items.length∧m=items.length-i∧∃ ex2 env2 n2,At { C with held:=hd++C.held } ex2 env2 σ2 H2 n2∧W i env2 n2,⟨_,Nat.zero_le _,rfl,ex,env,n1,⟨A1.ev,A1.ex0,A1.al0,A1.sep,A1.new,A1.kp,fun h hh=>(List.mem_append.mp hh).elim (hr h) (A1.held h)⟩,w0⟩,?_⟩
 rintro i m σ2 H2 ⟨hi,rfl,ex2,env2,n2,A2,w2⟩
 have IT:=hit ex2 H2 A2.ev.al fun h hh=>A2.held h (List.mem_append_left _ hh)
 rcases Nat.lt_or_ge i items.length with hlt | hge
 · refine .inr ⟨(IT.2 i items[i] (List.getElem?_eq_getElem hlt)).1,fun σ' H'=>∃ ex3 env3 n3,At { C with held:=hd++C.held } ex3 env3 σ' H' n3∧W (i+1) env3 n3,fun σ' H' h=>⟨items.length-(i+1),by omega,hlt,rfl,h⟩,fun x H3 y=>?_⟩
   obtain ⟨kp3,rx⟩:=(IT.2 i items[i] (List.getElem?_eq_getElem hlt)).2 x H3 y
   have A3:=A2.step (Step.new A2.ev.inv kp3)
   refine B.gv A3.ev rx (wt i _ env2 n2 (List.getElem?_eq_getElem hlt) w2) fun env' σ' p E' o _ _=>?_
   refine T.sv (C:={ C with held:=hd++C.held }) (G:={ G with nx:=W (i+1),ct:=W (i+1),bk:=G.nx }) (D:={ D with nx:=fun σ' H'=>∃ ex3 env3 n3,At { C with held:=hd++C.held } ex3 env3 σ' H' n3∧W (i+1) env3 n3,ct:=fun σ' H'=>∃ ex3 env3 n3,At { C with held:=hd++C.held } ex3 env3 σ' H' n3∧W (i+1) env3 n3,bk:=D.nx }) ⟨fun A4 w4=>⟨_,_,_,A4,w4⟩,fun A4 q4=>O.nx (dropd A4) q4,fun A4 w4=>⟨_,_,_,A4,w4⟩,fun R q=>O.rt ⟨R.kp,R.inv,R.r⟩ q,fun R q=>O.rtn ⟨R.kp,R.inv,R.fr,R.r⟩ q,O.xc,fun R q=>O.r2 ⟨R.kp,R.inv,R.fr,R.frs,R.o⟩ q⟩ (A3.bind E' o) p
 · have e:i=items.length:=by omega
   subst e
   exact .inl ⟨IT.1,O.nx (dropd A2) (wd _ _ w2)⟩⟩
noncomputable abbrev gWhile (c:GT) (gb:GS):GS:=fun G env n=>∃ W:Nat→List Vl→Nat→Prop,(∃ m,W m env n)∧∀ m env n,W m env n→c env n fun b n1=>
 if b=true then gb { G with nx:=fun env1 n2=>∃ m',m'<m∧W m' env1 n2,ct:=fun env1 n2=>∃ m',m'<m∧W m' env1 n2,bk:=G.nx } env n1 else G.nx env n1
noncomputable instance sv_while {c:TT}{gc:GT} [X:TV c gc] [T:SV tb gb]:SV (tWhile c tb) (gWhile gc gb):=⟨fun {C G D} O {ex env σ H n} A h=>by
 obtain ⟨W,⟨m0,w0⟩,wt⟩:=h
 refine ⟨fun m σ2 H2=>∃ ex2 env2 n2,At C ex2 env2 σ2 H2 n2∧W m env2 n2,⟨m0,ex,env,n,A,w0⟩,?_⟩
 rintro m σ2 H2 ⟨ex2,env2,n2,A2,w2⟩
 refine X.tv A2.ev (wt m env2 n2 w2) fun b n3 H3 h3 s3=>?_
 cases b with
 | true=>
  refine iteT ⟨fun σ' H'=>∃ m',m'<m∧∃ ex2 env2 n2,At C ex2 env2 σ' H' n2∧W m' env2 n2,fun σ' H' h=>h,?_⟩
  exact T.sv (C:=C) (G:={ G with nx:=fun env1 n2=>∃ m',m'<m∧W m' env1 n2,ct:=fun env1 n2=>∃ m',m'<m∧W m' env1 n2,bk:=G.nx }) (D:={ D with nx:=fun σ' H'=>∃ m',m'<m∧∃ ex2 env2 n2,At C ex2 env2 σ' H' n2∧W m' env2 n2,ct:=fun σ' H'=>∃ m',m'<m∧∃ ex2 env2 n2,At C ex2 env2 σ' H' n2∧W m' env2 n2,bk:=D.nx }) ⟨fun A4 ⟨m',hm,w4⟩=>⟨m',hm,_,_,_,A4,w4⟩,fun A4 q4=>O.nx A4 q4,fun A4 ⟨m',hm,w4⟩=>⟨m',hm,_,_,_,A4,w4⟩,O.rt,O.rtn,O.xc,O.r2⟩ (A2.step s3) h3
 | false=>exact iteF (O.nx (A2.step s3) h3)⟩
theorem At.at_own {C:Cv}{ex:List Addr}{env:List Vl}{σ:L2.St}{H:Hp}{n:Nat}(A:At C ex env σ H n) {i:Nat}{xs:List PyData}(e:env[i]? = some (.own xs)):∃ a vs,(σ[i]?).join=some (.ref a)∧H a=some (.lst vs)∧vs.length≤sizeLine∧Reps ex H xs vs:=by
 obtain ⟨a,vs,ev,h1,h2,h3,h4,h5⟩:=A.ev.sl i _ e
 exact ⟨a,vs,ev,h1,h2,h3⟩
noncomputable abbrev gApp (i:Nat) (g:GE):GS:=fun G env n=>match env[i]? with
 | some (.own xs)=>g env n fun d n1=>xs.length<sizeLine∧G.nx (env.set i (.own (xs++[d]))) n1
 | _=>False
theorem own_step {C:Cv}{ex:List Addr}{env:List Vl}{σ:L2.St}{H H1:Hp}{n n1:Nat}{i:Nat}{xs:List PyData}{a:Addr}{vs:List V}(A:At C ex env σ H n) (e:env[i]? = some (.own xs)) (ev:(σ[i]?).join=some (.ref a)) (h1:H a=some (.lst vs)) (r:Reps ex H xs vs) (s:Step C.S n1 H H1):H1 a=some (.lst vs)∧Reps ex H1 xs vs:=by
 have ha:a∈ownAt env σ i:=by unfold ownAt;rw [e,ev];exact List.mem_singleton.mpr rfl
 exact ⟨s.1 _ _ h1 (own_sl A.ev ha).2.2,A.ev.reps s r⟩
noncomputable instance sv_app [E:EV true te ge]:SV (tDrop (tBM K "list" rAppend (tVar i) (tCons te tNil))) (gApp i ge):=⟨fun {C G D} O {ex env σ H n} A h=>by
 unfold gApp at h
 split at h
 · rename_i xs e
   obtain ⟨a,vs,ev,h1,h2,h3⟩:=A.at_own e
   refine ⟨_,join_some ev,.inl ⟨rfl,_,SqL.of h1⟩,E.ev A.ev h fun d n1 v H1 hd s1 r=>?_⟩
   obtain ⟨g1,g2⟩:=own_step A e ev h1 h3 s1
   have l:=g2.length
   exact ⟨a,vs,v,rfl,rfl,g1,by rw [← l];exact hd.1,O.nx ((A.step s1).re e ev (Reps.append g2 (.cons r .nil)) (by rw [List.length_append,List.length_singleton,← l];exact hd.1)) hd.2⟩
 · exact h.elim⟩
theorem len_erase (vs:List V) (k:Nat):(vs.eraseIdx k).length≤vs.length:=by
 rw [List.length_eraseIdx];split<;>omega
theorem reps_set {ex:List Addr}{H:Hp}{d:PyData}{v:V}(r:Rep ex H d v):∀ {ds:List PyData}{vs:List V}(k:Nat),Reps ex H ds vs→Reps ex H (ds.set k d) (vs.set k v)
 | _,_,_,.nil=>.nil
 | _,_,0,.cons _ t=>.cons r t
 | _,_,k+1,.cons q t=>.cons q (reps_set r k t)
noncomputable abbrev gSetI (i:Nat) (gx ge:GE):GS:=fun G env n=>ge env n fun d n1=>match env[i]? with
 | some (.own xs)=>gx env n1 fun k n2=>(match k with
  | .int z=>∃ m,ixN xs.length z=some m∧G.nx (env.set i (.own (xs.set m d))) n2
  | _=>False)
 | _=>False
noncomputable instance sv_setI {tx:TE}{gx:GE} [E:EV true te ge] [X:EV true tx gx]:SV (tAsg te (gSub (tVar i) tx rSetL)) (gSetI i gx ge):=⟨fun {C G D} O {ex env σ H n} A h=>by
 refine E.ev A.ev h fun d n1 v H1 hd s1 r=>?_
 have A1:=A.step s1
 split at hd
 · rename_i xs e
   obtain ⟨a,vs,ev,h1,h2,h3⟩:=A1.at_own e
   refine ⟨_,join_some ev,X.ev A1.ev hd fun k n2 kv H2 hk s2 rk=>?_⟩
   obtain ⟨g1,g2⟩:=own_step A1 e ev h1 h3 s2
   have l:=g2.length
   cases rk with
   | int z=>
    obtain ⟨m,hm,q⟩:=hk
    exact ⟨a,vs,z,m,rfl,rfl,g1,by rw [← l];exact hm,O.nx ((A1.step s2).re e ev (reps_set (A1.ev.rep s2 r) m g2) (by rw [List.length_set];exact h2)) q⟩
   | none=>exact hk.elim
   | bool=>exact hk.elim
   | str=>exact hk.elim
   | tuple=>exact hk.elim
   | list=>exact hk.elim
 · exact hd.elim⟩
noncomputable abbrev gAugI (i:Nat) (gx ge:GE) (f:Int→Int→Int):GS:=fun G env n=>match env[i]? with
 | some (.own xs)=>gx env n fun k n1=>(match k with
  | .int z=>∃ x:Int,0≤z∧xs[z.toNat]? = some (.int x)∧ge env n1 fun d n2=>(match d with
   | .int y=>G.nx (env.set i (.own (xs.set z.toNat (.int (f x y))))) n2
   | _=>False)
  | _=>False)
 | _=>False
noncomputable instance sv_augI {tx:TE}{gx:GE}{f:Int→Int→Int} [E:EV true te ge] [X:EV true tx gx]:SV (tAugS (tVar i) tx te (rGetL K) (ipI f) rSetL) (gAugI i gx ge f):=⟨fun {C G D} O {ex env σ H n} A h=>by
 unfold gAugI at h
 split at h
 · rename_i xs e
   obtain ⟨a,vs,ev,h1,h2,h3⟩:=A.at_own e
   refine ⟨_,join_some ev,X.ev A.ev h fun k n1 kv H1 hk s1 rk=>?_⟩
   obtain ⟨g1,g2⟩:=own_step A e ev h1 h3 s1
   have A1:=A.step s1
   cases rk with
   | int z=>
    obtain ⟨x,hz,hx,q⟩:=hk
    obtain ⟨u,hu,ru⟩:=g2.get hx
    cases ru
    refine ⟨a,vs,z,_,rfl,rfl,hz,SqL.of g1,hu,E.ev A1.ev q fun d n2 v H2 hd s2 r=>?_⟩
    obtain ⟨f1,f2⟩:=own_step A1 e ev g1 g2 s2
    have l:=f2.length
    have hlt:=(List.getElem?_eq_some_iff.mp hu).1
    cases r with
    | int y=>exact ⟨x,y,rfl,rfl,a,vs,z,z.toNat,rfl,rfl,f1,ixN_of hz (by omega),O.nx ((A1.step s2).re e ev (reps_set (.int _) _ f2) (by rw [List.length_set];exact h2)) hd⟩
    | none=>exact hd.elim
    | bool=>exact hd.elim
    | str=>exact hd.elim
    | tuple=>exact hd.elim
    | list=>exact hd.elim
   | none=>exact hk.elim
   | bool=>exact hk.elim
   | str=>exact hk.elim
   | tuple=>exact hk.elim
   | list=>exact hk.elim
 · exact h.elim⟩
end
theorem ArgsR.len {S:Src}{ex:List Addr}{H:Hp}:∀ {as:List Vl}{vs:List V},ArgsR S ex H as vs→as.length=vs.length
 | [],[],_=>rfl
 | _::_,_::_,h=>by rw [List.length_cons,List.length_cons,ArgsR.len h.2]
 | [],_::_,h=>h.elim
 | _::_,[],h=>h.elim
theorem ArgsR.get {S:Src}{ex:List Addr}{H:Hp}:∀ {as:List Vl}{vs:List V}{i:Nat}{w:Vl},ArgsR S ex H as vs→as[i]? = some w→∃ v,vs[i]? = some v∧SlR S ex H w (some v)
 | [],[],_,_,_,e=>by simp at e
 | _::_,v::_,0,_,h,e=>by simp at e;subst e;exact ⟨v,rfl,h.1⟩
 | _::_,_::_,i+1,_,h,e=>by simpa using ArgsR.get (i:=i) h.2 (by simpa using e)
 | [],_::_,_,_,h,_=>h.elim
 | _::_,[],_,_,h,_=>h.elim
noncomputable def plainA:Vl→Bool
 | .own _ | .dct _ | .own2 _ _=>false
 | _=>true
noncomputable def envOf (N:List Str) (as:List Vl):List Vl:=as++List.replicate (N.length-as.length) .jnk
theorem at_start {S:Src}{ex:List Addr}{H:Hp}{as:List Vl}{vs:List V}{n:Nat}{N:List Str}(r:ArgsR S ex H as vs) (hp:as.all plainA=true) (hc:∀ a∈S.ch,a∈ex) (al:Alc ex H) (iv:S.inv n H):At ⟨S,ex,H,[]⟩ ex (envOf N as) (start N vs) H n:=by
 have l:=r.len
 have no:∀ i,ownAt (envOf N as) (start N vs) i=[]:=fun i=>by
  unfold ownAt envOf
  cases e:(as++List.replicate (N.length-as.length) Vl.jnk)[i]? with
  | none=>rfl
  | some w=>
   have:w∈as++List.replicate (N.length-as.length) Vl.jnk:=List.mem_of_getElem? e
   have hw:plainA w=true:=by
    rcases List.mem_append.mp this with h | h
    · exact List.all_eq_true.mp hp w h
    · rw [(List.mem_replicate.mp h).2];rfl
   cases w with
   | own _=>cases hw
   | dct _=>cases hw
   | own2 _ _=>cases hw
   | _=>rfl
 refine ⟨⟨?_,fun i w e=>?_,hc,al,iv⟩,fun a h=>h,al,fun i j a h=>?_,fun i a h=>?_,.refl,fun h hh=>by cases hh⟩
 · unfold envOf L2.start
   rw [List.length_append,List.length_append,List.length_replicate,List.length_replicate,List.length_map,l];exact Nat.le_refl _
 · unfold envOf at e
   by_cases hi:i<as.length
   · rw [List.getElem?_append_left hi] at e
     obtain ⟨v,hv,sr⟩:=r.get e
     have:(start N vs)[i]? = some (some v):=by
      unfold L2.start
      rw [List.getElem?_append_left (by rw [List.length_map,← l];exact hi),List.getElem?_map,hv];rfl
     rw [this]
     exact sr
   · rw [List.getElem?_append_right (Nat.le_of_not_lt hi)] at e
     have:w = .jnk:=(List.mem_replicate.mp (List.mem_of_getElem? e)).2
     subst this
     trivial
 · rw [no] at h;cases h
 · rw [no] at h;cases h
noncomputable def endsV (P:PyData→Nat→Prop):VEnds:={ nx:=fun _ n=>P .none n,rt:=P,rtn:=fun ds n=>P (.list ds) n,rt2:=fun xss n=>P (.list (xss.map .list)) n }
noncomputable def endsN (P:List PyData→Nat→Prop):VEnds:={ nx:=fun _ _=>False,rt:=fun _ _=>False,rtn:=P }
theorem ret2_rep {C:Cv}{ps:List (Addr×List PyData)}{n:Nat}{a:Addr}{H:Hp}(al:Alc C.ex0 C.H0) (R:Ret2 C ps n a H):Rep C.ex0 H (.list ((ps.map (·.2)).map .list)) (.ref a):=by
 refine .list R.o.h (al.nm R.fr) (by unfold refs;rw [List.length_map,sizeLine_eq];have:=R.o.z;omega) ?_
 have:∀ qs:List (Addr×List PyData),(∀ q∈qs,q∈ps)→Reps C.ex0 H ((qs.map (·.2)).map .list) (refs qs):=by
  intro qs
  induction qs with
  | nil=>exact fun _=>.nil
  | cons q qs ih=>
   intro hq
   have hm:=hq q List.mem_cons_self
   obtain ⟨vs,g1,g2,g3⟩:=(R.o.i q hm).h
   exact .cons (.list g1 (al.nm (R.frs q hm)) g2 (Reps.mono (fun b hb=>List.mem_append_right _ hb) g3)) (ih fun x hx=>hq x (List.mem_cons_of_mem _ hx))
 exact this ps fun _ h=>h
theorem lift_body {sp:GSp}{gs:GS}{ts:TS}{N:List Str}{vs:List V}{H:Hp}{Q:VK}{E:XK} [T:SV ts gs] (h:liftV sp vs H Q E) (hs:∀ as n P,sp as n P→as.all plainA=true∧gs (endsV P) (envOf N as) n):ts { nx:=fun _ H'=>Q .non H',rt:=Q } (start N vs) H:=by
 obtain ⟨S,ex,as,n,P,r,hc,al,iv,p,q⟩:=h
 obtain ⟨hp,g⟩:=hs as n P p
 refine T.sv (C:=⟨S,ex,H,[]⟩) (G:=endsV P) ⟨fun {ex' env σ H' n'} A h=>?_,fun _ h=>h.elim,fun _ h=>h.elim,fun R h=>?_,fun {ds n' a H'} R h=>?_,fun _ _ h=>h.elim,fun {ps n' a H'} R h=>?_⟩ (at_start r hp hc al iv) g
 · exact q _ _ _ _ h ⟨A.kp,A.ev.inv⟩ .none
 · exact q _ _ _ _ h ⟨R.kp,R.inv⟩ R.r
 · obtain ⟨ws,h1,h2,h3⟩:=R.r
   exact q _ _ _ _ h ⟨R.kp,R.inv⟩ (.list h1 (al.nm R.fr) h2 (Reps.sub h3))
 · exact q _ _ _ _ h ⟨R.kp,R.inv⟩ (ret2_rep al R)
theorem lift_bodyN {sp:GSn}{gs:GS}{ts:TS}{N:List Str}{vs:List V}{H:Hp}{Q:VK}{E:XK} [T:SV ts gs] (h:liftN sp vs H Q E) (hs:∀ as n P,sp as n P→as.all plainA=true∧gs (endsN P) (envOf N as) n):ts { nx:=fun _ H'=>Q .non H',rt:=Q } (start N vs) H:=by
 obtain ⟨S,ex,as,n,P,r,hc,al,iv,p,q⟩:=h
 obtain ⟨hp,g⟩:=hs as n P p
 refine T.sv (C:=⟨S,ex,H,[]⟩) (G:=endsN P) ⟨fun _ h=>h.elim,fun _ h=>h.elim,fun _ h=>h.elim,fun _ h=>h.elim,fun {ds n' a H'} R h=>?_,fun _ _ h=>h.elim,fun _ h=>h.elim⟩ (at_start r hp hc al iv) g
 obtain ⟨ws,h1,h2,h3⟩:=R.r
 exact q _ _ _ _ _ h ⟨R.kp,R.inv⟩ R.fr h1 h2 h3
theorem lift_len {sp:GSp}{k:Nat}(h:∀ as n P,sp as n P→as.length=k):∀ vs H Q E,liftV sp vs H Q E→vs.length=k:=fun vs H Q E ⟨S,ex,as,n,P,r,_,_,_,p,_⟩=>by rw [← r.len];exact h _ _ _ p
theorem lift_lenN {sp:GSn}{k:Nat}(h:∀ as n P,sp as n P→as.length=k):∀ vs H Q E,liftN sp vs H Q E→vs.length=k:=fun vs H Q E ⟨S,ex,as,n,P,r,_,_,_,p,_⟩=>by rw [← r.len];exact h _ _ _ p
section
variable {turn:PyData→Nat→(Option PyData→Nat→Prop)→Prop}{items:List PyData}{n:Nat}{Q:List PyData→Nat→Prop}
theorem cmpW_map (f:PyData→PyData) (h:∀ x∈items,∀ n K,K (some (f x)) n→turn x n K) (q:Q (items.map f) n):cmpW turn items n Q:=by
 induction items generalizing n Q with
 | nil=>exact q
 | cons x xs ih=>exact h x List.mem_cons_self _ _ (ih (fun y hy=>h y (List.mem_cons_of_mem _ hy)) q)
theorem cmpW_inv (R:PyData→Prop) (I:Nat→Prop) (h:∀ x∈items,∀ n K,I n→(∀ y n',R y→I n'→K (some y) n')→turn x n K) (h0:I n) (q:∀ ys n',ys.length=items.length→(∀ y∈ys,R y)→I n'→Q ys n'):cmpW turn items n Q:=by
 induction items generalizing n Q with
 | nil=>exact q [] n rfl (fun y hy=>by cases hy) h0
 | cons x xs ih=>
  refine h x List.mem_cons_self _ _ h0 fun y n' hy hn=>ih (fun z hz=>h z (List.mem_cons_of_mem _ hz)) hn fun ys n2 hl hr hn2=>q _ _ (by simp [hl]) (fun z hz=>?_) hn2
  rcases List.mem_cons.mp hz with rfl | hz
  · exact hy
  · exact hr z hz
end
theorem Fz.eq {a b:List Vl}(h:a=b):Fz a b:=h ▸ .refl
noncomputable abbrev lstI (ns:List Int):PyData:=.list (ns.map .int)
theorem args2 {S:Src}{ex:List Addr}{H:Hp}{a b:Vl}{vs:List V}(h:ArgsR S ex H [a,b] vs):∃ u v,vs=[u,v]∧SlR S ex H a (some u)∧SlR S ex H b (some v):=by
 match vs,h with
 | [u,v],h=>exact ⟨u,v,rfl,h.1,h.2.1⟩
 | [],h=>exact h.elim
 | [_],h=>exact h.2.elim
 | _::_::_::_,h=>exact h.2.2.elim
noncomputable def gsPick:GSp:=fun as n Q=>∃ many:Int,as=[.jar,.d (.int many)]∧0<many∧many<2^9000∧∀ r:Int,0≤r→r<many→Q (.int r) n
noncomputable instance scal_pick:Scal gsPick:=⟨fun {as n P} h=>by
 obtain ⟨many,e,h0,h1,q⟩:=h
 exact ⟨many,e,h0,h1,fun r r0 r1=>⟨rfl,q r r0 r1⟩⟩⟩
theorem imp_pick:∀ (vs:List V) (H:Hp) (Q:VK) (E:XK),liftV gsPick vs H Q E→spPickE vs H Q E:=fun vs H Q E h=>by
 obtain ⟨S,ex,as,n,P,r,hc,al,iv,⟨many,rfl,h0,h1,q⟩,k⟩:=h
 obtain ⟨u,v,rfl,⟨p,c,rfl,eu⟩,⟨w,ew,rw'⟩⟩:=args2 r
 cases eu
 cases ew
 cases rw'
 obtain ⟨e,J,hn⟩:=iv
 exact ⟨p,c,many,e,rfl,J,h0,h1,fun r H' r0 r1 J' kp=>k _ _ _ _ (q r r0 r1) ⟨kp,⟨e,J',hn⟩⟩ (.int r)⟩
noncomputable def gsGain:GSp:=fun as n Q=>as=[.jar]∧∀ r:Int,-99≤r→r≤99→Q (.int r) n
noncomputable instance scal_gain:Scal gsGain:=⟨fun {as n P} h=>⟨h.1,fun r r0 r1=>⟨rfl,h.2 r r0 r1⟩⟩⟩
noncomputable def gsBook:GSp:=fun as n Q=>∃ mr mw:Int,as=[.jar,.d (.int mr),.d (.int mw)]∧(1≤mr∧mr≤12)∧(0≤mw∧mw≤60)∧∀ (R U:Int) (ws:List Way),BookOk R U ws→(ws.length:Int)≤mw→Q (bookPD R U ws) n
theorem ints_map {ys:List PyData}{A:Int→Prop}(h:∀ y∈ys,∃ i:Int,y = .int i∧A i):∃ ns:List Int,ys=ns.map .int∧∀ i∈ns,A i:=by
 induction ys with
 | nil=>exact ⟨[],rfl,fun i hi=>by cases hi⟩
 | cons y ys ih=>
  obtain ⟨i,rfl,hi⟩:=h y List.mem_cons_self
  obtain ⟨ns,e,hn⟩:=ih fun z hz=>h z (List.mem_cons_of_mem _ hz)
  refine ⟨i::ns,by rw [e];rfl,fun j hj=>?_⟩
  rcases List.mem_cons.mp hj with rfl | hj
  · exact hi
  · exact hn j hj
theorem at_ok {α:Type}{xs:List α}{i:Int}(h0:0≤i) (h1:i<xs.length):∃ d,atI xs i=some d∧d∈xs:=by
 have hk:i.toNat<xs.length:=by omega
 refine ⟨xs[i.toNat],?_,List.getElem_mem hk⟩
 unfold atI
 rw [ixN_of h0 (by omega)]
 exact List.getElem?_eq_getElem hk
theorem at_getD {α:Type}{xs:List α}{i:Int}{d:α}(h0:0≤i) (h:xs[i.toNat]? = some d):atI xs i=some d:=by
 have:=(List.getElem?_eq_some_iff.mp h).1
 unfold atI
 rw [ixN_of h0 (by omega)]
 exact h
theorem rep_fresh {ex:List Addr}{H H':Hp}{l:Addr}{ns:List Int}(al:Alc ex H) (hl:H l=none) (h:H' l=some (.lst (ns.map V.int))) (z:ns.length≤1000000):Rep ex H' (lstI ns) (.ref l):=by
 have hs:sizeLine=16777216:=sizeLine_eq
 exact .list h (al.nm hl) (by rw [List.length_map];omega) (Reps.ints ns)
noncomputable def gsFrom:GSn:=fun as n Q=>∃ (R U:Int) (ws:List Way) (room:Int),as=[.d (bookPD R U ws),.d (.int room)]∧ws.length≤60∧Q ((fromI ws room).map .int) n
theorem fromI_lenV (ws:List Way) (room:Int):(fromI ws room).length≤ws.length:=by
 unfold fromI
 rw [List.length_map]
 exact Nat.le_trans (List.length_filter_le _ _) (by rw [List.length_range];exact Nat.le_refl _)
theorem imp_from:∀ (vs:List V) (H:Hp) (Q:VK) (E:XK),liftN gsFrom vs H Q E→spFrom vs H Q E:=fun vs H Q E h=>by
 obtain ⟨S,ex,as,n,P,r,hc,al,iv,⟨R,U,ws,room,rfl,hz,q⟩,k⟩:=h
 obtain ⟨u,v,rfl,⟨w,ew,rb⟩,⟨w',ew',rr⟩⟩:=args2 r
 cases ew
 cases ew'
 cases rr
 have hs:sizeLine=16777216:=sizeLine_eq
 have:=fromI_lenV ws room
 exact ⟨ex,R,U,ws,_,room,rfl,rb,fun l H' kp hl hl'=>k _ _ _ _ _ q (Step.new iv kp) hl hl' (by rw [List.length_map];omega) (Reps.ints _)⟩
noncomputable def gsBack:GSp:=fun as n Q=>∃ (R U:Int) (ws:List Way) (first last:Int),as=[.d (bookPD R U ws),.d (.int first),.d (.int last)]∧BookOk R U ws∧(0≤first∧first<R)∧Q .none n∧∀ bs:List Int,Pth ws first bs last→bs.length≤12→Q (lstI bs) n
theorem args3 {S:Src}{ex:List Addr}{H:Hp}{a b c:Vl}{vs:List V}(h:ArgsR S ex H [a,b,c] vs):∃ u v w,vs=[u,v,w]∧SlR S ex H a (some u)∧SlR S ex H b (some v)∧SlR S ex H c (some w):=by
 match vs,h with
 | [u,v,w],h=>exact ⟨u,v,w,rfl,h.1,h.2.1,h.2.2.1⟩
 | [],h=>exact h.elim
 | [_],h=>exact h.2.elim
 | [_,_],h=>exact h.2.2.elim
 | _::_::_::_::_,h=>exact h.2.2.2.elim
theorem imp_back:∀ (vs:List V) (H:Hp) (Q:VK) (E:XK),liftV gsBack vs H Q E→spBack vs H Q E:=fun vs H Q E h=>by
 obtain ⟨S,ex,as,n,P,r,hc,al,iv,⟨R,U,ws,first,last,rfl,ok,hf,q0,q1⟩,k⟩:=h
 obtain ⟨u,v,w,rfl,⟨u',eu,rb⟩,⟨v',ev,rv⟩,⟨w',ew,rw'⟩⟩:=args3 r
 cases eu
 cases ev
 cases ew
 cases rv
 cases rw'
 exact ⟨ex,R,U,ws,_,first,last,rfl,rb,ok,hf,fun H' kp=>k _ _ _ _ q0 (Step.new iv kp) .none,fun lb bs H' kp hl hl' hp hz=>k _ _ _ _ (q1 bs hp hz) (Step.new iv kp) (rep_fresh al hl hl' (by omega))⟩
class SQ (te:TE) (g:outParam GN):Prop where
 sq:∀ {S:Src} {ex:List Addr} {env:List Vl} {σ:L2.St} {H:Hp} {n:Nat} {Q:VK} {P:List PyData→Nat→Prop},Ev S ex env σ H n→g env n P→(∀ ds n' a vs H',P ds n'→Step S n' H H'→a∉S.ch→H' a=some (.lst vs)→vs.length≤sizeLine→Reps ex H' ds vs→Q (.ref a) H')→te σ H Q
noncomputable abbrev gSq (i:Nat):GN:=fun env n Q=>match env[i]? with
 | some (.own xs)=>Q xs n
 | some (.d (.list xs))=>Q xs n
 | _=>False
noncomputable instance (priority:=high) sq_var {i:Nat}:SQ (tVar i) (gSq i):=⟨fun {S ex env σ H n Q P} E h k=>by
 unfold gSq at h
 split at h
 · rename_i xs e
   obtain ⟨a,vs,ev,h1,h2,h3,h4,h5⟩:=E.sl i _ e
   exact ⟨_,join_some ev,k _ _ _ _ _ h (.refl E.inv) h5 h1 h2 h3⟩
 · rename_i xs e
   obtain ⟨v,ev,r⟩:=E.sl i _ e
   cases r with
   | list e1 m z rs=>exact ⟨_,join_some ev,k _ _ _ _ _ h (.refl E.inv) (fun z=>m (E.ch _ z)) e1 z rs⟩
 · exact h.elim⟩
noncomputable instance sq_nv {te:TE}{g:GN} [A:NV te g]:SQ te g:=⟨fun {S ex env σ H n Q P} E h k=>A.nv E h fun ds n1 a vs H1 h1 s1 ha hl hz r=>k _ _ _ _ _ h1 s1 (fun z=>S.dom E.inv a z ha) hl hz (Reps.sub r)⟩
noncomputable abbrev gCatS (ga gb:GN):GN:=fun env n Q=>ga env n fun xs n1=>gb env n1 fun ys n2=>xs.length+ys.length≤sizeLine∧Q (xs++ys) n2
noncomputable instance (priority:=high) nv_catS {ta tb:TE}{ga gb:GN} [A:SQ ta ga] [B:SQ tb gb]:NV (tOp rCat ta tb) (gCatS ga gb):=⟨fun {S ex env σ H n Q P} E h k=>
 A.sq E h fun xs n1 a vs H1 h1 s1 na ha hz r1=>B.sq (E.step s1) h1 fun ys n2 b us H2 h2 s2 nb hb hz2 r2=>by
  have r1':=(E.step s1).reps s2 r1
  have l1:=r1'.length
  have l2:=r2.length
  refine ⟨a,b,vs,us,rfl,rfl,s2.1 _ _ ha na,hb,by rw [← l1,← l2];exact h2.1,fun p hp=>?_⟩
  obtain ⟨c1,c2,c3⟩:=nv_close E (s1.trans s2) hp (Reps.append r1' r2)
  exact k _ _ _ _ _ h2.2 c1 c2 upd_same (by rw [List.length_append,← l1,← l2];exact h2.1) c3⟩
noncomputable abbrev gSlS (g:GN) (gl gh:List Vl→Nat→(Option Int→Nat→Prop)→Prop):GN:=fun env n Q=>g env n fun xs n1=>gl env n1 fun lo n2=>gh env n2 fun hi n3=>Q (cutD xs lo hi) n3
noncomputable instance (priority:=high) nv_slS {K:PySem.W.Frag}{te:TE}{g:GN}{tl th:TO}{gl gh:List Vl→Nat→(Option Int→Nat→Prop)→Prop} [A:SQ te g] [B:OPV tl gl] [C:OPV th gh]:NV (tSl (rSlL K) te tl th) (gSlS g gl gh):=⟨fun {S ex env σ H n Q P} E h k=>
 A.sq E h fun xs n1 a vs H1 h1 s1 na ha hz r1=>B.op (E.step s1) h1 fun lo n2 H2 h2 s2=>C.op (E.step (s1.trans s2)) h2 fun hi n3 H3 h3 s3=>by
  have r3:=(E.step s1).reps (s2.trans s3) r1
  refine ⟨a,vs,rfl,SqL.of ((s2.trans s3).1 _ _ ha na),fun p hp=>?_⟩
  obtain ⟨c1,c2,c3⟩:=nv_close E ((s1.trans s2).trans s3) hp (reps_cut r3 lo hi)
  exact k _ _ _ _ _ h3 c1 c2 upd_same (Nat.le_trans (cutV_length _ _ _) hz) c3⟩
section
variable {X:Cx}
end
section
variable {K:PySem.W.Frag}{H:Hp}{ex:List Addr}
end
structure Fa where
 len:Int
 a:Int
 b:Int
 g:Nat→Int
 d:Nat→Int
noncomputable def Fa.then (x y:Fa):Fa:=⟨x.len+y.len,x.a,y.b,fun i=>x.g i+y.g i,fun i=>max (x.d i) (y.d i-x.g i)⟩
noncomputable def Fa.pw (f:Fa) (n:Int):Fa:=⟨n*f.len,f.a,f.b,fun i=>n*f.g i,fun i=>f.d i-(n-1)*min (f.g i) 0⟩
noncomputable def faWay (w:Way):Fa:=⟨1,w.a,w.b,fun i=>w.g.getD i 0,fun i=>max 0 (-(w.g.getD i 0))⟩
noncomputable def rowFrom (f:Fa):List Fa→Fa
 | []=>f
 | x::xs=>rowFrom (f.then x) xs
noncomputable def rowF:List Fa→Fa
 | []=>⟨0,0,0,fun _=>0,fun _=>0⟩
 | x::xs=>rowFrom x xs
noncomputable def All2 {α β:Type}(R:α→β→Prop):List α→List β→Prop
 | [],[]=>True
 | x::xs,y::ys=>R x y∧All2 R xs ys
 | _,_=>False
theorem All2.length {α β:Type}{R:α→β→Prop}:∀ {xs:List α}{ys:List β},All2 R xs ys→xs.length=ys.length
 | [],[],_=>rfl
 | _::_,_::_,h=>by simp [All2.length h.2]
 | [],_::_,h=>h.elim
 | _::_,[],h=>h.elim
theorem All2.get {α β:Type}{R:α→β→Prop}:∀ {xs:List α}{ys:List β}{i:Nat}{x:α},All2 R xs ys→xs[i]? = some x→∃ y,ys[i]? = some y∧R x y
 | [],[],_,_,_,e=>by simp at e
 | _::_,y::_,0,_,h,e=>by simp at e;subst e;exact ⟨y,rfl,h.1⟩
 | _::_,_::_,i+1,_,h,e=>by simpa using All2.get (i:=i) h.2 (by simpa using e)
 | [],_::_,_,_,h,_=>h.elim
 | _::_,[],_,_,h,_=>h.elim
noncomputable def Leads:List Fa→Prop
 | []=>True
 | [_]=>True
 | x::y::r=>x.b=y.a∧Leads (y::r)
noncomputable abbrev wayT (k:Int):PyData:=.tuple [.str "way",.int k]
noncomputable abbrev rowT (ds:List PyData):PyData:=.tuple [.str "row",.tuple ds]
noncomputable abbrev timesT (n:Int) (d:PyData):PyData:=.tuple [.str "times",.int n,d]
noncomputable def Td (L:Nat) (M:Int) (ws:List Way):Nat→PyData→Fa→Prop
 | 0,d,f=>∃ k:Int,0≤k∧k<ws.length∧d=wayT k∧f=faWay (wayAt ws k)
 | n+1,d,f=>(∃ k:Int,0≤k∧k<ws.length∧d=wayT k∧f=faWay (wayAt ws k)) ∨
  (∃ ds fs,d=rowT ds∧f=rowF fs∧ds≠[]∧ds.length≤L∧All2 (Td L M ws n) ds fs∧Leads fs) ∨
  ∃ (m:Int) (e:PyData) (h:Fa),d=timesT m e∧f=h.pw m∧1≤m∧m≤M∧(m=1∨h.a=h.b)∧Td L M ws n e h
theorem Td.way {L:Nat}{M:Int}{ws:List Way}{k:Int}(h0:0≤k) (h1:k<ws.length):∀ n,Td L M ws n (wayT k) (faWay (wayAt ws k))
 | 0=>⟨k,h0,h1,rfl,rfl⟩
 | _+1=>.inl ⟨k,h0,h1,rfl,rfl⟩
structure Fa.Ok (f:Fa):Prop where
 l:1≤f.len
 d0:∀ i,0≤f.d i
 dg:∀ i,-(f.g i)≤f.d i
theorem faWay_ok (w:Way):(faWay w).Ok:=⟨Int.le_refl 1,fun i=>by simp only [faWay];omega,fun i=>by simp only [faWay];omega⟩
theorem Fa.Ok.then {x y:Fa}(h:x.Ok) (k:y.Ok):(x.then y).Ok:=by
 refine ⟨?_,fun i=>?_,fun i=>?_⟩
 · have:=h.l;have:=k.l;simp only [Fa.then];omega
 · have:=h.d0 i;simp only [Fa.then];omega
 · have:=k.dg i;simp only [Fa.then];omega
theorem rowFrom_ok {f:Fa}(h:f.Ok):∀ {fs:List Fa},(∀ x∈fs,x.Ok)→(rowFrom f fs).Ok
 | [],_=>h
 | x::xs,hx=>rowFrom_ok (h.then (hx x List.mem_cons_self)) fun y hy=>hx y (List.mem_cons_of_mem _ hy)
theorem Fa.Ok.pw {f:Fa}(h:f.Ok) {m:Int}(hm:1≤m):(f.pw m).Ok:=by
 refine ⟨?_,fun i=>?_,fun i=>?_⟩
 · have:=h.l
   have:0≤(m-1)*f.len:=Int.mul_nonneg (by omega) (by omega)
   rw [Int.sub_mul,Int.one_mul] at this
   simp only [Fa.pw];omega
 · have:=h.d0 i
   simp only [Fa.pw]
   rcases Int.lt_or_le (f.g i) 0 with hg | hg
   · rw [Int.min_eq_left (by omega)]
     have:=Int.mul_nonneg (show 0≤m-1 by omega) (show 0≤-(f.g i) by omega)
     rw [Int.mul_neg] at this
     omega
   · rw [Int.min_eq_right hg];omega
 · have:=h.dg i
   have:=h.d0 i
   simp only [Fa.pw]
   rcases Int.lt_or_le (f.g i) 0 with hg | hg
   · rw [Int.min_eq_left (by omega),Int.sub_mul,Int.one_mul];omega
   · rw [Int.min_eq_right hg]
     have:=Int.mul_nonneg (show 0≤m by omega) hg
     omega
theorem All2.right {α β:Type}{R:α→β→Prop}{S:β→Prop}(h:∀ x y,R x y→S y):∀ {xs:List α}{ys:List β},All2 R xs ys→∀ y∈ys,S y
 | [],[],_,y,hy=>by cases hy
 | _::_,z::_,r,y,hy=>by
  rcases List.mem_cons.mp hy with rfl | hy
  · exact h _ _ r.1
  · exact All2.right h r.2 y hy
 | [],_::_,r,_,_=>r.elim
 | _::_,[],r,_,_=>r.elim
theorem Td.ok {L:Nat}{M:Int}{ws:List Way}:∀ {n:Nat}{d:PyData}{f:Fa},Td L M ws n d f→f.Ok
 | 0,_,_,⟨k,_,_,_,e⟩=>e▸faWay_ok _
 | n+1,d,f,h=>by
  rcases h with ⟨k,_,_,_,rfl⟩ | ⟨ds,fs,h1,rfl,h3,h4,h5,h6⟩ | ⟨m,e,g,h1,rfl,h3,h4,h5,h6⟩
  · exact faWay_ok _
  · have hx:=h5.right (S:=Fa.Ok) fun _ _ q=>Td.ok q
    cases fs with
    | nil=>cases ds with
     | nil=>exact absurd rfl h3
     | cons _ _=>exact h5.elim
    | cons x xs=>exact rowFrom_ok (hx x List.mem_cons_self) fun y hy=>hx y (List.mem_cons_of_mem _ hy)
  · exact (Td.ok h6).pw h3
noncomputable def fl (u:Nat) (f:Nat→Int):List PyData:=(List.range u).map fun i=>.int (f i)
theorem fl_len (u:Nat) (f:Nat→Int):(fl u f).length=u:=by unfold fl;rw [List.length_map,List.length_range]
theorem fl_get {u:Nat}{f:Nat→Int}{i:Nat}(h:i<u):(fl u f)[i]? = some (.int (f i)):=by
 unfold fl;rw [List.getElem?_map,List.getElem?_range h];rfl
theorem fl_ext {u:Nat}{f g:Nat→Int}(h:∀ i,i<u→f i=g i):fl u f=fl u g:=by
 unfold fl
 exact List.map_congr_left fun i hi=>by rw [h i (List.mem_range.mp hi)]
theorem fl_ints (xs:List Int):xs.map PyData.int=fl xs.length fun i=>xs.getD i 0:=by
 apply List.ext_getElem?
 intro i
 by_cases hi:i<xs.length
 · rw [fl_get hi,List.getElem?_map,List.getElem?_eq_getElem hi,List.getD_eq_getElem?_getD,List.getElem?_eq_getElem hi];rfl
 · rw [List.getElem?_eq_none (by rw [List.length_map];omega),List.getElem?_eq_none (by rw [fl_len];omega)]
theorem zip_fl (u:Nat) (f g:Nat→Int):zipD (fl u f) (fl u g)=(List.range u).map fun i=>.tuple [.int (f i),.int (g i)]:=by
 unfold zipD fl
 rw [List.zipWith_map]
 induction (List.range u) with
 | nil=>rfl
 | cons x xs ih=>rw [List.zipWith_cons_cons,ih];rfl
theorem mulOk_9000 {a b:Int}(ha:a.natAbs<2^9000) (hb:b.natAbs<2^9000):IntMulOk a b:=by
 have la:a.natAbs.log2<9000:=by
  by_cases h:a.natAbs=0
  · rw [h];decide
  · exact (Nat.log2_lt h).mpr ha
 have lb:b.natAbs.log2<9000:=by
  by_cases h:b.natAbs=0
  · rw [h];decide
  · exact (Nat.log2_lt h).mpr hb
 unfold IntMulOk
 intro h
 rw [Bool.and_eq_true,Bool.and_eq_true] at h
 have h3:=h.2
 have e1:Builtin.Int.intBits a≤9001:=by unfold Builtin.Int.intBits;split<;>omega
 have e2:Builtin.Int.intBits b≤9001:=by unfold Builtin.Int.intBits;split<;>omega
 have hbl:20000≤bitsLine:=by decide +kernel
 unfold Builtin.Int.intTooBig at h3
 simp at h3
 omega
structure Fa.Lt (f:Fa) (Z:Int):Prop where
 l:f.len≤Z
 g0:∀ i,-Z≤f.g i
 g1:∀ i,f.g i≤Z
 d:∀ i,f.d i≤Z
theorem Fa.Lt.mono {f:Fa}{Y Z:Int}(h:f.Lt Y) (hz:Y≤Z):f.Lt Z:=⟨Int.le_trans h.l hz,fun i=>by have:=h.g0 i;omega,fun i=>by have:=h.g1 i;omega,fun i=>by have:=h.d i;omega⟩
theorem Fa.Lt.then {x y:Fa}{Y Z:Int}(h:x.Lt Z) (k:y.Lt Y) (hY:0≤Y):(x.then y).Lt (Z+Y):=by
 refine ⟨?_,fun i=>?_,fun i=>?_,fun i=>?_⟩
 · have:=h.l;have:=k.l;simp only [Fa.then];omega
 · have:=h.g0 i;have:=k.g0 i;simp only [Fa.then];omega
 · have:=h.g1 i;have:=k.g1 i;simp only [Fa.then];omega
 · have:=h.d i;have:=k.d i;have:=h.g0 i;simp only [Fa.then];omega
theorem rowFrom_lt {Y:Int}(hY:0≤Y):∀ {fs:List Fa}{f:Fa}{Z:Int},f.Lt Z→(∀ x∈fs,x.Lt Y)→(rowFrom f fs).Lt (Z+fs.length*Y)
 | [],f,Z,h,_=>by simpa [rowFrom] using h
 | x::xs,f,Z,h,hx=>by
  have:=rowFrom_lt hY (h.then (hx x List.mem_cons_self) hY) fun y hy=>hx y (List.mem_cons_of_mem _ hy)
  refine this.mono ?_
  rw [List.length_cons]
  have:((xs.length+1:Nat):Int)*Y=(xs.length:Int)*Y+Y:=by rw [Int.natCast_add,Int.add_mul];simp
  omega
theorem Fa.Lt.pw {f:Fa}{Y m:Int}(h:f.Lt Y) (ho:f.Ok) (hm:1≤m) (hY:0≤Y):(f.pw m).Lt (m*Y):=by
 have key:∀ {x:Int},x≤Y→m*x≤m*Y:=fun h=>Int.mul_le_mul_of_nonneg_left h (by omega)
 refine ⟨key h.l,fun i=>?_,fun i=>key (h.g1 i),fun i=>?_⟩
 · have:=key (x:=-(f.g i)) (by have:=h.g0 i;omega)
   rw [Int.mul_neg] at this
   simp only [Fa.pw];omega
 · have h1:=h.d i
   simp only [Fa.pw]
   rcases Int.lt_or_le (f.g i) 0 with hg | hg
   · rw [Int.min_eq_left (by omega)]
     have:=Int.mul_le_mul_of_nonneg_left (show -(f.g i)≤Y by have:=h.g0 i;omega) (show 0≤m-1 by omega)
     rw [Int.mul_neg] at this
     have e:(m-1)*Y=m*Y-Y:=by rw [Int.sub_mul,Int.one_mul]
     omega
   · rw [Int.min_eq_right hg]
     have:=key (x:=Y) (Int.le_refl _)
     have:Y≤m*Y:=by
      have:=Int.mul_nonneg (show 0≤m-1 by omega) hY
      rw [Int.sub_mul,Int.one_mul] at this
      omega
     omega
noncomputable def XB:Nat→Int
 | 0=>99
 | n+1=>10^100*XB n
theorem XB_pos:∀ n,0≤XB n
 | 0=>by decide
 | n+1=>Int.mul_nonneg (by decide +kernel) (XB_pos n)
theorem XB_small {n:Nat}(h:n≤20):(XB n).natAbs<2^8000:=(show ∀ n,n<21→(XB n).natAbs<2^8000 by decide +kernel) n (by omega)
noncomputable abbrev TD (ws:List Way) (n:Nat) (d:PyData) (f:Fa):Prop:=Td 2000 (10^100-1) ws n d f
theorem wayAt_mem' {ws:List Way}{k:Int}(h0:0≤k) (h1:k<ws.length):wayAt ws k∈ws:=by
 unfold wayAt
 rw [List.getD_eq_getElem?_getD,List.getElem?_eq_getElem (by omega)]
 exact List.getElem_mem _
theorem abs_small {x:Int}{n:Nat}(hn:n≤20) (h0:-(XB n)≤x) (h1:x≤XB n):x.natAbs<2^9000:=by
 have h:=XB_small hn
 have hp:=XB_pos n
 have:x.natAbs≤(XB n).natAbs:=by omega
 exact Nat.lt_of_le_of_lt this (Nat.lt_trans h (Nat.pow_lt_pow_right (by decide) (by decide)))
theorem count_small {m:Int}(h0:0≤m) (h1:m≤10^100):m.natAbs<2^9000:=by
 have h2:(m.natAbs:Int)≤((10^100:Nat):Int):=by rw [Int.natAbs_of_nonneg h0];exact_mod_cast h1
 have h3:m.natAbs≤10^100:=by exact_mod_cast h2
 exact Nat.lt_of_le_of_lt h3 (by decide +kernel)
theorem fEq_t {s:Str}{Q:PyData→Prop}(h:Q (.bool true)):fEq false (.str s) (.str s) Q:=by
 unfold fEq
 simp only [eqS,decide_true]
 exact h
theorem fEq_f {s t:Str}{Q:PyData→Prop}(hne:¬ s=t) (h:Q (.bool false)):fEq false (.str s) (.str t) Q:=by
 unfold fEq
 simp only [eqS,decide_eq_false hne]
 exact h
theorem w_row_way:¬ (("row":Str) = "way"):=by decide +kernel
theorem w_times_way:¬ (("times":Str) = "way"):=by decide +kernel
theorem w_times_row:¬ (("times":Str) = "row"):=by decide +kernel
theorem w_way_row:¬ (("way":Str) = "row"):=by decide +kernel
theorem w_row_times:¬ (("row":Str) = "times"):=by decide +kernel
theorem cmpW_rel {β:Type}{turn:PyData→Nat→(Option PyData→Nat→Prop)→Prop}{n:Nat}{R:PyData→β→Prop}{g:β→PyData}:∀ {items:List PyData}{ys:List β}{Q:List PyData→Nat→Prop},All2 R items ys→(∀ x y,R x y→∀ n K,K (some (g y)) n→turn x n K)→Q (ys.map g) n→cmpW turn items n Q
 | [],[],_,_,_,q=>q
 | x::xs,y::ys,Q,hr,h,q=>h x y hr.1 _ _ (cmpW_rel hr.2 h q)
 | [],_::_,_,hr,_,_=>hr.elim
 | _::_,[],_,hr,_,_=>hr.elim
theorem rowFrom_snoc (f:Fa):∀ (fs:List Fa) (x:Fa),rowFrom f (fs++[x])=(rowFrom f fs).then x
 | [],x=>rfl
 | y::ys,x=>rowFrom_snoc (f.then y) ys x
theorem rowFrom_a:∀ (fs:List Fa) (f:Fa),(rowFrom f fs).a=f.a
 | [],f=>rfl
 | y::ys,f=>rowFrom_a ys (f.then y)
theorem rowFrom_b:∀ (fs:List Fa) (f:Fa),(rowFrom f fs).b=(fs.getLastD f).b
 | [],f=>rfl
 | [y],f=>rfl
 | y::z::ys,f=>by
  have:=rowFrom_b (z::ys) (f.then y)
  show (rowFrom (f.then y) (z::ys)).b=_
  rw [this]
  rfl
theorem at_way {ws:List Way}{k:Int}(h0:0≤k) (h1:k<ws.length):atI (ws.map wayPD) k=some (wayPD (wayAt ws k)):=by
 refine at_getD h0 ?_
 rw [List.getElem?_map,List.getElem?_eq_getElem (by omega)]
 unfold wayAt
 rw [List.getD_eq_getElem?_getD,List.getElem?_eq_getElem (by omega)]
 rfl
theorem at_last {α:Type}{xs:List α}{x:α}(h:xs≠[]) (e:xs.getLast? = some x):atI xs (-1)=some x:=by
 have hl:0<xs.length:=List.length_pos_iff.mpr h
 unfold atI ixN
 rw [if_neg (by omega),if_pos (by omega)]
 show xs[(-1+(xs.length:Int)).toNat]? = some x
 rw [show (-1+(xs.length:Int)).toNat=xs.length-1 by omega,← List.getLast?_eq_getElem?]
 exact e
theorem at_zero {α:Type}{x:α}{xs:List α}:atI (x::xs) 0=some x:=by
 refine at_getD (Int.le_refl 0) rfl
theorem zipD_len (xs ys:List PyData):(zipD xs ys).length=min xs.length ys.length:=by unfold zipD;exact List.length_zipWith
theorem rowF_a {f:Fa}{fs:List Fa}:(rowF (f::fs)).a=f.a:=rowFrom_a fs f
theorem rowF_b {f:Fa}{fs:List Fa}:(rowF (f::fs)).b=(fs.getLastD f).b:=rowFrom_b fs f
theorem cmpW_mapR {turn:PyData→Nat→(Option PyData→Nat→Prop)→Prop}{u n:Nat}{Q:List PyData→Nat→Prop}{e:Nat→PyData}(f:Nat→PyData) (h:∀ i,i<u→∀ n K,K (some (f i)) n→turn (e i) n K) (q:Q ((List.range u).map f) n):cmpW turn ((List.range u).map e) n Q:=by
 have key:∀ (l:List Nat) (n:Nat) (Q:List PyData→Nat→Prop),(∀ i∈l,i<u)→Q (l.map f) n→cmpW turn (l.map e) n Q:=by
  intro l
  induction l with
  | nil=>intro n Q _ q;exact q
  | cons x xs ih=>intro n Q hl q;exact h x (hl x List.mem_cons_self) _ _ (ih _ _ (fun i hi=>hl i (List.mem_cons_of_mem _ hi)) q)
 exact key _ _ _ (fun i hi=>List.mem_range.mp hi) q
theorem ite_t {c:Bool}{A B:Prop}(h:c=true) (a:A):if c=true then A else B:=by rw [if_pos h];exact a
theorem ite_f {c:Bool}{A B:Prop}(h:c=false) (b:B):if c=true then A else B:=by rw [if_neg (by rw [h];exact Bool.false_ne_true)];exact b
theorem fEq_i {i j:Int}{Q:PyData→Prop}(h:Q (.bool (decide (i=j)))):fEq false (.int i) (.int j) Q:=h
theorem fNe_i {i j:Int}{Q:PyData→Prop}(h:Q (.bool (!decide (i=j)))):fEq true (.int i) (.int j) Q:=h
theorem rowF_snoc {fs:List Fa}{x:Fa}(h:fs≠[]):rowF (fs++[x])=(rowF fs).then x:=by
 cases fs with
 | nil=>exact absurd rfl h
 | cons y ys=>exact rowFrom_snoc y ys x
noncomputable def pathF (ws:List Way) (bs:List Int):List Fa:=bs.map fun k=>faWay (wayAt ws k)
theorem pth_b {ws:List Way}{b:Int}:∀ {bs:List Int}{f:Fa},Pth ws f.b bs b→(rowFrom f (pathF ws bs)).b=b
 | [],_,h=>h
 | k::r,f,h=>pth_b (bs:=r) (f:=f.then (faWay (wayAt ws k))) h.2.2
theorem pth_leads {ws:List Way}{b:Int}:∀ {bs:List Int}{f:Fa},Pth ws f.b bs b→Leads (f::pathF ws bs)
 | [],_,_=>trivial
 | k::r,f,h=>⟨h.2.1.symm,pth_leads (bs:=r) (f:=faWay (wayAt ws k)) h.2.2⟩
theorem path_td {L:Nat}{M:Int}{ws:List Way}{n:Nat}:∀ {bs:List Int},InW ws bs→All2 (Td L M ws n) (bs.map wayT) (pathF ws bs)
 | [],_=>trivial
 | k::r,h=>⟨Td.way (h k List.mem_cons_self).1 (h k List.mem_cons_self).2 n,path_td fun j hj=>h j (List.mem_cons_of_mem _ hj)⟩
theorem eqOk_nil (ns:List Int):EqOk (lstI ns) (.list []):=⟨by rw [PyData.canLay0];exact canLay_ints ns,rfl,Nat.le_trans (Nat.min_le_right _ _) (by decide)⟩
theorem eqv_nilI (ns:List Int):PyData.eqv (lstI ns) (.list [])=ns.isEmpty:=by cases ns<;>rfl
theorem neNil {ns:List Int}{Q:PyData→Prop}(h1:ns≠[]→Q (.bool true)) (h2:ns=[]→Q (.bool false)):fEqD true (lstI ns) (.list []) Q:=by
 refine ⟨eqOk_nil ns,?_⟩
 rw [eqv_nilI]
 cases ns with
 | nil=>exact h2 rfl
 | cons _ _=>exact h1 (by simp)
theorem lay_way (w:Way):PyData.canLay0 (wayPD w)=true:=by
 simp [wayPD,PyData.canLay0,PyData.canLayAll0,canLay_ints]
theorem lay_ways:∀ ws:List Way,PyData.canLayAll0 (ws.map wayPD)=true
 | []=>rfl
 | w::ws=>by rw [List.map_cons,PyData.canLayAll0,lay_way,lay_ways ws];rfl
theorem at_ints {ns:List Int}{z:Int}(h0:0≤z) (h1:z<ns.length):∃ k,atI (ns.map PyData.int) z=some (.int k)∧k∈ns:=by
 have hk:z.toNat<ns.length:=by omega
 exact ⟨ns[z.toNat],at_getD h0 (by rw [List.getElem?_map,List.getElem?_eq_getElem hk];rfl),List.getElem_mem hk⟩
theorem SDs.all {h n:Nat}:∀ {ds:List PyData},(∀ d∈ds,SD h n d)→SDs h (ds.length*(n+1)) ds
 | [],_=>.nil
 | d::ds,a=>by
  have:=SDs.cons (a d List.mem_cons_self) (SDs.all fun e he=>a e (List.mem_cons_of_mem _ he))
  exact this.mono (Nat.le_refl _) (by rw [List.length_cons,Nat.add_mul];omega)
theorem from_self {ws:List Way}{k:Int}(h0:0≤k) (h1:k<ws.length):fromI ws (wayAt ws k).a≠[]:=by
 intro e
 have:k∈fromI ws (wayAt ws k).a:=by
  unfold fromI
  refine List.mem_map.mpr ⟨k.toNat,List.mem_filter.mpr ⟨List.mem_range.mpr (by omega),decide_eq_true ?_⟩,by omega⟩
  rw [Int.toNat_of_nonneg h0]
 rw [e] at this
 cases this
noncomputable def endsL:VEnds:={ nx:=fun _ _=>False,rt:=fun d _=>d = .bool true,rtn:=fun _ _=>False }
theorem law_start {K:PySem.W.Frag}{N:List Str}{vs:List V}{H:Hp}{Q:VK}{E E':XK}{rest:TS}{gs:GS} [T:SV rest gs] (hN:2≤N.length) (h:spLaw K vs H Q E) (hs:gs endsL (.jnk :: .jar::List.replicate (N.length-2) .jnk) 0) :
 tSeq (tAsg (tCall (spJar K) [] E' (tCons (tVar 0) tNil)) (gName 1)) rest { nx:=fun _ H'=>Q .non H',rt:=Q } (L2.start N vs) H:=by
 obtain ⟨a,ns,rfl,hS,hlen,q⟩:=h
 have est:L2.start N [V.ref a]=some (V.ref a)::none::List.replicate (N.length-2) none:=by
  unfold L2.start
  rw [show N.length-[V.ref a].length=(N.length-2)+1 by simp;omega]
  rfl
 rw [est]
 refine ⟨_,rfl,a,ns,rfl,hS,hlen,fun p c H1 k1 _ _ J=>?_⟩
 have al:Alc [p,c] H1:=fun b hb z=>J.fresh z hb
 have no:∀ i,ownAt (.jnk :: .jar::List.replicate (N.length-2) .jnk) (some (V.ref a)::some (V.ref p)::List.replicate (N.length-2) none) i=[]:=fun i=>by
  unfold ownAt
  cases e:((.jnk :: .jar::List.replicate (N.length-2) .jnk:List Vl))[i]? with
  | none=>rfl
  | some w=>
   have hm:=List.mem_of_getElem? e
   have:w = .jnk∨w = .jar:=by
    rcases List.mem_cons.mp hm with h | h
    · exact .inl h
    · rcases List.mem_cons.mp h with h | h
      · exact .inr h
      · exact .inl (List.mem_replicate.mp h).2
   rcases this with rfl | rfl<;>rfl
 refine T.sv (C:=⟨Src.jar p c,[p,c],H1,[]⟩) (G:=endsL) ⟨fun _ h=>h.elim,fun _ h=>h.elim,fun _ h=>h.elim,fun {d n v H'} R h=>?_,fun _ h=>h.elim,fun _ _ h=>h.elim,fun _ h=>h.elim⟩ (ex:=[p,c]) (env:=.jnk :: .jar::List.replicate (N.length-2) .jnk) (σ:=some (V.ref a)::some (V.ref p)::List.replicate (N.length-2) none) ⟨⟨?_,fun i w e=>?_,fun b h=>h,al,J.n⟩,fun b h=>h,al,fun i j b h=>?_,fun i b h=>?_,.refl,fun x hx=>by cases hx⟩ hs
 · cases h
   have r:=R.r
   cases r
   exact q _
 · simp
 · match i with
   | 0=>cases e;trivial
   | 1=>cases e;exact ⟨p,c,rfl,rfl⟩
   | i+2=>
    have:w = .jnk:=(List.mem_replicate.mp (List.mem_of_getElem? (by simpa using e))).2
    subst this
    trivial
 · rw [no] at h;cases h
 · rw [no] at h;cases h
end My
namespace L2
open PySem PySem.Spec PyProof.Rows
section
variable {X:Cx}{x:Str}{e:Expr}{es:List Expr}{p pos:Pos}{t:TA}{k:Nat}{ps:List Str}{sp:Sp}{i:Int}
end
end L2
namespace My
open PySem PySem.Spec PyProof.Rows L2
theorem then_assoc (x y z:Fa):(x.then y).then z=x.then (y.then z):=by
 unfold Fa.then
 simp only [Fa.mk.injEq,true_and]
 refine ⟨by omega,by funext i;omega,?_⟩
 funext i
 omega
theorem rowFrom_then:∀ (xs:List Fa) (f x:Fa),rowFrom (f.then x) xs=f.then (rowFrom x xs)
 | [],_,_=>rfl
 | y::ys,f,x=>by
  show rowFrom ((f.then x).then y) ys=f.then (rowFrom (x.then y) ys)
  rw [then_assoc,rowFrom_then ys]
theorem rowF_cons {x y:Fa}{ys:List Fa}:rowF (x::y::ys)=x.then (rowF (y::ys)):=rowFrom_then ys x y
theorem vseq {t u:GS}{G:VEnds}{env:List Vl}{n:Nat}(Mid:List Vl→Nat→Prop) (h1:∀ N:List Vl→Nat→Prop,(∀ e k,Mid e k→N e k)→t { G with nx:=N } env n) (h2:∀ e k,Mid e k→∃ e2,Fz e e2∧u G e2 k):gSeq t u G env n:=h1 _ h2
noncomputable abbrev fRepr:G1:=fun ds Q=>match ds with
 | [d]=>ShOk d∧Q (.str d.shown)
 | _=>False
noncomputable instance cs_repr:CS (fun xs H Q=>∃ ex d v,xs=[v]∧Rep ex H d v∧ShOk d∧Q (.str d.shown) H) fRepr:=⟨fun {H xs ds Q P} r h k=>by
 unfold fRepr at h
 split at h
 · cases r with
   | cons r1 t=>cases t;exact ⟨_,_,_,rfl,r1,h.1,k _ _ h.2 fun _=>.str _⟩
 · exact h.elim⟩
theorem fNe_s {s:Str}{Q:PyData→Prop}(h:Q (.bool false)):fEq true (.str s) (.str s) Q:=by
 unfold fEq
 simp only [eqS,decide_true]
 exact h
theorem cmpW_filterR {turn:PyData→Nat→(Option PyData→Nat→Prop)→Prop}{u n:Nat}{Q:List PyData→Nat→Prop}{e:Nat→PyData}(p:Nat→Bool) (f:Nat→PyData) (h:∀ i,i<u→∀ n K,(p i=true→K (some (f i)) n)→(p i=false→K none n)→turn (e i) n K) (q:Q (((List.range u).filter p).map f) n):cmpW turn ((List.range u).map e) n Q:=by
 have key:∀ (l:List Nat) (n:Nat) (Q:List PyData→Nat→Prop),(∀ i∈l,i<u)→Q ((l.filter p).map f) n→cmpW turn (l.map e) n Q:=by
  intro l
  induction l with
  | nil=>intro n Q _ q;exact q
  | cons x xs ih=>
   intro n Q hl q
   refine h x (hl x List.mem_cons_self) _ _ (fun hp=>?_) (fun hp=>?_)
   · rw [List.filter_cons_of_pos hp] at q
     exact ih _ _ (fun i hi=>hl i (List.mem_cons_of_mem _ hi)) q
   · rw [List.filter_cons_of_neg (by rw [hp];exact Bool.false_ne_true)] at q
     exact ih _ _ (fun i hi=>hl i (List.mem_cons_of_mem _ hi)) q
 exact key _ _ _ (fun i hi=>List.mem_range.mp hi) q
noncomputable def gsWhole:GSp:=fun as n Q=>∃ (x:Int),as=[.d (.int x)]∧Q (.bool true) n
theorem neSelf {x:PyData}{Q:PyData→Prop}(h:x.canLay0=true) (hd:x.depth≤50) (q:Q (.bool false)):fEqD true x x Q:=⟨⟨h,h,Nat.le_trans (Nat.min_le_left _ _) hd⟩,by rw [PySem.SeqAt.eqv_refl _ h];exact q⟩
noncomputable abbrev gTru (g:GE):GT:=fun env n Q=>g env n fun d n1=>match d with
 | .list xs=>Q (!xs.isEmpty) n1
 | .tuple xs=>Q (!xs.isEmpty) n1
 | _=>False
theorem empty_reps {ex:List Addr}{H:Hp}{ds:List PyData}{vs:List V}(r:Reps ex H ds vs):ds.isEmpty=vs.isEmpty:=by
 cases r<;>rfl
noncomputable def tTru (K:PySem.W.Frag) (te:TE):TT:=fun σ H Q=>te σ H fun x H'=>∃ k,TruV K x H' k∧Q k H'
theorem pt_tru {X:Cx}{a:Expr}{ta:TE}(ha:PE X a ta) (he:∀ whole,isTrue a X.env whole=(do let v ← whole;standAt a.pos;holding [v] (truthy v))):PT X a (tTru X.K ta):=pt_truth ha he
noncomputable instance tv_tru {K:PySem.W.Frag}{te:TE}{g:GE} [A:EV false te g]:TV (tTru K te) (gTru g):=⟨fun {S ex env σ H n Q P} E h k=>A.ev E h fun d n1 v H1 h1 s1 r1=>by
 cases r1 with
 | list e m z rs=>exact ⟨_,.inl ⟨_,SqL.of e,rfl⟩,by rw [← empty_reps rs];exact k _ _ _ h1 s1⟩
 | tuple e m z rs=>exact ⟨_,.inr (.inl ⟨_,SqT.of e,rfl⟩),by rw [← empty_reps rs];exact k _ _ _ h1 s1⟩
 | none=>exact h1.elim
 | bool=>exact h1.elim
 | str=>exact h1.elim
 | int=>exact h1.elim⟩
theorem lead_at {fs:List Fa}{i:Nat}{y:Fa}(h:Leads fs) (hi:fs[i+1]? = some y):(rowF (fs.take (i+1))).b=y.a:=by
 induction fs generalizing i with
 | nil=>cases hi
 | cons f r ih=>
  cases r with
  | nil=>cases hi
  | cons g r=>
   cases i with
   | zero=>
    cases hi
    exact h.1
   | succ i=>
    have:=ih h.2 hi
    rw [List.take_succ_cons,List.take_succ_cons,rowF_cons]
    rw [List.take_succ_cons] at this
    exact this
theorem eqNilI {ns:List Int}{Q:PyData→Prop}(h1:ns=[]→Q (.bool true)) (h2:ns≠[]→Q (.bool false)):fEqD false (lstI ns) (.list []) Q:=by
 refine ⟨eqOk_nil ns,?_⟩
 rw [eqv_nilI]
 cases ns with
 | nil=>exact h1 rfl
 | cons _ _=>exact h2 (by simp)
noncomputable abbrev MT:Int:=10^100-1
mutual
noncomputable def nd:PyData→Nat
 | .tuple ds=>1+nds ds
 | _=>0
noncomputable def nds:List PyData→Nat
 | []=>0
 | d::r=>nd d+nds r
end
mutual
noncomputable def smI:PyData→Bool
 | .int i=>decide (i≤MT)
 | .tuple ds=>smIs ds
 | .list ds=>smIs ds
 | _=>true
noncomputable def smIs:List PyData→Bool
 | []=>true
 | d::r=>smI d&&smIs r
end
end My
namespace HT
open PySem PySem.Spec PyProof.Rows
section
variable {prog:Program}{w:World}{A:Around}{E:Value→Shared→Prop}{s:Shared}
end
end HT
namespace L2
open PySem PySem.Spec PyProof.Rows
section
variable {X:Cx}{e st:Expr}{te:TE}{ts:TO}{pos p2:Pos}
end
end L2
namespace My
open PySem PySem.Spec PyProof.Rows L2
section
variable {b:Bool}{te:TE}{g:GE}
end
noncomputable def gdB (d:PyData):Bool:=d.canLay0&&(d.intsShort 101&&(d.showable&&smI d))
theorem eqD_i {i j:Int}{Q:PyData→Prop}(h:Q (.bool (decide (i=j)))):fEqD false (.int i) (.int j) Q:=
 ⟨⟨rfl,rfl,Nat.le_trans (Nat.min_le_right _ _) (show (0:Nat)≤50 by decide)⟩,h⟩
section
variable {d:PyData}{k n g:Int}(hg:gdB d=true) (gk:gdB (.int k)=true) (wk:(PyData.int k).weight≤10) (gn:gdB (.int n)=true) (wn:(PyData.int n).weight≤10) (gg:gdB (.int g)=true) (wg:(PyData.int g).weight≤333)
include hg gk wk gn wn gg wg
end
end My
namespace L2
open PySem PySem.Spec PyProof.Rows
section
variable {X:Cx}
end
end L2
namespace My
open PySem PySem.Spec PyProof.Rows L2
section
variable {S:Src}{ex L:List Addr}{H H1 H2:Hp}{w:Vl}{o:Option V}
theorem SlR.adds:∀ {L:List Addr},(∀ b∈L,H b=none)→SlR S ex H w o→SlR S (L++ex) H w o
 | [],_,r=>r
 | l::L,h,r=>SlR.add (h l List.mem_cons_self) (SlR.adds (fun b hb=>h b (List.mem_cons_of_mem _ hb)) r)
theorem ev_turnL {je:List Vl}{σ0 σ':L2.St}{n1 n2 k:Nat}(E:Ev S ex je σ0 H1 n1) (hL:∀ b∈L,H1 b=none) (kp:Kp (L++S.ch) H1 H2) (h2:∀ b∈L,H2 b≠none) (iv:S.inv n2 H2) (hj:∀ j:Nat,j<k→je[j]? = none∨je[j]? = some .jnk) (hs:∀ j:Nat,k≤j→σ'[j]? = σ0[j]?) (hz:σ'.length = σ0.length):Ev S (L++ex) je σ' H2 n2:=by
 have hc:∀ a∈S.ch,a∈L++ex:=fun a h=>List.mem_append_right _ (E.ch a h)
 have kx:Kp (L++ex) H1 H2:=kp.mono fun b hb=>(List.mem_append.mp hb).elim (fun h=>List.mem_append_left _ h) fun h=>hc b h
 have st:∀ {a:Addr} {u:HO},H1 a=some u→a∉S.ch→H2 a=some u:=fun {a u} e nc=>kp _ _ e fun z=>(List.mem_append.mp z).elim (fun h=>by rw [hL a h] at e;cases e) nc
 refine ⟨by rw [hz];exact E.len,fun j w e=>?_,hc,fun a ha=>?_,iv⟩
 · by_cases hjk:j<k
   · rcases hj j hjk with h | h
     · rw [h] at e;cases e
     · rw [h] at e;cases e;trivial
   · rw [hs j (Nat.le_of_not_lt hjk)]
     have h:=SlR.adds hL (E.sl j w e)
     cases w with
     | jnk=>trivial
     | jar=>exact h
     | tape=>exact h
     | d x=>obtain ⟨v,e,r⟩:=h;exact ⟨v,e,r.keep kx⟩
     | pin v x=>obtain ⟨e,r⟩:=h;exact ⟨e,r.keep kx⟩
     | own xs=>obtain ⟨a,vs,e,h1,h2,h3,h4,h5⟩:=h;exact ⟨a,vs,e,st h1 h5,h2,h3.keep kx,h4,h5⟩
     | dct kvs=>obtain ⟨a,kws,e,h1,⟨h2,h3⟩,h4,h5⟩:=h;exact ⟨a,kws,e,st h1 h5,⟨h2,h3.keep kx⟩,h4,h5⟩
     | own2 ks ps=>obtain ⟨a,e,q⟩:=h;exact ⟨a,e,st q.h q.c,q.z,q.k,q.nd,q.m,q.c,fun p hp=>let w:=q.i p hp;⟨w.m,w.c,let ⟨vs,h1,h2,h3⟩:=w.h;⟨vs,st h1 w.c,h2,h3.keep kx⟩⟩⟩
 · rcases List.mem_append.mp ha with ha | ha
   · exact h2 a ha
   · by_cases hac:a∈S.ch
     · exact S.dom iv a hac
     · intro z
       cases e:H1 a with
       | none=>exact E.al a ha e
       | some u=>rw [st e hac] at z;cases z
end
noncomputable abbrev GN2:=List Vl→Nat→(List (List PyData)→Nat→Prop)→Prop
class N2 (te:TE) (g:outParam GN2):Prop where
 n2:∀ {S:Src} {ex:List Addr} {env:List Vl} {σ:L2.St} {H:Hp} {n:Nat} {Q:VK} {P:List (List PyData)→Nat→Prop},Ev S ex env σ H n→g env n P →
  (∀ (ps:List (Addr×List PyData)) (n':Nat) (a:Addr) (H':Hp),P (ps.map (·.2)) n'→Step S n' H H'→H a=none→(∀ p∈ps,H p.1=none)→Own2 S (a::ps.map (·.1)++ex) H' none ps a→Q (.ref a) H')→te σ H Q
noncomputable def cmp2 (f:PyData→Nat→(List PyData→Nat→Prop)→Prop):List PyData→Nat→(List (List PyData)→Nat→Prop)→Prop
 | [],n,Q=>Q [] n
 | x::xs,n,Q=>f x n fun d n1=>cmp2 f xs n1 fun ys n2=>Q (d::ys) n2
noncomputable abbrev gTurn2 (bd:GG) (gn:GN) (env:List Vl):PyData→Nat→(List PyData→Nat→Prop)→Prop:=fun x n Q=>bd x env fun env'=>gn env' n Q
noncomputable abbrev gComp2 (gi:GN) (k:Nat) (idx ks:List Nat) (bd:GG) (gn:GN):GN2:=fun env n Q=>gi env n fun items n1=>(ks.all (fun i=>decide (i<k))=true∧items.length≤1000000∧items.all scalD=true)∧cmp2 (gTurn2 bd gn (jenv k idx env)) items n1 Q
noncomputable instance n2_comp {wi:TI}{gi:GN}{k:Nat}{idx ks:List Nat}{g:TG}{bd:GG}{te:TE}{gn:GN} [I:IC wi gi] [G:GV g bd ks] [A:NV te gn]:N2 (tComp wi k idx g tNoTest te) (gComp2 gi k idx ks bd gn):=⟨fun {S ex env σ H n Q P} E h kk=>by
 refine I.ic E h fun items n1 J H1 hc s1 hit l hl=>?_
 obtain ⟨⟨hk,hz,hsc⟩,hc⟩:=hc
 have hs:sizeLine=16777216:=sizeLine_eq
 have E1:=ev_inner (E.step s1) k idx
 have lch:l∉S.ch:=fun z=>S.dom s1.2 l z hl
 have hkk:∀ i∈ks,i<k:=fun i hi=>of_decide_eq_true (List.all_eq_true.mp hk i hi)
 refine ⟨fun i m σ' H2=>i≤items.length∧m=items.length-i∧∃ (n2:Nat) (ps:List (Addr×List PyData)),cmp2 (gTurn2 bd gn (jenv k idx env)) (items.drop i) n2 (fun ys n'=>P (ps.map (·.2)++ys) n')∧Kp (l::S.ch) H1 H2∧H2 l=some (.lst (refs ps))∧ps.length≤i∧(∀ p∈ps,H1 p.1=none)∧(l::ps.map (·.1)).Nodup∧(∀ p∈ps,In2 S (l::ps.map (·.1)++ex) H2 p)∧S.inv n2 H2∧(∀ j:Nat,k≤j→σ'[j]? = (startC k idx σ)[j]?)∧σ'.length=(startC k idx σ).length,
  ⟨items.length,Nat.zero_le _,rfl,n1,[],by simpa using hc,Kp.new hl _,upd_same,Nat.le_refl _,(fun p hp=>by cases hp),by simp,(fun p hp=>by cases hp),S.keep s1.2 fun b _ o' e=>Kp.new (ex:=[]) hl _ _ _ e (by simp),fun _ _=>rfl,rfl⟩,?_⟩
 rintro i m σ' H2 ⟨hi,rfl,n2,ps,hcm,kp,h2l,hvl,hno,hnd,hin,iv2,hsl,hln⟩
 have hL:∀ b∈l::ps.map (·.1),H1 b=none:=fun b hb=>by
  rcases List.mem_cons.mp hb with rfl | hb
  · exact hl
  · obtain ⟨p,hp,rfl⟩:=List.mem_map.mp hb
    exact hno p hp
 have hL2:∀ b∈l::ps.map (·.1),H2 b≠none:=fun b hb=>by
  rcases List.mem_cons.mp hb with rfl | hb
  · rw [h2l];exact Option.some_ne_none _
  · obtain ⟨p,hp,rfl⟩:=List.mem_map.mp hb
    obtain ⟨vs,h1,_⟩:=(hin p hp).h
    rw [h1];exact Option.some_ne_none _
 have E2:Ev S (l::ps.map (·.1)++ex) (jenv k idx env) σ' H2 n2:=ev_turnL E1 hL (kp.mono fun b hb=>(List.mem_cons.mp hb).elim (fun e=>by rw [e];exact List.mem_append_left _ List.mem_cons_self) fun h=>List.mem_append_right _ h) hL2 iv2 jenv_jnk hsl hln
 have IT:=hit l H2 hl kp fun a ha=>(List.mem_cons.mp ha).elim (fun e=>by rw [e,h2l];exact Option.some_ne_none _) fun h=>E2.al a (List.mem_append_right _ h)
 rcases Nat.lt_or_ge i items.length with hlt | hge
 · refine .inr ⟨(IT.2 i items[i] (List.getElem?_eq_getElem hlt)).1,fun x H3 y=>?_⟩
   obtain ⟨kp3,rx⟩:=(IT.2 i items[i] (List.getElem?_eq_getElem hlt)).2 x H3 y
   have rx':=scal_rep (List.all_eq_true.mp hsc items[i] (List.getElem_mem hlt)) rx (l::ps.map (·.1)++ex)
   rw [List.drop_eq_getElem_cons hlt] at hcm
   have st3:Step S n2 H2 H3:=Step.new E2.inv kp3
   have E3:=E2.step st3
   refine G.gv E3 rx' hcm fun env' σ2 ht E4 _ hs2' hl2=>tv_noTest.tv E4 (P:=fun c n'=>c=true∧n'=n2) ⟨rfl,rfl⟩ fun c n4 H4 h4 s4=>?_
   obtain ⟨rfl,rfl⟩:=h4
   have hs2:∀ j:Nat,k≤j→σ2[j]? = (startC k idx σ)[j]?:=fun j hj=>by
    rw [hs2' j fun z=>by have:=hkk j z;omega];exact hsl j hj
   refine A.nv (E4.step s4) ht fun ds n5 a vs H5 h5 s5 ha hla hzv r5=>?_
   have s24:=st3.trans s4
   have s25:=s24.trans s5
   have k5:Kp S.ch H2 H5:=s25.1
   have h5l:H5 l=some (.lst (refs ps)):=k5 _ _ h2l lch
   have an:a∉l::ps.map (·.1)++ex:=fun z=>(E4.step s4).al a z ha
   have ac:a∉S.ch:=fun z=>an (E4.ch a z)
   have ha1:H1 a=none:=by
    cases e:H1 a with
    | none=>rfl
    | some u=>
     have e2:=kp a u e fun z=>(List.mem_cons.mp z).elim (fun q=>an (by rw [q];exact List.mem_append_left _ List.mem_cons_self)) ac
     rw [s24.1 a u e2 ac] at ha;cases ha
   have al:a≠l:=fun e=>an (by rw [e];exact List.mem_append_left _ List.mem_cons_self)
   have msub:∀ b∈l::(ps++[(a,ds)]).map (·.1)++ex,b∈a::(l::ps.map (·.1)++ex):=fun b hb=>by
    simp only [List.map_append,List.map_cons,List.map_nil,List.cons_append,List.mem_cons,List.mem_append,List.not_mem_nil,or_false] at hb ⊢
    rcases hb with h | (h | h) | h
    · exact .inr (.inl h)
    · exact .inr (.inr (.inl h))
    · exact .inl h
    · exact .inr (.inr (.inr h))
   have mup:∀ b∈l::ps.map (·.1)++ex,b∈l::(ps++[(a,ds)]).map (·.1)++ex:=fun b hb=>by
    simp only [List.map_append,List.map_cons,List.map_nil,List.cons_append,List.mem_cons,List.mem_append,List.not_mem_nil,or_false] at hb ⊢
    rcases hb with h | h | h
    · exact .inl h
    · exact .inr (.inl (.inl h))
    · exact .inr (.inr h)
   have lin:l∈l::(ps++[(a,ds)]).map (·.1)++ex:=List.mem_append_left _ List.mem_cons_self
   refine ⟨refs ps,h5l,by unfold refs;rw [List.length_map];omega,_,(?_:items.length-(i+1)<_),hlt,rfl,n5,ps++[(a,ds)],?_,?_,?_,?_,?_,?_,?_,?_,hs2,hl2.trans hln⟩
   · omega
   · simpa using h5
   · exact (kp.trans (k5.mono fun b hb=>List.mem_cons_of_mem _ hb)).trans (Kp.at List.mem_cons_self _)
   · rw [upd_same];unfold refs;rw [List.map_append];rfl
   · rw [List.length_append,List.length_singleton];omega
   · intro p hp
     rcases List.mem_append.mp hp with hp | hp
     · exact hno p hp
     · rw [List.mem_singleton.mp hp];exact ha1
   · rw [List.map_append,← List.cons_append]
     refine List.nodup_append.mpr ⟨hnd,by simp,?_⟩
     intro b hb c hc e
     have e':b=a:=e.trans (List.mem_singleton.mp hc)
     exact an (List.mem_append_left _ (e'▸hb))
   · intro p hp
     rcases List.mem_append.mp hp with hp | hp
     · have w:=hin p hp
       obtain ⟨us,g1,g2,g3⟩:=w.h
       have pl:p.1≠l:=fun e=>(List.nodup_cons.mp hnd).1 (by rw [← e];exact List.mem_map.mpr ⟨p,hp,rfl⟩)
       refine ⟨mup p.1 w.m,w.c,us,by rw [upd_ne pl];exact k5 _ _ g1 w.c,g2,?_⟩
       have q4:Reps (l::ps.map (·.1)++ex) H4 p.2 us:=g3.keep (s24.1.mono E2.ch)
       have q5:Reps (a::(l::ps.map (·.1)++ex)) H5 p.2 us:=(Reps.add ha q4).keep (s5.1.mono fun b hb=>List.mem_cons_of_mem _ (E2.ch b hb))
       exact (Reps.mono msub q5).keep (Kp.at lin _)
     · rw [List.mem_singleton.mp hp]
       refine ⟨?_,ac,vs,by rw [upd_ne al];exact hla,hzv,(Reps.mono msub r5).keep (Kp.at lin _)⟩
       simp
   · exact S.keep s25.2 fun b hb o e=>by rw [upd_ne (fun z=>lch (by rw [← z];exact hb))];exact e
 · have e:i=items.length:=by omega
   subst e
   rw [List.drop_length] at hcm
   have hcm':P (ps.map (·.2)) n2:=by simpa [cmp2] using hcm
   refine .inl ⟨IT.1,kk ps n2 l H2 hcm' ⟨fun b o e nb=>kp b o (s1.1 b o e nb) fun z=>(List.mem_cons.mp z).elim (fun e2=>by rw [e2,s1.free hl] at e;cases e) nb,iv2⟩ (s1.free hl) (fun p hp=>s1.free (hno p hp)) ⟨h2l,by omega,(fun _ h=>by cases h),hnd,List.mem_append_left _ List.mem_cons_self,lch,hin⟩⟩⟩
theorem Rep.adds {ex:List Addr}{H:Hp}{d:PyData}{v:V}:∀ {L:List Addr},(∀ b∈L,H b=none)→Rep ex H d v→Rep (L++ex) H d v
 | [],_,r=>r
 | l::L,h,r=>Rep.add (h l List.mem_cons_self) (Rep.adds (fun b hb=>h b (List.mem_cons_of_mem _ hb)) r)
section
variable {C:Cv}{ex:List Addr}{env:List Vl}{σ:L2.St}{H H':Hp}{n m:Nat}
theorem own_at2 {i:Nat}{ks:Option (List Key)}{ps:List (Addr×List PyData)}{a b:Addr}(h:b∈ownAt (env.set i (.own2 ks ps)) (σ.set i (some (.ref a))) i):b∈a::ps.map (·.1):=by
 unfold ownAt at h
 split at h
 · rename_i e1 e2
   have:=set_get e1
   cases this
 · rename_i e1 e2
   have:=set_get e1
   cases this
 · rename_i c e1 e2
   have e3:(σ.set i (some (.ref a)))[i]? = some (some (.ref c)):=join_some e2
   have h3:=set_get e3
   cases h3
   have h4:=set_get e1
   cases h4
   exact h
 · cases h
theorem At.own2 (A:At C ex env σ H n) {i:Nat}{ks:Option (List Key)}{ps:List (Addr×List PyData)}{a:Addr}(s:Step C.S m H H') (ha:H a=none) (hp:∀ p∈ps,H p.1=none) (q:Own2 C.S (a::ps.map (·.1)++ex) H' ks ps a) :
 At C (a::ps.map (·.1)++ex) (env.set i (.own2 ks ps)) (σ.set i (some (.ref a))) H' m:=by
 have hL:∀ b∈a::ps.map (·.1),H b=none:=fun b hb=>by
  rcases List.mem_cons.mp hb with rfl | hb
  · exact ha
  · obtain ⟨p,h,rfl⟩:=List.mem_map.mp hb
    exact hp p h
 have hL2:∀ b∈a::ps.map (·.1),H' b≠none:=fun b hb=>by
  rcases List.mem_cons.mp hb with rfl | hb
  · rw [q.h];exact Option.some_ne_none _
  · obtain ⟨p,h,rfl⟩:=List.mem_map.mp hb
    obtain ⟨vs,h1,_⟩:=(q.i p h).h
    rw [h1];exact Option.some_ne_none _
 have hc:∀ b∈C.S.ch,b∈a::ps.map (·.1)++ex:=fun b h=>List.mem_append_right _ (A.ev.ch b h)
 have E1:Ev C.S (a::ps.map (·.1)++ex) env σ H' m:=by
  refine ⟨A.ev.len,fun j w e=>(SlR.adds hL (A.ev.sl j w e)).kp hc s.1,hc,fun b hb=>?_,s.2⟩
  rcases List.mem_append.mp hb with hb | hb
  · exact hL2 b hb
  · exact A.ev.al.step s b hb
 refine ⟨E1.put ⟨a,rfl,q⟩,fun b h=>List.mem_append_right _ (A.ex0 b h),A.al0,fun j k b h1 h2=>?_,fun j b h=>?_,A.kp.trans s.1,fun h hh=>(Rep.adds hL (A.held h hh)).keep (s.1.mono hc)⟩
 · by_cases hj:i=j
   · subst hj
     have e:=hL b (own_at2 h1)
     by_cases hk:i=k
     · exact hk
     · rw [own_other hk] at h2
       exact absurd e (own_sl A.ev h2).1
   · rw [own_other hj] at h1
     by_cases hk:i=k
     · subst hk
       exact absurd (hL b (own_at2 h2)) (own_sl A.ev h1).1
     · rw [own_other hk] at h2
       exact A.sep j k b h1 h2
 · by_cases hj:i=j
   · subst hj
     exact A.free (hL b (own_at2 h))
   · rw [own_other hj] at h
     exact A.new j b h
theorem own_same2 {i:Nat}{ks:Option (List Key)}{ps qs:List (Addr×List PyData)}(h:env[i]? = some (.own2 ks ps)) (e:qs.map (·.1)=ps.map (·.1)):∀ j,ownAt (env.set i (.own2 ks qs)) σ j=ownAt env σ j:=fun j=>by
 unfold ownAt
 by_cases hj:i=j
 · subst hj
   rw [List.getElem?_set_self (List.getElem?_eq_some_iff.mp h).1,h]
   cases (σ[i]?).join with
   | none=>rfl
   | some v=>cases v<;>first | rfl | (show _::_=_::_;rw [e])
 · rw [List.getElem?_set_ne hj]
theorem mem_set {α:Type}{l:List α}{m:Nat}{a b:α}(h:b∈l.set m a):b=a∨∃ k,k≠m∧l[k]? = some b:=by
 obtain ⟨k,hk⟩:=List.mem_iff_getElem?.mp h
 by_cases e:m=k
 · subst e
   exact .inl (set_get hk)
 · rw [List.getElem?_set_ne e] at hk
   exact .inr ⟨k,fun z=>e z.symm,hk⟩
theorem nd_at {l:List Addr}(hn:l.Nodup) {k m:Nat}{a b:Addr}(h:l[k]? = some a) (g:l[m]? = some b) (e:k≠m):a≠b:=by
 intro z
 subst z
 obtain ⟨h1,h2⟩:=List.getElem?_eq_some_iff.mp h
 obtain ⟨g1,g2⟩:=List.getElem?_eq_some_iff.mp g
 have pw:=List.pairwise_iff_getElem.mp hn
 rcases Nat.lt_or_gt_of_ne e with lt | gt
 · exact pw k m h1 g1 lt (h2.trans g2.symm)
 · exact pw m k g1 h1 gt (g2.trans h2.symm)
theorem At.re2 (A:At C ex env σ H n) {i j:Nat}{ks:Option (List Key)}{ps:List (Addr×List PyData)}{p:Addr×List PyData}{ys:List PyData}{ws:List V}{a:Addr}(h:env[i]? = some (.own2 ks ps)) (hs:(σ[i]?).join=some (.ref a)) (hp:ps[j]? = some p) (r:Reps ex H ys ws) (hz:ws.length≤sizeLine) :
 At C ex (env.set i (.own2 ks (ps.set j (p.1,ys)))) σ (upd H p.1 (.lst ws)) n:=by
 obtain ⟨a',e',q⟩:=A.ev.sl i _ h
 rw [hs] at e'
 cases e'
 have hpm:=List.mem_of_getElem? hp
 have hmap:(ps.set j (p.1,ys)).map (·.1)=ps.map (·.1):=by
  rw [List.map_set]
  refine List.ext_getElem? fun k=>?_
  by_cases e:j=k
  · subst e
    rw [List.getElem?_set_self (by rw [List.length_map];exact (List.getElem?_eq_some_iff.mp hp).1),List.getElem?_map,hp];rfl
  · rw [List.getElem?_set_ne e]
 have hrefs:refs (ps.set j (p.1,ys))=refs ps:=by
  have e1:∀ l:List (Addr×List PyData),refs l=(l.map (·.1)).map V.ref:=fun l=>by unfold refs;rw [List.map_map];rfl
  rw [e1,e1,hmap]
 have ha:p.1∈ownAt env σ i:=by unfold ownAt;rw [h,hs];exact List.mem_cons_of_mem _ (List.mem_map.mpr ⟨p,hpm,rfl⟩)
 obtain ⟨h1,h2,h3⟩:=own_sl A.ev ha
 have h0:=A.new i p.1 ha
 have kx:Kp ex H (upd H p.1 (.lst ws)):=Kp.at h2 _
 have pa:a≠p.1:=fun z=>(List.nodup_cons.mp q.nd).1 (by rw [z];exact List.mem_map.mpr ⟨p,hpm,rfl⟩)
 have hn2:=(List.nodup_cons.mp q.nd).2
 refine ⟨⟨by rw [List.length_set];exact A.ev.len,fun k w e=>?_,A.ev.ch,fun b hb=>?_,C.S.keep A.ev.inv fun b hb o e=>by rw [upd_ne (fun z=>h3 (by rw [← z];exact hb))];exact e⟩,A.ex0,A.al0,fun k l b q1 q2=>?_,fun k b q=>?_,Kp.late A.kp h0 _,fun x hx=>(A.held x hx).keep kx⟩
 · by_cases hk:i=k
   · subst hk
     rw [List.getElem?_set_self (List.getElem?_eq_some_iff.mp h).1] at e
     cases e
     refine ⟨a,hs,⟨by rw [upd_ne pa,hrefs];exact q.h,by rw [List.length_set];exact q.z,fun l hl=>by rw [List.length_set];exact q.k l hl,by rw [hmap];exact q.nd,q.m,q.c,fun t ht=>?_⟩⟩
     rcases mem_set ht with rfl | ⟨k,hkj,hk⟩
     · exact ⟨h2,h3,ws,upd_same,hz,r.keep kx⟩
     · have w:=q.i t (List.mem_of_getElem? hk)
       have tp:t.1≠p.1:=nd_at hn2 (k:=k) (m:=j) (by rw [List.getElem?_map,hk];rfl) (by rw [List.getElem?_map,hp];rfl) hkj
       obtain ⟨us,g1,g2,g3⟩:=w.h
       exact ⟨w.m,w.c,us,by rw [upd_ne tp];exact g1,g2,g3.keep kx⟩
   · rw [List.getElem?_set_ne hk] at e
     exact SlR.upd h2 (fun b hb z=>hk (A.sep i k p.1 ha (by rw [own_one e,← z];exact hb))) (A.ev.sl k w e)
 · by_cases hb2:b=p.1
   · rw [hb2,upd_same];intro z;cases z
   · rw [upd_ne hb2];exact A.ev.al b hb
 · rw [own_same2 h hmap] at q1 q2;exact A.sep k l b q1 q2
 · rw [own_same2 h hmap] at q;exact A.new k b q
end
noncomputable def tSetComp2 (i:Nat) (wi:TI) (k:Nat) (idx:List Nat) (g:TG) (tt:TT) (te:TE):TS:=tSetComp i wi k idx g tt te
theorem as_set2 {X:Cx}{st:Stmt}{i:Nat}{wi:TI}{k:Nat}{idx:List Nat}{g:TG}{tt:TT}{te:TE}(h:PS X st (tSetComp i wi k idx g tt te)):PS X st (tSetComp2 i wi k idx g tt te):=h
noncomputable abbrev gSet2 (i:Nat) (g:GN2):GS:=fun G env n=>g env n fun xss n1=>∀ ps:List (Addr×List PyData),ps.map (·.2)=xss→G.nx (env.set i (.own2 none ps)) n1
noncomputable instance sv_set2 {i:Nat}{wi:TI}{k:Nat}{idx:List Nat}{g:TG}{tt:TT}{te:TE}{gn:GN2} [E:N2 (tComp wi k idx g tt te) gn]:SV (tSetComp2 i wi k idx g tt te) (gSet2 i gn):=⟨fun {C G D} O {ex env σ H n} A h=>
 show tComp wi k idx g tt te σ H (fun v H2=>D.nx (σ.set i (some v)) H2) from E.n2 A.ev h fun ps n1 a H1 h1 s1 ha hp q=>O.nx (A.own2 s1 ha hp q) (h1 ps rfl)⟩
noncomputable abbrev gSet2I (i:Nat) (gx gy ge:GE):GS:=fun G env n=>ge env n fun d n1=>match env[i]? with
 | some (.own2 none ps)=>gx env n1 fun x n2=>(match x with
  | .int x=>∃ m p,ixN ps.length x=some m∧ps[m]? = some p∧gy env n2 fun y n3=>(match y with
   | .int y=>∃ m',ixN p.2.length y=some m'∧G.nx (env.set i (.own2 none (ps.set m (p.1,p.2.set m' d)))) n3
   | _=>False)
  | _=>False)
 | _=>False
theorem at_refs {ps:List (Addr×List PyData)}{x:Int}{m:Nat}{p:Addr×List PyData}(h:ixN ps.length x=some m) (hp:ps[m]? = some p):atI (refs ps) x=some (V.ref p.1):=by
 unfold atI refs
 rw [List.length_map,h]
 show (ps.map fun p=>V.ref p.1)[m]? = _
 rw [List.getElem?_map,hp];rfl
noncomputable instance sv_set2I {K:PySem.W.Frag}{i:Nat}{te tx ty:TE}{ge gx gy:GE} [E:EV true te ge] [X:EV false tx gx] [Y:EV false ty gy]:SV (tAsg te (gSub (tOp (rIxL K) (tVar i) tx) ty rSetL)) (gSet2I i gx gy ge):=⟨fun {C G D} O {ex env σ H n} A h=>by
 refine E.ev A.ev h fun d n1 v H1 hd s1 r=>?_
 have A1:=A.step s1
 split at hd
 · rename_i ps e
   obtain ⟨a,ev,q⟩:=A1.ev.sl i _ e
   refine ⟨_,join_some ev,X.ev A1.ev hd fun x n2 xv H2 hx s2 rx=>?_⟩
   have A2:=A1.step s2
   cases rx with
   | int x=>
    obtain ⟨m,p,hm,hp,hy⟩:=hx
    obtain ⟨a2,ev2,q2⟩:=A2.ev.sl i _ e
    rw [ev] at ev2
    cases ev2
    refine ⟨a,refs ps,x,_,rfl,rfl,SqL.of q2.h,at_refs hm hp,Y.ev A2.ev hy fun y n3 yv H3 hy' s3 ry=>?_⟩
    have A3:=A2.step s3
    obtain ⟨a3,ev3,q3⟩:=A3.ev.sl i _ e
    rw [ev] at ev3
    cases ev3
    cases ry with
    | int y=>
     obtain ⟨m',hm',hq⟩:=hy'
     obtain ⟨vs,g1,g2,g3⟩:=(q3.i p (List.mem_of_getElem? hp)).h
     have l:=g3.length
     have r3:Rep ex H3 d v:=A2.ev.rep s3 (A1.ev.rep s2 r)
     exact ⟨p.1,vs,y,m',rfl,rfl,g1,by rw [← l];exact hm',O.nx (A3.re2 e ev hp (reps_set r3 m' g3) (by rw [List.length_set];exact g2)) hq⟩
    | none=>exact hy'.elim
    | bool=>exact hy'.elim
    | str=>exact hy'.elim
    | tuple=>exact hy'.elim
    | list=>exact hy'.elim
   | none=>exact hx.elim
   | bool=>exact hx.elim
   | str=>exact hx.elim
   | tuple=>exact hx.elim
   | list=>exact hx.elim
 · exact hd.elim⟩
section
variable {C:Cv}{ex:List Addr}{env:List Vl}{σ:L2.St}{H H':Hp}{n m:Nat}
theorem At.more (A:At C ex env σ H n) {b:Addr}(s:Step C.S m H H') (hb:H b=none) (h2:H' b≠none):At C (b::ex) env σ H' m:=by
 have hc:∀ c∈C.S.ch,c∈b::ex:=fun c h=>List.mem_cons_of_mem _ (A.ev.ch c h)
 refine ⟨⟨A.ev.len,fun j w e=>(SlR.add hb (A.ev.sl j w e)).kp hc s.1,hc,fun c hc=>?_,s.2⟩,fun c h=>List.mem_cons_of_mem _ (A.ex0 c h),A.al0,A.sep,A.new,A.kp.trans s.1,fun h hh=>(Rep.add hb (A.held h hh)).keep (s.1.mono hc)⟩
 rcases List.mem_cons.mp hc with rfl | hc
 · exact h2
 · exact A.ev.al.step s c hc
theorem refs_set {ps:List (Addr×List PyData)}{j:Nat}{b:Addr}{ds:List PyData}:refs (ps.set j (b,ds))=(refs ps).set j (.ref b):=by unfold refs;rw [List.map_set]
theorem nodup_set {l:List Addr}(h:l.Nodup) {b:Addr}(hb:b∉l) (j:Nat):(l.set j b).Nodup:=by
 induction l generalizing j with
 | nil=>simp
 | cons x xs ih=>
  have h1:=List.nodup_cons.mp h
  cases j with
  | zero=>exact List.nodup_cons.mpr ⟨fun z=>hb (List.mem_cons_of_mem _ z),h1.2⟩
  | succ j=>
   refine List.nodup_cons.mpr ⟨fun z=>?_,ih h1.2 (fun z=>hb (List.mem_cons_of_mem _ z)) j⟩
   rcases mem_set z with e | ⟨k,_,hk⟩
   · exact hb (by rw [← e];exact List.mem_cons_self)
   · exact h1.1 (List.mem_of_getElem? hk)
theorem At.row2 (A:At C ex env σ H n) {i j:Nat}{ps:List (Addr×List PyData)}{ds:List PyData}{vs:List V}{a b:Addr}(h:env[i]? = some (.own2 none ps)) (hs:(σ[i]?).join=some (.ref a)) (bm:b∈ex) (bc:b∉C.S.ch) (hb:H b=some (.lst vs)) (hz:vs.length≤sizeLine) (r:Reps ex H ds vs) (bo:∀ k,b∉ownAt env σ k) (b0:C.H0 b=none) :
 At C ex (env.set i (.own2 none (ps.set j (b,ds)))) σ (upd H a (.lst ((refs ps).set j (.ref b)))) n:=by
 obtain ⟨a',e',q⟩:=A.ev.sl i _ h
 rw [hs] at e'
 cases e'
 have oi:ownAt env σ i=a::ps.map (·.1):=by unfold ownAt;rw [h,hs]
 have ha:a∈ownAt env σ i:=by rw [oi];exact List.mem_cons_self
 have bi:=bo i
 rw [oi] at bi
 have ba:b≠a:=fun z=>bi (by rw [z];exact List.mem_cons_self)
 have bp:b∉ps.map (·.1):=fun z=>bi (List.mem_cons_of_mem _ z)
 have h0:=A.new i a ha
 have kx:Kp ex H (upd H a (.lst ((refs ps).set j (.ref b)))):=Kp.at q.m _
 have hmap:(ps.set j (b,ds)).map (·.1)=(ps.map (·.1)).set j b:=by rw [List.map_set]
 have nd2:=List.nodup_cons.mp q.nd
 have oo:∀ k c,c∈ownAt (env.set i (.own2 none (ps.set j (b,ds)))) σ k→c∈ownAt env σ k∨(c=b∧k=i):=fun k c hc=>by
  by_cases hk:i=k
  · subst hk
    have e2:ownAt (env.set i (.own2 none (ps.set j (b,ds)))) σ i=a::(ps.set j (b,ds)).map (·.1):=by unfold ownAt;rw [List.getElem?_set_self (List.getElem?_eq_some_iff.mp h).1,hs]
    rw [e2,hmap] at hc
    rw [oi]
    rcases List.mem_cons.mp hc with e | hc
    · exact .inl (by rw [e];exact List.mem_cons_self)
    · rcases mem_set hc with e | ⟨t,_,ht⟩
      · exact .inr ⟨e,rfl⟩
      · exact .inl (List.mem_cons_of_mem _ (List.mem_of_getElem? ht))
  · have e2:ownAt (env.set i (.own2 none (ps.set j (b,ds)))) σ k=ownAt env σ k:=by unfold ownAt;rw [List.getElem?_set_ne hk]
    rw [e2] at hc
    exact .inl hc
 refine ⟨⟨by rw [List.length_set];exact A.ev.len,fun k w e=>?_,A.ev.ch,fun c hc=>?_,C.S.keep A.ev.inv fun c hc o e=>by rw [upd_ne (fun z=>q.c (by rw [← z];exact hc))];exact e⟩,A.ex0,A.al0,fun k l c q1 q2=>?_,fun k c q=>?_,Kp.late A.kp h0 _,fun x hx=>(A.held x hx).keep kx⟩
 · by_cases hk:i=k
   · subst hk
     rw [List.getElem?_set_self (List.getElem?_eq_some_iff.mp h).1] at e
     cases e
     refine ⟨a,hs,⟨by rw [upd_same,refs_set];rfl,by rw [List.length_set];exact q.z,(fun l hl=>by cases hl),?_,q.m,q.c,fun t ht=>?_⟩⟩
     · rw [hmap]
       refine List.nodup_cons.mpr ⟨fun z=>?_,nodup_set nd2.2 bp j⟩
       rcases mem_set z with e | ⟨t,_,ht⟩
       · exact ba e.symm
       · exact nd2.1 (List.mem_of_getElem? ht)
     · rcases mem_set ht with rfl | ⟨k,_,hk⟩
       · exact ⟨bm,bc,vs,by rw [upd_ne ba];exact hb,hz,r.keep kx⟩
       · have w:=q.i t (List.mem_of_getElem? hk)
         have ta:t.1≠a:=fun z=>nd2.1 (by rw [← z];exact List.mem_map.mpr ⟨t,List.mem_of_getElem? hk,rfl⟩)
         obtain ⟨us,g1,g2,g3⟩:=w.h
         exact ⟨w.m,w.c,us,by rw [upd_ne ta];exact g1,g2,g3.keep kx⟩
   · rw [List.getElem?_set_ne hk] at e
     exact SlR.upd q.m (fun c hc z=>hk (A.sep i k a ha (by rw [own_one e,← z];exact hc))) (A.ev.sl k w e)
 · by_cases hc2:c=a
   · rw [hc2,upd_same];intro z;cases z
   · rw [upd_ne hc2];exact A.ev.al c hc
 · rcases oo k c q1 with h1 | ⟨rfl,rfl⟩
   · rcases oo l c q2 with h2 | ⟨rfl,rfl⟩
     · exact A.sep k l c h1 h2
     · exact absurd h1 (bo k)
   · rcases oo l c q2 with h2 | ⟨_,rfl⟩
     · exact absurd h2 (bo l)
     · rfl
 · rcases oo k c q with h1 | ⟨rfl,_⟩
   · exact A.new k c h1
   · exact b0
end
noncomputable def tAsgR2 (te:TE) (i:Nat) (tx:TE):TS:=tAsg te (gSub (tVar i) tx rSetL)
theorem as_row2 {X:Cx}{st:Stmt}{te tx:TE}{i:Nat}(h:PS X st (tAsg te (gSub (tVar i) tx rSetL))):PS X st (tAsgR2 te i tx):=h
noncomputable abbrev gSet2R (i:Nat) (gx:GE) (gn:GN):GS:=fun G env n=>gn env n fun ds n1=>match env[i]? with
 | some (.own2 none ps)=>gx env n1 fun x n2=>(match x with
  | .int x=>∃ j,ixN ps.length x=some j∧∀ b:Addr,G.nx (env.set i (.own2 none (ps.set j (b,ds)))) n2
  | _=>False)
 | _=>False
noncomputable instance sv_set2R {i:Nat}{te tx:TE}{gn:GN}{gx:GE} [E:NV te gn] [X:EV false tx gx]:SV (tAsgR2 te i tx) (gSet2R i gx gn):=⟨fun {C G D} O {ex env σ H n} A h=>by
 refine E.nv A.ev h fun ds n1 b vs H1 hd s1 hb hl hz r=>?_
 have A1:=A.more s1 hb (by rw [hl];exact Option.some_ne_none _)
 split at hd
 · rename_i ps e
   obtain ⟨a,ev,q⟩:=A1.ev.sl i _ e
   refine ⟨_,join_some ev,X.ev A1.ev hd fun x n2 xv H2 hx s2 rx=>?_⟩
   have A2:=A1.step s2
   have bc:b∉C.S.ch:=fun z=>C.S.dom A.ev.inv b z hb
   cases rx with
   | int x=>
    obtain ⟨j,hj,hq⟩:=hx
    obtain ⟨a2,ev2,q2⟩:=A2.ev.sl i _ e
    rw [ev] at ev2
    cases ev2
    refine ⟨a,refs ps,x,j,rfl,rfl,q2.h,by unfold refs;rw [List.length_map];exact hj,?_⟩
    exact O.nx (A2.row2 e ev List.mem_cons_self bc (s2.1 _ _ hl bc) hz (A1.ev.reps s2 r) (fun k z=>(own_sl A.ev z).1 hb) (A.free hb)) (hq b)
   | none=>exact hx.elim
   | bool=>exact hx.elim
   | str=>exact hx.elim
   | tuple=>exact hx.elim
   | list=>exact hx.elim
 · exact hd.elim⟩
theorem scal_reps {ex:List Addr}{H:Hp}:∀ {ds:List PyData}{vs:List V},ds.all scalD=true→Reps ex H ds vs→∀ ex',Reps ex' H ds vs
 | _,_,_,.nil,_=>.nil
 | d::ds,_,h,.cons r rs,ex'=>by
  rw [List.all_cons,Bool.and_eq_true] at h
  exact .cons (scal_rep h.1 r ex') (scal_reps h.2 rs ex')
noncomputable def iZip2 (K:PySem.W.Frag) (ta:TA):TI:=iZip K ta
theorem as_zip2 {X:Cx}{tg e:Expr}{K:PySem.W.Frag}{ta:TA}(h:PI X tg e (iZip K ta)):PI X tg e (iZip2 K ta):=h
noncomputable abbrev gZip2 (t:GN):GN:=fun env n Q=>t env n fun ds n1=>∃ d e xs ys,ds=[d,e]∧seqD d=some xs∧seqD e=some ys∧(xs.all scalD=true∧ys.all scalD=true)∧Q (zipD xs ys) n1
noncomputable instance ic_zip2 {K:PySem.W.Frag}{t:TA}{gt:GN} [A:DV false t gt]:IC (iZip2 K t) (gZip2 gt):=⟨fun {S ex env σ H n R P} E h k=>A.dv E h fun ds n1 vs H1 h1 s1 r1=>by
 obtain ⟨d,e,xs,ys,rfl,hs,hs',⟨c1,c2⟩,q⟩:=h1
 cases r1 with
 | cons r1 t=>
  cases t with
  | cons r2 t=>
   cases t
   obtain ⟨c,a,ws,rfl,hq,rs,hc,na⟩:=rep_seq r1 hs
   obtain ⟨c',a',ws',rfl,hq',rs',hc',na'⟩:=rep_seq r2 hs'
   refine ⟨c,c',a,a',ws,ws',rfl,hq K,hq' K,k _ _ _ _ q s1 fun l H2 hl kp al=>?_⟩
   have w1:=(Rep.add hl r1).keep kp
   have w2:=(Rep.add hl r2).keep kp
   obtain ⟨v1,h3,h4⟩:=rep_seqc hs hc r1 _ H2 w1
   obtain ⟨v2,h5,h6⟩:=rep_seqc hs' hc' r2 _ H2 w2
   exact it_zip al (h3 K) (scal_reps c1 h4 _) (h5 K) (scal_reps c2 h6 _)⟩
noncomputable def rowB (R:Nat) (f:Nat→Nat→Bool) (a:Nat):List PyData:=(List.range R).map fun b=>.bool (f a b)
noncomputable def matB (R:Nat) (f:Nat→Nat→Bool):List (List PyData):=(List.range R).map (rowB R f)
section
variable {R a x y:Nat}{f g:Nat→Nat→Bool}
theorem rowB_len:(rowB R f a).length=R:=by unfold rowB;rw [List.length_map,List.length_range]
theorem matB_len:(matB R f).length=R:=by unfold matB;rw [List.length_map,List.length_range]
theorem rowB_get (h:y<R):(rowB R f a)[y]? = some (.bool (f a y)):=by
 unfold rowB;rw [List.getElem?_map,List.getElem?_range h];rfl
theorem matB_get (h:x<R):(matB R f)[x]? = some (rowB R f x):=by
 unfold matB;rw [List.getElem?_map,List.getElem?_range h];rfl
theorem rowB_congr (h:∀ b,b<R→f a b=g x b):rowB R f a=rowB R g x:=by
 unfold rowB
 exact List.map_congr_left fun b hb=>by rw [h b (List.mem_range.mp hb)]
theorem matB_congr (h:∀ a,a<R→∀ b,b<R→f a b=g a b):matB R f=matB R g:=by
 unfold matB
 exact List.map_congr_left fun a ha=>rowB_congr (h a (List.mem_range.mp ha))
theorem matB_set (hx:x<R) (h2:∀ a,a<R→a≠x→∀ b,b<R→g a b=f a b) {r:List PyData}(hr:r=rowB R g x):(matB R f).set x r=matB R g:=by
 apply List.ext_getElem?
 intro i
 by_cases hi:x=i
 · subst hi
   rw [List.getElem?_set_self (by rw [matB_len];exact hx),matB_get hx,hr]
 · rw [List.getElem?_set_ne hi]
   by_cases hl:i<R
   · rw [matB_get hl,matB_get hl,rowB_congr fun b hb=>(h2 i hl (fun z=>hi z.symm) b hb).symm]
   · rw [List.getElem?_eq_none (by rw [matB_len];omega),List.getElem?_eq_none (by rw [matB_len];omega)]
theorem rowB_set (hy:y<R) {v:Bool}(h1:g a y=v) (h2:∀ b,b<R→b≠y→g a b=f a b):(rowB R f a).set y (.bool v)=rowB R g a:=by
 apply List.ext_getElem?
 intro i
 by_cases hi:y=i
 · subst hi
   rw [List.getElem?_set_self (by rw [rowB_len];exact hy),rowB_get hy,h1]
 · rw [List.getElem?_set_ne hi]
   by_cases hl:i<R
   · rw [rowB_get hl,rowB_get hl,h2 i hl fun z=>hi z.symm]
   · rw [List.getElem?_eq_none (by rw [rowB_len];omega),List.getElem?_eq_none (by rw [rowB_len];omega)]
theorem rowB_scal:(rowB R f a).all scalD=true:=by
 unfold rowB
 rw [List.all_eq_true]
 intro x hx
 obtain ⟨b,_,rfl⟩:=List.mem_map.mp hx
 rfl
theorem rowB_or:(zipD (rowB R f a) (rowB R f x))=(List.range R).map fun b=>.tuple [.bool (f a b),.bool (f x b)]:=by
 unfold zipD rowB
 rw [List.zipWith_map_left,List.zipWith_map_right,List.zipWith_self]
end
theorem rows_get {ps:List (Addr×List PyData)}{m:List (List PyData)}(h:ps.map (·.2)=m) {x:Nat}{r:List PyData}(hr:m[x]? = some r):∃ p,ps[x]? = some p∧p.2=r:=by
 subst h
 rw [List.getElem?_map] at hr
 exact Option.map_eq_some_iff.mp hr
theorem rows_len {ps:List (Addr×List PyData)}{m:List (List PyData)}(h:ps.map (·.2)=m):ps.length=m.length:=by rw [← h,List.length_map]
theorem rows_set {ps:List (Addr×List PyData)}{m m':List (List PyData)}(h:ps.map (·.2)=m) {x:Nat}{b:Addr}{r:List PyData}(hr:m.set x r=m'):(ps.set x (b,r)).map (·.2)=m':=by rw [List.map_set,h];exact hr
theorem rows_at {ps:List (Addr×List PyData)}{R:Nat}{f:Nat→Nat→Bool}(h:ps.map (·.2)=matB R f) {x:Int}(h0:0≤x) (h1:x<R):atI (ps.map fun p=>PyData.list p.2) x=some (.list (rowB R f x.toNat)):=by
 have hx:x.toNat<R:=by omega
 obtain ⟨p,hp,e⟩:=rows_get h (matB_get (f:=f) hx)
 unfold atI
 rw [List.length_map,ixN_of h0 (by rw [rows_len h,matB_len];exact h1)]
 show (ps.map fun p=>PyData.list p.2)[x.toNat]? = _
 rw [List.getElem?_map,hp,← e];rfl
theorem row_at {R a:Nat}{f:Nat→Nat→Bool}{y:Int}(h0:0≤y) (h1:y<R):atI (rowB R f a) y=some (.bool (f a y.toNat)):=by
 unfold atI
 rw [rowB_len,ixN_of h0 h1]
 exact rowB_get (by omega)
theorem cmp2_rng {turn:PyData→Nat→(List PyData→Nat→Prop)→Prop}{n:Nat}(f:Nat→List PyData) {e:Nat→PyData}:∀ (l:List Nat) {Q:List (List PyData)→Nat→Prop},(∀ i∈l,∀ K:List PyData→Nat→Prop,K (f i) n→turn (e i) n K)→Q (l.map f) n→cmp2 turn (l.map e) n Q
 | [],_,_,q=>q
 | i::l,Q,h,q=>by
  show turn (e i) n _
  exact h i List.mem_cons_self _ (cmp2_rng f l (fun j hj=>h j (List.mem_cons_of_mem _ hj)) q)
noncomputable def esOf (ws:List Way) (ks:List Int):List (Nat×Nat):=ks.map fun k=>((wayAt ws k).a.toNat,(wayAt ws k).b.toNat)
noncomputable def pw0 (es:List (Nat×Nat)) (a b:Nat):Bool:=decide (a=b)||decide ((a,b)∈es)
noncomputable def pwR (es:List (Nat×Nat)) (m r a b:Nat):Bool:=if a<r then Pw es (m+1) a b else Pw es m a b
theorem pwR_mid {es:List (Nat×Nat)}{m r b:Nat}:pwR es m r m b=Pw es m m b:=by
 unfold pwR
 split
 · rw [Pw]
   cases Pw es m m b<;>simp
 · rfl
theorem pw0_add {es:List (Nat×Nat)}{a b x y:Nat}:pw0 (es++[(a,b)]) x y=(pw0 es x y||decide (x=a∧y=b)):=by
 unfold pw0
 rw [Bool.or_assoc]
 congr 1
 rw [← Bool.decide_or]
 exact decide_eq_decide.mpr (by rw [List.mem_append,List.mem_singleton,Prod.mk.injEq])
theorem mat_add {R a b:Nat}{es:List (Nat×Nat)}(ha:a<R) (hb:b<R):(matB R (pw0 es)).set a ((rowB R (pw0 es) a).set b (.bool true))=matB R (pw0 (es++[(a,b)])):=by
 refine matB_set ha (fun x _ hx y _=>?_) (rowB_set hb ?_ fun y _ hy=>?_)
 · rw [pw0_add,decide_eq_false fun z=>hx z.1,Bool.or_false]
 · rw [pw0_add,decide_eq_true ⟨rfl,rfl⟩,Bool.or_true]
 · rw [pw0_add,decide_eq_false fun z=>hy z.2,Bool.or_false]
theorem pwR_self {es:List (Nat×Nat)}{m r b:Nat}:pwR es m r r b=Pw es m r b:=if_neg (Nat.lt_irrefl r)
theorem mat_row {R m r:Nat}{es:List (Nat×Nat)}(hr:r<R) (h:Pw es m r m=true):(matB R (pwR es m r)).set r ((List.range R).map fun b=>.bool (pwR es m r r b||pwR es m r m b))=matB R (pwR es m (r+1)):=by
 refine matB_set hr (fun x _ hx y _=>?_) ?_
 · unfold pwR
   by_cases c:x<r
   · rw [if_pos c,if_pos (by omega)]
   · rw [if_neg c,if_neg (by omega)]
 · unfold rowB
   refine List.map_congr_left fun b _=>?_
   rw [pwR_self,pwR_mid,pwR,if_pos (by omega),Pw,h,Bool.true_and]
theorem mat_no {R m r:Nat}{es:List (Nat×Nat)}(h:Pw es m r m=false):matB R (pwR es m r)=matB R (pwR es m (r+1)):=by
 refine matB_congr fun x _ y _=>?_
 unfold pwR
 by_cases c:x<r
 · rw [if_pos c,if_pos (by omega)]
 · rw [if_neg c]
   by_cases e:x=r
   · subst e
     rw [if_pos (by omega),Pw,h,Bool.false_and,Bool.or_false]
   · rw [if_neg (by omega)]
theorem pwR_0 {es:List (Nat×Nat)}{m:Nat}:pwR es m 0=Pw es m:=by
 funext a b
 exact if_neg (Nat.not_lt_zero a)
theorem pwR_all {R m:Nat}{es:List (Nat×Nat)}:matB R (pwR es m R)=matB R (Pw es (m+1)):=matB_congr fun _ hx _ _=>if_pos hx
theorem pw0_Pw {es:List (Nat×Nat)}:pw0 es=Pw es 0:=by
 funext a b
 rw [Pw];rfl
theorem rng_at0 {k i:Nat}{x:PyData}(h:(rngD 0 k)[i]? = some x):i<k∧x = .int (i:Int):=by
 unfold rngD at h
 rw [List.getElem?_map] at h
 obtain ⟨j,hj,rfl⟩:=Option.map_eq_some_iff.mp h
 obtain ⟨hi,e⟩:=List.getElem?_eq_some_iff.mp hj
 rw [List.getElem_range] at e
 subst e
 rw [List.length_range] at hi
 exact ⟨hi,by rw [Int.zero_add]⟩
noncomputable def leadsD (R:Nat) (es:List (Nat×Nat)):PyData:=.list ((matB R (Pw es R)).map .list)
noncomputable def gsReach:GSp:=fun as n Q=>∃ (R U:Int) (ws:List Way) (ks:List Int),as=[.d (bookPD R U ws),.d (.list (ks.map .int))]∧BookOk R U ws∧(∀ k∈ks,0≤k∧k<ws.length)∧Q (leadsD R.toNat (esOf ws ks)) n
theorem leads_of {ps:List (Addr×List PyData)}{R:Nat}{es:List (Nat×Nat)}(h:ps.map (·.2)=matB R (Pw es R)):PyData.list (ps.map fun p=>.list p.2)=leadsD R es:=by
 unfold leadsD
 rw [← h,List.map_map];rfl
theorem esOf_take {ws:List Way}{ks:List Int}{i:Nat}{k:Int}(h:ks[i]? = some k):esOf ws (ks.take (i+1))=esOf ws (ks.take i)++[((wayAt ws k).a.toNat,(wayAt ws k).b.toNat)]:=by
 unfold esOf
 rw [List.take_add_one,h,List.map_append];rfl
section
variable {X:Cx}{pins:List (Addr×Obj)}{σ:L2.St}{H:Hp}{s:Shared}{a:Addr}{kvs:List (Key×V)}{k:Key}{u:Value}{A:Around}{E:Value→Shared→Prop}
theorem d_setdef {r:Value}{z:V}{Q:Value→Shared→Prop}(I:Inv X pins σ H s) (e:H a=some (.dK kvs)) (hl:kvs.length<sizeLine) (ry:RelV (kV k) u) (rz:RelV z r)
 (h1:∀ v w' s',valV kvs k=some v→Inv X pins σ H s'→RelV v w'→Q w' s') (h2:valV kvs k=none→∀ s',Inv X pins σ (upd H a (.dK (putK kvs k z))) s'→Q r s') :
 wpAny (model X.prog X.w) A (call (.builtin "dict.setdefault") [.ref a,u,r]) Q E s:=by
 obtain ⟨zz,hd,vs,rel,dd⟩:=dk_of I.hok e
 refine call_meetsIn PySem.F.slot_dict_setdefault dd.typeIs PySem.F.entry_dict_setdefault (PySem.F.args_dict_setdefault_3 _ _ _) (kt_meets_setdefault (mixKind X.prog X.w) a (kV_is ry) hd r) ⟨vs,dd,by rw [← rel.length];exact zz,fun w' hw=>?_,fun hn h' dd' hs=>?_⟩
 · cases l:valV kvs k with
   | none=>
    have:=RelO.none_of (o:=valueAt vs k) (by rw [← l];exact rel.val k)
    rw [this] at hw
    cases hw
   | some v=>
    obtain ⟨w2,e2,r2⟩:=RelO.some_of (v:=v) (o:=valueAt vs k) (by rw [← l];exact rel.val k)
    rw [e2] at hw
    cases hw
    exact h1 v _ _ l (I.tok _) r2
 · cases l:valV kvs k with
   | some v=>
    obtain ⟨w2,e2,r2⟩:=RelO.some_of (v:=v) (o:=valueAt vs k) (by rw [← l];exact rel.val k)
    rw [e2] at hn
    cases hn
   | none=>
    refine h2 l _ ?_
    have he:∃ q,h'.get? a=some q:=let ⟨q,_,_,hq,_⟩:=dd';⟨q,hq⟩
    have hl':(putK kvs k z).length≤sizeLine:=by have:=length_putK kvs k z;omega
    exact d_write I (by rw [e];exact True.intro) hs he (dk_new hl' hd (rel.put k rz) dd')
end
noncomputable def tDSetd (td ty tx:TE):TE:=fun σ H Q=>td σ H fun x H1=>∃ a,x = .ref a∧IsD H1 a∧ty σ H1 fun y H2=>tx σ H2 fun z H3=>∃ kvs k,H3 a=some (.dK kvs)∧y=kV k∧kvs.length<sizeLine ∧
 (∀ v,valV kvs k=some v→Q v H3)∧(valV kvs k=none→Q z (upd H3 a (.dK (putK kvs k z))))
noncomputable def tDVals (td:TE):TE:=fun σ H Q=>td σ H fun x H1=>∃ a kvs,x = .ref a∧H1 a=some (.dK kvs)∧∀ p,H1 p=none→Q (.ref p) (upd H1 p (.lst (kvs.map (·.2))))
theorem kv_vals:∀ {kvs:List (Key×V)}{vs:List (Key×Value)},KV kvs vs→Vals (kvs.map (·.2)) (vs.map (·.2)):=by
 intro kvs vs r
 unfold KV at r
 induction r with
 | nil=>exact .nil
 | cons h _ ih=>exact .cons h.2 ih
section
variable {X:Cx}{o e f:Expr}{apos cpos p pos:Pos}{td ty tx:TE}
theorem pe_dsetd (ho:PE X o td) (he:PE X e ty) (hf:PE X f tx) (m:M2 X o "setdefault" apos e f cpos):PE X (.Call (.Attribute o "setdefault" apos) [e,f] [] cpos) (tDSetd td ty tx):=by
 intro pins s σ H Q I h
 refine wpAny_Call_method m.base m.few m.line PySem.F.plainAttrs_dict PySem.F.slot_dict_setdefault PySem.F.type_dict_setdefault (thn (ho pins s σ H _ I h) fun u s1 ⟨x,H1,I1,rx,a,ex,d,q1⟩=>?_)
 subst ex
 obtain rfl:u=Value.ref a:=rx
 obtain ⟨t1,t2,_⟩:=isD_at I1 d
 refine ⟨t1,t2,?_⟩
 rw [m.trees]
 refine Calls.callWith_builtin rfl (Calls.evalArgs_plain (Calls.spliced_cons (thn (he pins s1 σ H1 _ I1 q1) fun iv s2 ⟨y,H2,I2,ry,q2⟩=>
  Calls.spliced_cons (thn (hf pins s2 σ H2 _ I2 q2) fun fv s3 ⟨z,H3,I3,rz,kvs,k,ea,ey,hl,q3,q4⟩=>Calls.spliced_nil ?_))))
 subst ey
 exact d_setdef I3 ea hl ry rz (fun v w' s4 l I4 rw'=>⟨v,H3,I4,rw',q3 v l⟩) fun l s4 I4=>⟨z,_,I4,rz,q4 l⟩
theorem pe_dvals (hh:X.A.handled=none) (hg:Gl X "list") (hm:X.mg "list" = none) (ho:PE X o td)
 (hbase:attributeBase o "values" X.env (eval o X.env)=eval o X.env:=by rfl) (hline:(apos.endLine==cpos.line)=true:=by rfl)
 (he:starEach [.Call (.Attribute o "values" apos) [] [] cpos] X.env=[(false,eval (.Call (.Attribute o "values" apos) [] [] cpos) X.env)]:=by rfl)
 (ht:backTo pos (starEach [.Call (.Attribute o "values" apos) [] [] cpos] X.env)=[(false,eval (.Call (.Attribute o "values" apos) [] [] cpos) X.env)]:=by rfl) :
 PE X (.Call (.Name "list" p) [.Call (.Attribute o "values" apos) [] [] cpos] [] pos) (tDVals td):=by
 intro pins s σ H Q I h
 refine wpAny_Call_Name_kw (ld_blt I hg hm boot_list ?_ (by decide) (by decide))
 refine PyProof.Rows.callWith_type1 ?_ he rfl
 rw [ht]
 refine Calls.spliced_cons (wpAny_Call_method0_late hbase hline (thn (ho pins s σ H _ I h) fun v s1 ⟨x,H1,I1,r1,a,kvs,ex,ea,q1⟩=>?_))
 subst ex
 obtain rfl:v=Value.ref a:=r1
 obtain ⟨t1,t2,hd⟩:=isD_at I1 (.inl ⟨kvs,.inl ea⟩)
 obtain ⟨z,_,vs,rel,dd⟩:=dk_of I1.hok ea
 refine ⟨"dict","dict.values",PySem.F.plainAttrs_dict,PySem.F.slot_dict_values,PySem.F.type_dict_values,t1,t2,Calls.callWith_builtin rfl (PySem.evalArgs_none ?_)⟩
 refine call_meetsIn PySem.F.slot_dict_values dd.typeIs PySem.F.entry_dict_values (PySem.F.args_dict_values_1 _) (meets_dict_values (mixKind X.prog X.w) a hd) ⟨⟨vs,dd⟩,?_⟩
 refine Calls.spliced_nil ?_
 obtain ⟨ep,hat⟩:=dd.dictAt
 refine PySem.W.kdl_call (PySem.W.kdl_values (knd:=mixKind X.prog X.w) (kvs:=vs) (ep:=ep)) hh ⟨⟨_,Heap.get?_push_size _ rfl,rfl,rfl⟩,hat.push _⟩ (by rw [← rel.length];exact z) fun h' tk acc' c' hk hD hacc=>?_
 have ev:=PySem.W.kdl_vals_eq acc'.toList (by rw [Array.length_toList];exact hacc.1) fun j v e=>hacc.2 j v (by rw [← Array.getElem?_toList];exact e)
 have hsz:s1.heap.objs.size≤(s1.heap.push { cls:=.type "dict_values",data:=.fields #[.ref a] }).objs.size:=by
  show s1.heap.objs.size≤(s1.heap.objs.push _).size
  rw [Array.size_push];omega
 exact ⟨.ref _,_,I1.laid (t':=tk) (fun b o' q=>hk b o' (Heap.get?_push_of_some _ q)) hsz (show ObjOk X.prog X.w _ h' _ (.lst (kvs.map (·.2))) from ⟨by rw [List.length_map];exact z,acc'.toList,c',by rw [ev];exact kv_vals rel,by rw [Array.toArray_toList];exact hD⟩),rfl,q1 _ (I1.hok.fresh hsz)⟩
end
theorem refs_len {ps:List (Addr×List PyData)}:(refs ps).length=ps.length:=by unfold refs;rw [List.length_map]
theorem refs_app {ps qs:List (Addr×List PyData)}:refs (ps++qs)=refs ps++refs qs:=by unfold refs;rw [List.map_append]
theorem zip_any {ks:List Key}{vs:List V}{k:Key}(h:k∉ks):((ks.zip vs).any fun kv=>decide (kv.1=k))=false:=by
 rw [List.any_eq_false]
 intro x hx e
 exact h (of_decide_eq_true e▸(List.of_mem_zip (show (x.1,x.2)∈ks.zip vs from hx)).1)
theorem put_new {ks:List Key}{ps:List (Addr×List PyData)}{k:Key}{b:Addr}{ds:List PyData}(hl:ks.length=ps.length) (h:k∉ks):putK (ks.zip (refs ps)) k (.ref b)=(ks++[k]).zip (refs (ps++[(b,ds)])):=by
 unfold putK
 rw [if_neg (by rw [zip_any h];exact Bool.false_ne_true),refs_app,List.zip_append (by rw [refs_len,hl])]
 rfl
theorem val_zip:∀ {ks:List Key}{ps:List (Addr×List PyData)}{k:Key}{v:V},valV (ks.zip (refs ps)) k=some v→∃ (m:Nat) (p:Addr×List PyData),ks[m]? = some k∧ps[m]? = some p∧v = .ref p.1
 | [],ps,k,v,h=>by rw [List.zip_nil_left] at h;cases h
 | c::ks,[],k,v,h=>by cases h
 | c::ks,q::ps,k,v,h=>by
  by_cases e:c=k
  · rw [show ((c::ks).zip (refs (q::ps)))=(c,V.ref q.1)::ks.zip (refs ps) from rfl,valV_pos (show (c,V.ref q.1).1=k from e)] at h
    cases h
    exact ⟨0,q,by rw [← e];rfl,rfl,rfl⟩
  · rw [show ((c::ks).zip (refs (q::ps)))=(c,V.ref q.1)::ks.zip (refs ps) from rfl,valV_neg (show ¬ (c,V.ref q.1).1=k from e)] at h
    obtain ⟨m,p,h1,h2,h3⟩:=val_zip h
    exact ⟨m+1,p,h1,h2,h3⟩
theorem val_none:∀ {ks:List Key}{ps:List (Addr×List PyData)}{k:Key},ks.length=ps.length→valV (ks.zip (refs ps)) k=none→k∉ks
 | [],_,_,_,_,h=>by cases h
 | c::ks,[],k,hl,_,_=>by cases hl
 | c::ks,q::ps,k,hl,h,hm=>by
  rw [show ((c::ks).zip (refs (q::ps)))=(c,V.ref q.1)::ks.zip (refs ps) from rfl] at h
  by_cases e:c=k
  · rw [valV_pos (show (c,V.ref q.1).1=k from e)] at h
    cases h
  · rw [valV_neg (show ¬ (c,V.ref q.1).1=k from e)] at h
    rcases List.mem_cons.mp hm with z | hm
    · exact e z.symm
    · exact val_none (Nat.succ.inj hl) h hm
section
variable {C:Cv}{ex:List Addr}{env:List Vl}{σ:L2.St}{H H':Hp}{n m:Nat}
theorem At.add2 (A:At C ex env σ H n) {i:Nat}{ks:List Key}{k:Key}{ps:List (Addr×List PyData)}{ds:List PyData}{vs:List V}{a b:Addr}(h:env[i]? = some (.own2 (some ks) ps)) (hs:(σ[i]?).join=some (.ref a)) (hk:k∉ks) (hz1:ps.length<1000000) (bm:b∈ex) (bc:b∉C.S.ch) (hb:H b=some (.lst vs)) (hz:vs.length≤sizeLine) (r:Reps ex H ds vs) (bo:∀ k,b∉ownAt env σ k) (b0:C.H0 b=none) :
 At C ex (env.set i (.own2 (some (ks++[k])) (ps++[(b,ds)]))) σ (upd H a (.dK (putK (ks.zip (refs ps)) k (.ref b)))) n:=by
 obtain ⟨a',e',q⟩:=A.ev.sl i _ h
 rw [hs] at e'
 cases e'
 have oi:ownAt env σ i=a::ps.map (·.1):=by unfold ownAt;rw [h,hs]
 have ha:a∈ownAt env σ i:=by rw [oi];exact List.mem_cons_self
 have bi:=bo i
 rw [oi] at bi
 have ba:b≠a:=fun z=>bi (by rw [z];exact List.mem_cons_self)
 have bp:b∉ps.map (·.1):=fun z=>bi (List.mem_cons_of_mem _ z)
 have h0:=A.new i a ha
 have kx:Kp ex H (upd H a (.dK (putK (ks.zip (refs ps)) k (.ref b)))):=Kp.at q.m _
 have hmap:(ps++[(b,ds)]).map (·.1)=ps.map (·.1)++[b]:=by rw [List.map_append];rfl
 have nd2:=List.nodup_cons.mp q.nd
 have oo:∀ k' c,c∈ownAt (env.set i (.own2 (some (ks++[k])) (ps++[(b,ds)]))) σ k'→c∈ownAt env σ k'∨(c=b∧k'=i):=fun k' c hc=>by
  by_cases hk:i=k'
  · subst hk
    have e2:ownAt (env.set i (.own2 (some (ks++[k])) (ps++[(b,ds)]))) σ i=a::(ps++[(b,ds)]).map (·.1):=by unfold ownAt;rw [List.getElem?_set_self (List.getElem?_eq_some_iff.mp h).1,hs]
    rw [e2,hmap] at hc
    rw [oi]
    rcases List.mem_cons.mp hc with e | hc
    · exact .inl (by rw [e];exact List.mem_cons_self)
    · rcases List.mem_append.mp hc with hc | hc
      · exact .inl (List.mem_cons_of_mem _ hc)
      · exact .inr ⟨List.mem_singleton.mp hc,rfl⟩
  · have e2:ownAt (env.set i (.own2 (some (ks++[k])) (ps++[(b,ds)]))) σ k'=ownAt env σ k':=by unfold ownAt;rw [List.getElem?_set_ne hk]
    rw [e2] at hc
    exact .inl hc
 refine ⟨⟨by rw [List.length_set];exact A.ev.len,fun k' w e=>?_,A.ev.ch,fun c hc=>?_,C.S.keep A.ev.inv fun c hc o e=>by rw [upd_ne (fun z=>q.c (by rw [← z];exact hc))];exact e⟩,A.ex0,A.al0,fun k' l c q1 q2=>?_,fun k' c q=>?_,Kp.late A.kp h0 _,fun x hx=>(A.held x hx).keep kx⟩
 · by_cases hk':i=k'
   · subst hk'
     rw [List.getElem?_set_self (List.getElem?_eq_some_iff.mp h).1] at e
     cases e
     refine ⟨a,hs,⟨by rw [upd_same,put_new (ds:=ds) (q.k ks rfl) hk];rfl,by rw [List.length_append,List.length_singleton];omega,(fun l hl=>by cases hl;rw [List.length_append,List.length_append,q.k ks rfl];rfl),?_,q.m,q.c,fun t ht=>?_⟩⟩
     · rw [hmap]
       refine List.nodup_cons.mpr ⟨fun z=>?_,?_⟩
       · rcases List.mem_append.mp z with z | z
         · exact nd2.1 z
         · exact ba (List.mem_singleton.mp z).symm
       · rw [List.nodup_append]
         refine ⟨nd2.2,by simp,fun x hx y hy=>?_⟩
         rw [List.mem_singleton] at hy
         rintro rfl
         exact bp (hy▸hx)
     · rcases List.mem_append.mp ht with ht | ht
       · have w:=q.i t ht
         have ta:t.1≠a:=fun z=>nd2.1 (by rw [← z];exact List.mem_map.mpr ⟨t,ht,rfl⟩)
         obtain ⟨us,g1,g2,g3⟩:=w.h
         exact ⟨w.m,w.c,us,by rw [upd_ne ta];exact g1,g2,g3.keep kx⟩
       · rw [List.mem_singleton] at ht
         subst ht
         exact ⟨bm,bc,vs,by rw [upd_ne ba];exact hb,hz,r.keep kx⟩
   · rw [List.getElem?_set_ne hk'] at e
     exact SlR.upd q.m (fun c hc z=>hk' (A.sep i k' a ha (by rw [own_one e,← z];exact hc))) (A.ev.sl k' w e)
 · by_cases hc2:c=a
   · rw [hc2,upd_same];intro z;cases z
   · rw [upd_ne hc2];exact A.ev.al c hc
 · rcases oo k' c q1 with h1 | ⟨rfl,rfl⟩
   · rcases oo l c q2 with h2 | ⟨rfl,rfl⟩
     · exact A.sep k' l c h1 h2
     · exact absurd h1 (bo k')
   · rcases oo l c q2 with h2 | ⟨_,rfl⟩
     · exact absurd h2 (bo l)
     · rfl
 · rcases oo k' c q with h1 | ⟨rfl,_⟩
   · exact A.new k' c h1
   · exact b0
end
noncomputable def tSetD2 (i:Nat):TS:=tAsg tDNewK (gName i)
theorem as_dnew2 {X:Cx}{st:Stmt}{i:Nat}(h:PS X st (tAsg tDNewK (gName i))):PS X st (tSetD2 i):=h
noncomputable abbrev gDNew2 (i:Nat):GS:=fun G env n=>G.nx (env.set i (.own2 (some []) [])) n
noncomputable instance sv_dnew2 {i:Nat}:SV (tSetD2 i) (gDNew2 i):=⟨fun {C G D} O {ex env σ H n} A h=>by
 intro p hp
 refine O.nx (A.own2 (ks:=some []) (ps:=[]) (m:=n) (H':=upd H p (.dK [])) ⟨Kp.new hp _,C.S.keep A.ev.inv fun b _ o e=>Kp.new (ex:=[]) hp _ _ _ e (by simp)⟩ hp (fun q hq=>by cases hq) ⟨by rw [upd_same];rfl,Nat.zero_le _,(fun l hl=>by cases hl;rfl),by simp,List.mem_cons_self,fun z=>C.S.dom A.ev.inv p z hp,fun q hq=>by cases hq⟩) h⟩
noncomputable abbrev gSetd (i:Nat) (gy:GE) (gx:GN) (ge:GE):GS:=fun G env n=>match env[i]? with
 | some (.own2 (some ks) ps)=>gy env n fun y n1=>(match y with
  | .int j=>gx env n1 fun ds n2=>ds=[]∧(Sum.inl j∈ks→ge env n2 fun d n3=>∀ m p,ks[m]? = some (Sum.inl j)→ps[m]? = some p→p.2.length<sizeLine∧G.nx (env.set i (.own2 (some ks) (ps.set m (p.1,p.2++[d])))) n3) ∧
   (Sum.inl j∉ks→ps.length<1000000∧∀ b,ge (env.set i (.own2 (some (ks++[Sum.inl j])) (ps++[(b,[])]))) n2 fun d n3=>G.nx (env.set i (.own2 (some (ks++[Sum.inl j])) (ps++[(b,[d])]))) n3)
  | _=>False)
 | _=>False
noncomputable instance sv_setd {K:PySem.W.Frag}{i:Nat}{ty tx te:TE}{gy ge:GE}{gx:GN} [Y:EV false ty gy] [N:NV tx gx] [E:EV true te ge]:SV (tDrop (tBM K "list" rAppend (tDSetd (tVar i) ty tx) (tCons te tNil))) (gSetd i gy gx ge):=⟨fun {C G D} O {ex env σ H n} A h=>by
 unfold gSetd at h
 split at h
 · rename_i ks ps e
   obtain ⟨a,ev,q⟩:=A.ev.sl i _ e
   refine ⟨_,join_some ev,a,rfl,.inl ⟨_,.inl q.h⟩,Y.ev A.ev h fun y n1 yv H1 hy s1 ry=>?_⟩
   have A1:=A.step s1
   cases ry with
   | int j=>
    refine N.nv A1.ev hy fun ds n2 b vs H2 hds s2 hb hl hz r=>?_
    obtain ⟨rfl,hin,hout⟩:=hds
    cases r
    have A2:=A1.more s2 hb (by rw [hl];exact Option.some_ne_none _)
    have bc:b∉C.S.ch:=fun z=>C.S.dom A1.ev.inv b z hb
    obtain ⟨a2,ev2,q2⟩:=A2.ev.sl i _ e
    rw [ev] at ev2
    cases ev2
    have hlen:=q2.k ks rfl
    have hzl:=q2.z
    refine ⟨ks.zip (refs ps),Sum.inl j,q2.h,rfl,by rw [List.length_zip,refs_len,sizeLine_eq];omega,fun v hv=>?_,fun hn=>?_⟩
    · obtain ⟨m,p,hm,hp,rfl⟩:=val_zip hv
      have w:=q2.i p (List.mem_of_getElem? hp)
      obtain ⟨us,g1,g2,g3⟩:=w.h
      refine ⟨.inl ⟨rfl,_,SqL.of g1⟩,E.ev A2.ev (hin (List.mem_of_getElem? hm)) fun d n3 v H3 hd s3 rd=>?_⟩
      obtain ⟨hlt,hnx⟩:=hd m p hm hp
      have g3':=A2.ev.reps s3 g3
      have l:=g3.length
      exact ⟨p.1,us,v,rfl,rfl,s3.1 _ _ g1 w.c,by rw [← l];exact hlt,O.nx ((A2.step s3).re2 e ev hp (Reps.append g3' (.cons rd .nil)) (by rw [List.length_append,List.length_singleton,← l];exact hlt)) hnx⟩
    · have hk:=val_none hlen hn
      obtain ⟨hps,hq⟩:=hout hk
      have A3:=A2.add2 (k:=Sum.inl j) (ds:=[]) e ev hk hps List.mem_cons_self bc hl hz .nil (fun k z=>(own_sl A1.ev z).1 hb) (A1.free hb)
      have hba:b≠a:=fun z=>(own_sl A1.ev (show a∈ownAt env σ i by unfold ownAt;rw [e,ev];exact List.mem_cons_self)).1 (by rw [← z];exact hb)
      have hb3:upd H2 a (.dK (putK (ks.zip (refs ps)) (Sum.inl j) (.ref b))) b=some (.lst []):=by rw [upd_ne hba];exact hl
      refine ⟨.inl ⟨rfl,_,SqL.of hb3⟩,E.ev A3.ev (hq b) fun d n3 v H3 hd s3 rd=>?_⟩
      have il:i<env.length:=(List.getElem?_eq_some_iff.mp e).1
      have A5:=(A3.step s3).re2 (j:=ps.length) (p:=(b,[])) (ys:=[d]) (ws:=[v]) (List.getElem?_set_self il) ev (by rw [List.getElem?_append_right (Nat.le_refl _),Nat.sub_self];rfl) (.cons rd .nil) (by rw [sizeLine_eq];exact Nat.le_of_ble_eq_true rfl)
      rw [List.set_set,List.set_append_right _ _ (Nat.le_refl _),Nat.sub_self] at A5
      exact ⟨b,[],v,rfl,rfl,s3.1 _ _ hb3 bc,by rw [sizeLine_eq];exact Nat.le_of_ble_eq_true rfl,O.nx A5 hd⟩
   | none=>exact hy.elim
   | bool=>exact hy.elim
   | str=>exact hy.elim
   | list=>exact hy.elim
   | tuple=>exact hy.elim
 · exact h.elim⟩
theorem zip_snd {ks:List Key}{vs:List V}(h:ks.length=vs.length):(ks.zip vs).map (·.2)=vs:=by
 induction ks generalizing vs with
 | nil=>cases vs with
  | nil=>rfl
  | cons=>cases h
 | cons k ks ih=>cases vs with
  | nil=>cases h
  | cons v vs=>
   show v::(ks.zip vs).map (·.2)=_
   rw [ih (Nat.succ.inj h)]
noncomputable abbrev gRetVals (i:Nat):GS:=fun G env n=>match env[i]? with
 | some (.own2 (some _) ps)=>G.rt2 (ps.map (·.2)) n
 | _=>False
noncomputable instance (priority:=high) sv_retVals {i:Nat}:SV (tRet (tDVals (tVar i))) (gRetVals i):=⟨fun {C G D} O {ex env σ H n} A h=>by
 unfold gRetVals at h
 split at h
 · rename_i ks ps e
   obtain ⟨a,ev,q⟩:=A.ev.sl i _ e
   refine ⟨_,join_some ev,a,_,rfl,q.h,fun p hp=>?_⟩
   rw [zip_snd (by rw [refs_len];exact q.k ks rfl)]
   have s:Step C.S n H (upd H p (.lst (refs ps))):=⟨Kp.new hp _,C.S.keep A.ev.inv fun b _ o e=>Kp.new (ex:=[]) hp _ _ _ e (by simp)⟩
   have oi:ownAt env σ i=a::ps.map (·.1):=by unfold ownAt;rw [e,ev]
   have pn:∀ x∈ps,x.1≠p:=fun x hx z=>by
    obtain ⟨vs,g1,_⟩:=(q.i x hx).h
    rw [z,hp] at g1;cases g1
   have pex:p∉ex:=fun z=>A.ev.al p z hp
   refine O.r2 ⟨(A.step s).kp,s.2,A.free hp,fun x hx=>A.new i x.1 (by rw [oi];exact List.mem_cons_of_mem _ (List.mem_map.mpr ⟨x,hx,rfl⟩)),⟨upd_same,q.z,fun l hl=>(by cases hl),?_,List.mem_append_left _ List.mem_cons_self,fun z=>pex (A.ev.ch p z),fun x hx=>?_⟩⟩ h
   · refine List.nodup_cons.mpr ⟨fun z=>?_,(List.nodup_cons.mp q.nd).2⟩
     obtain ⟨x,hx,e⟩:=List.mem_map.mp z
     exact pn x hx e
   · have w:=q.i x hx
     obtain ⟨vs,g1,g2,g3⟩:=w.h
     refine ⟨List.mem_append_left _ (List.mem_cons_of_mem _ (List.mem_map.mpr ⟨x,hx,rfl⟩)),w.c,vs,by rw [upd_ne (pn x hx)];exact g1,g2,?_⟩
     have g4:Reps (p::ex) H x.2 vs:=Reps.add hp g3
     refine Reps.mono (fun b hb=>?_) (g4.keep (Kp.new hp _))
     rcases List.mem_append.mp hb with hb | hb
     · rcases List.mem_cons.mp hb with rfl | hb
       · exact List.mem_cons_self
       · obtain ⟨y,hy,rfl⟩:=List.mem_map.mp hb
         exact List.mem_cons_of_mem _ (q.i y hy).m
     · exact List.mem_cons_of_mem _ (A.ex0 b hb)
 · exact h.elim⟩
noncomputable def ringAdd (g:List (Int×List Int)) (key k:Int):List (Int×List Int):=if key∈g.map (·.1) then g.map fun p=>if p.1=key then (p.1,p.2++[k]) else p else g++[(key,[k])]
noncomputable def ringRooms (R:Nat) (es:List (Nat×Nat)) (a:Nat):List Nat:=(List.range R).filter fun x=>Pw es R a x&&Pw es R x a
noncomputable def ringLeast (R:Nat) (es:List (Nat×Nat)) (a:Nat):Int:=(((ringRooms R es a).headD 0:Nat):Int)
noncomputable def ringStep (R:Nat) (es:List (Nat×Nat)) (ws:List Way) (g:List (Int×List Int)) (k:Int):List (Int×List Int):=if Pw es R (wayAt ws k).b.toNat (wayAt ws k).a.toNat=true then ringAdd g (ringLeast R es (wayAt ws k).a.toNat) k else g
noncomputable def ringsGo (R:Nat) (es:List (Nat×Nat)) (ws:List Way) (ks:List Int):List (Int×List Int):=ks.foldl (ringStep R es ws) []
noncomputable def ringsI (R:Nat) (ws:List Way) (ks:List Int):List (List Int):=(ringsGo R (esOf ws ks) ws ks).map (·.2)
noncomputable def ringsD (rs:List (List Int)):PyData:=.list (rs.map fun r=>.list (r.map .int))
noncomputable def gsRings:GSp:=fun as n Q=>∃ (R U:Int) (ws:List Way) (ks:List Int),as=[.d (bookPD R U ws),.d (.list (ks.map .int))]∧BookOk R U ws∧(∀ k∈ks,0≤k∧k<ws.length)∧ks.length≤1000∧Q (ringsD (ringsI R.toNat ws ks)) n
theorem ringsGo_take {R:Nat}{es:List (Nat×Nat)}{ws:List Way}{ks:List Int}{i:Nat}{k:Int}(h:ks[i]? = some k):ringsGo R es ws (ks.take (i+1))=ringStep R es ws (ringsGo R es ws (ks.take i)) k:=by
 unfold ringsGo
 rw [List.take_add_one,h,List.foldl_append];rfl
theorem least_ok {R a:Nat}{es:List (Nat×Nat)}{m:Int}(hm:m∈(ringRooms R es a).map (fun j:Nat=>(j:Int))) (hmin:∀ n∈(ringRooms R es a).map (fun j:Nat=>(j:Int)),m≤n):m=ringLeast R es a:=by
 have hp:(ringRooms R es a).Pairwise (· < ·):=List.Pairwise.filter _ List.pairwise_lt_range
 unfold ringLeast
 cases e:ringRooms R es a with
 | nil=>rw [e] at hm;cases hm
 | cons x xs=>
  rw [e] at hm hmin hp
  have h1:=hmin (x:Int) List.mem_cons_self
  obtain ⟨j,hj,rfl⟩:=List.mem_map.mp hm
  show (j:Int)=(x:Int)
  rcases List.mem_cons.mp hj with rfl | hj
  · rfl
  · have:=(List.pairwise_cons.mp hp).1 j hj
    omega
theorem rooms_self {R a:Nat}{es:List (Nat×Nat)}(ha:a<R):a∈ringRooms R es a:=by
 have:Pw es R a a=true:=Pw.zero (by rw [Pw];simp) R
 unfold ringRooms
 rw [List.mem_filter,this]
 exact ⟨List.mem_range.mpr ha,rfl⟩
noncomputable abbrev rowI (p:Int×List Int):List PyData:=p.2.map .int
structure RingInv (i:Nat) (g:List (Int×List Int)) (keys:List Key) (ps:List (Addr×List PyData)):Prop where
 ky:keys=g.map fun p=>Sum.inl p.1
 rw:ps.map (·.2)=g.map rowI
 nd:(g.map (·.1)).Nodup
 gl:g.length≤i
 pl:∀ p∈g,p.2.length≤i
theorem key_mem {g:List (Int×List Int)}{j:Int}:(Sum.inl j:Key)∈g.map (fun p=>(Sum.inl p.1:Key))↔j∈g.map (·.1):=by
 rw [List.mem_map,List.mem_map]
 constructor
 · rintro ⟨p,hp,e⟩;exact ⟨p,hp,Sum.inl.inj e⟩
 · rintro ⟨p,hp,rfl⟩;exact ⟨p,hp,rfl⟩
theorem RingInv.up {i:Nat}{g:List (Int×List Int)}{keys:List Key}{ps:List (Addr×List PyData)}(h:RingInv i g keys ps):RingInv (i+1) g keys ps:=⟨h.ky,h.rw,h.nd,Nat.le_succ_of_le h.gl,fun p hp=>Nat.le_succ_of_le (h.pl p hp)⟩
theorem RingInv.new {i:Nat}{g:List (Int×List Int)}{keys:List Key}{ps:List (Addr×List PyData)}(h:RingInv i g keys ps) {j k:Int}(hj:(Sum.inl j:Key)∉keys) (b:Addr):RingInv (i+1) (ringAdd g j k) (keys++[Sum.inl j]) (ps++[(b,[.int k])]):=by
 have hj':j∉g.map (·.1):=fun z=>hj (by rw [h.ky];exact key_mem.mpr z)
 have e:ringAdd g j k=g++[(j,[k])]:=if_neg hj'
 rw [e]
 refine ⟨by rw [h.ky,List.map_append];rfl,by rw [List.map_append,List.map_append,h.rw];rfl,?_,by rw [List.length_append,List.length_singleton];have:=h.gl;omega,fun p hp=>?_⟩
 · rw [List.map_append,List.nodup_append]
   refine ⟨h.nd,by simp,fun x hx y hy=>?_⟩
   have hy':y=j:=List.mem_singleton.mp hy
   rintro rfl
   exact hj' (hy'▸hx)
 · rcases List.mem_append.mp hp with hp | hp
   · exact Nat.le_succ_of_le (h.pl p hp)
   · rw [List.mem_singleton.mp hp];show 1≤i+1;omega
theorem RingInv.add {i:Nat}{g:List (Int×List Int)}{keys:List Key}{ps:List (Addr×List PyData)}(h:RingInv i g keys ps) {j k:Int}{m:Nat}{p:Addr×List PyData}(hm:keys[m]? = some (Sum.inl j)) (hp:ps[m]? = some p):p.2.length≤i∧RingInv (i+1) (ringAdd g j k) keys (ps.set m (p.1,p.2++[.int k])):=by
 rw [h.ky,List.getElem?_map] at hm
 obtain ⟨q,hq,ej⟩:=Option.map_eq_some_iff.mp hm
 cases Sum.inl.inj ej
 have e2:p.2=rowI q:=by
  have:=congrArg (fun l=>l[m]?) h.rw
  simp only [List.getElem?_map,hp,hq,Option.map_some] at this
  exact Option.some.inj this
 have hqm:=List.mem_of_getElem? hq
 have hj':q.1∈g.map (·.1):=List.mem_map.mpr ⟨q,hqm,rfl⟩
 have e:ringAdd g q.1 k=g.map fun p=>if p.1=q.1 then (p.1,p.2++[k]) else p:=if_pos hj'
 have ek:(ringAdd g q.1 k).map (·.1)=g.map (·.1):=by
  rw [e,List.map_map]
  refine List.map_congr_left fun x _=>?_
  show (if x.1=q.1 then (x.1,x.2++[k]) else x).1=x.1
  split<;>rfl
 refine ⟨by rw [e2,List.length_map];exact h.pl q hqm,?_,?_,by rw [ek];exact h.nd,by rw [e,List.length_map];exact Nat.le_succ_of_le h.gl,fun x hx=>?_⟩
 · have:(ringAdd g q.1 k).map (fun p=>(Sum.inl p.1:Key))=((ringAdd g q.1 k).map (·.1)).map (fun x=>(Sum.inl x:Key)):=by rw [List.map_map];rfl
   rw [this,ek,h.ky,List.map_map];rfl
 · rw [List.map_set,h.rw,e,List.map_map]
   apply List.ext_getElem?
   intro t
   by_cases ht:m=t
   · subst ht
     rw [List.getElem?_set_self (by rw [List.length_map];exact (List.getElem?_eq_some_iff.mp hq).1),List.getElem?_map,hq]
     show some (p.2++[PyData.int k])=some (rowI (if q.1=q.1 then (q.1,q.2++[k]) else q))
     rw [if_pos rfl,e2]
     show some (q.2.map PyData.int++[PyData.int k])=some ((q.2++[k]).map PyData.int)
     rw [List.map_append];rfl
   · rw [List.getElem?_set_ne ht,List.getElem?_map,List.getElem?_map]
     cases hx:g[t]? with
     | none=>rfl
     | some x=>
      have ne:x.1≠q.1:=fun z=>ht (by
       have h1:(g.map (·.1))[m]? = some q.1:=by rw [List.getElem?_map,hq];rfl
       have h2:(g.map (·.1))[t]? = some q.1:=by rw [List.getElem?_map,hx,← z];rfl
       exact (List.getElem?_inj (List.getElem?_eq_some_iff.mp h1).1 h.nd).mp (h1.trans h2.symm))
      show some (rowI x)=some (rowI (if x.1=q.1 then (x.1,x.2++[k]) else x))
      rw [if_neg ne]
 · rw [e] at hx
   obtain ⟨y,hy,rfl⟩:=List.mem_map.mp hx
   have:=h.pl y hy
   split
   · show (y.2++[k]).length≤_
     rw [List.length_append,List.length_singleton];omega
   · omega
theorem leads_at {R:Nat}{f:Nat→Nat→Bool}{x:Int}(h0:0≤x) (h1:x<R):atI ((matB R f).map PyData.list) x=some (.list (rowB R f x.toNat)):=by
 unfold atI
 rw [List.length_map,matB_len,ixN_of h0 h1]
 show ((matB R f).map PyData.list)[x.toNat]? = _
 rw [List.getElem?_map,matB_get (by omega)];rfl
theorem ringsD_of {i R:Nat}{ws:List Way}{ks:List Int}{keys:List Key}{ps:List (Addr×List PyData)}(h:RingInv i (ringsGo R (esOf ws ks) ws ks) keys ps):PyData.list ((ps.map (·.2)).map PyData.list)=ringsD (ringsI R ws ks):=by
 unfold ringsD ringsI
 rw [h.rw,List.map_map,List.map_map];rfl
noncomputable def onW (cs:List Int):List Int:=((List.range cs.length).filter fun i=>decide (0<cs.getD i 0)).map fun (i:Nat)=>(i:Int)
noncomputable def gsParts:GSp:=fun as n Q=>∃ (R U:Int) (ws:List Way) (cs:List Int),as=[.d (bookPD R U ws),.d (.tuple (cs.map .int))]∧BookOk R U ws∧cs.length=ws.length∧Q (ringsD (ringsI R.toNat ws (onW cs))) n
noncomputable def cntI (m:Nat) (ks:List Int):List Int:=(List.range m).map fun (i:Nat)=>((ks.countP fun k=>decide (k=(i:Int)):Nat):Int)
theorem way_get {ws:List Way}{i:Nat}(h:i<ws.length):(ws.map wayPD)[i]? = some (wayPD (wayAt ws (i:Int))):=atI_nat_inv (at_way (Int.natCast_nonneg i) (by omega))
theorem int_get {cs:List Int}{i:Nat}(h:i<cs.length):(cs.map PyData.int)[i]? = some (.int (cs.getD i 0)):=by
 rw [List.getElem?_map,List.getElem?_eq_getElem h,List.getD_eq_getElem?_getD,List.getElem?_eq_getElem h];rfl
theorem rmap_get {m i:Nat}{f:Nat→PyData}(h:i<m):((List.range m).map f)[i]? = some (f i):=by rw [List.getElem?_map,List.getElem?_range h];rfl
theorem rmap_none {m i:Nat}{f:Nat→PyData}(h:¬ i<m):((List.range m).map f)[i]? = none:=List.getElem?_eq_none (by rw [List.length_map,List.length_range];omega)
theorem zip_cw {ws:List Way}{cs:List Int}(h:cs.length=ws.length):zipD (cs.map .int) (ws.map wayPD)=(List.range ws.length).map fun (i:Nat)=>PyData.tuple [.int (cs.getD i 0),wayPD (wayAt ws (i:Int))]:=by
 unfold zipD
 apply List.ext_getElem?
 intro i
 rw [List.getElem?_zipWith]
 by_cases hi:i<ws.length
 · rw [rmap_get hi,int_get (by omega),way_get hi]
 · rw [rmap_none hi,List.getElem?_eq_none (l:=cs.map PyData.int) (by rw [List.length_map];omega)]
theorem enum_c {cs:List Int}:enumD (cs.map .int)=(List.range cs.length).map fun (i:Nat)=>PyData.tuple [.int (i:Int),.int (cs.getD i 0)]:=by
 unfold enumD
 apply List.ext_getElem?
 intro i
 rw [List.getElem?_mapIdx]
 by_cases hi:i<cs.length
 · rw [rmap_get hi,int_get hi];rfl
 · rw [rmap_none hi,List.getElem?_eq_none (l:=cs.map PyData.int) (by rw [List.length_map];omega)];rfl
theorem cnt_nil {m:Nat}:(cntI m []).map PyData.int=List.replicate m (.int 0):=by
 unfold cntI
 rw [List.map_map]
 apply List.ext_getElem?
 intro i
 rw [List.getElem?_map]
 by_cases hi:i<m
 · rw [List.getElem?_range hi,List.getElem?_replicate,if_pos hi];rfl
 · rw [List.getElem?_eq_none (by rw [List.length_range];omega),List.getElem?_eq_none (by rw [List.length_replicate];omega)];rfl
theorem cnt_len {m:Nat}{ks:List Int}:(cntI m ks).length=m:=by unfold cntI;rw [List.length_map,List.length_range]
theorem cnt_get {m i:Nat}{ks:List Int}(h:i<m):(cntI m ks)[i]? = some ((ks.countP fun k=>decide (k=(i:Int)):Nat):Int):=by
 unfold cntI
 rw [List.getElem?_map,List.getElem?_range h];rfl
theorem flat_rep1 {m:Nat}{x:PyData}:(List.replicate m [x]).flatten=List.replicate m x:=by
 induction m with
 | zero=>rfl
 | succ m ih=>rw [List.replicate_succ,List.flatten_cons,ih,List.replicate_succ];rfl
noncomputable def gsWalkJ:GSp:=fun as n Q=>∃ (R U:Int) (ws:List Way) (most:Int),as=[.jar,.d (bookPD R U ws),.d (.int most)]∧BookOk R U ws∧(1≤most∧most≤5000)∧∀ ns:List Int,InW ws ns→Chain ws ns→(ns.length:Int)≤most→Q (lstI ns) n
noncomputable def gsClosed:GSp:=fun as n Q=>∃ (R U:Int) (ws:List Way) (most:Int),as=[.jar,.d (bookPD R U ws),.d (.int most)]∧BookOk R U ws∧(1≤most∧most≤5000)∧∀ ns:List Int,InW ws ns→(ns=[]∨∃ a,Pth ws a ns a)→(ns.length:Int)≤most+12→Q (lstI ns) n
theorem neNilWs {ws:List Way}{Q:PyData→Prop}(h1:ws≠[]→Q (.bool true)) (h2:ws=[]→Q (.bool false)):fEqD true (.tuple (ws.map wayPD)) (.tuple []) Q:=by
 refine ⟨⟨by rw [PyData.canLay0];exact lay_ways ws,rfl,Nat.le_trans (Nat.min_le_right _ _) (by decide)⟩,?_⟩
 cases ws with
 | nil=>exact h2 rfl
 | cons w ws=>exact h1 (by simp)
theorem at_lastD {ns:List Int}(h:ns≠[]):atI (ns.map PyData.int) (-1)=some (.int (lastI ns)):=by
 refine at_last (by simpa using h) ?_
 rw [List.getLast?_map,List.getLast?_eq_some_getLast h,lastI_eq h];rfl
theorem chain_add {ws:List Way}{ns:List Int}{k:Int}(h:Chain ws ns) (hk:ns≠[]→(wayAt ws (lastI ns)).b=(wayAt ws k).a):Chain ws (ns++[k]):=by
 by_cases he:ns=[]
 · subst he;exact trivial
 · have e:=List.dropLast_concat_getLast he
   have h2:=hk he
   rw [lastI_eq he] at h2
   rw [← e] at h ⊢
   exact h.snoc h2
theorem sum_zero {m:Nat}{f:Nat→Int}(h:∀ i,i<m→f i=0):((List.range m).map f).sum=0:=by
 induction m with
 | zero=>rfl
 | succ m ih=>rw [List.range_succ,List.map_append,List.sum_append,ih fun i hi=>h i (by omega),List.map_singleton,List.sum_singleton,h m (by omega)];rfl
theorem sum_one {m k:Nat}{f:Nat→Int}(hk:k<m):((List.range m).map fun i=>(if k=i then 1 else 0)*f i).sum=f k:=by
 induction m with
 | zero=>exact absurd hk (Nat.not_lt_zero k)
 | succ m ih=>
  rw [List.range_succ,List.map_append,List.sum_append,List.map_singleton,List.sum_singleton]
  by_cases e:k=m
  · subst e
    rw [if_pos rfl,sum_zero (f:=fun i=>(if k=i then 1 else 0)*f i) fun i hi=>by rw [if_neg (by omega),Int.zero_mul]]
    omega
  · rw [if_neg e,ih (by omega),Int.zero_mul,Int.add_zero]
theorem sum_add {m:Nat}{f g:Nat→Int}:((List.range m).map fun i=>f i+g i).sum=((List.range m).map f).sum+((List.range m).map g).sum:=by
 induction m with
 | zero=>rfl
 | succ m ih=>simp only [List.range_succ,List.map_append,List.sum_append,List.map_singleton,List.sum_singleton];rw [ih];omega
theorem cnt_D {m i:Nat}{ks:List Int}(h:i<m):(cntI m ks).getD i 0=((ks.countP fun k=>decide (k=(i:Int)):Nat):Int):=by
 rw [List.getD_eq_getElem?_getD,cnt_get h];rfl
theorem sum_congr {m:Nat}{f g:Nat→Int}(h:∀ i,i<m→f i=g i):((List.range m).map f).sum=((List.range m).map g).sum:=by
 rw [List.map_congr_left fun i hi=>h i (List.mem_range.mp hi)]
theorem cnt_sum {m:Nat}{f:Nat→Int}:∀ {ns:List Int},(∀ k∈ns,0≤k∧k<m)→((List.range m).map fun i=>(cntI m ns).getD i 0*f i).sum=(ns.map fun k=>f k.toNat).sum
 | [],_=>sum_zero fun i hi=>by rw [cnt_D hi];exact Int.zero_mul _
 | k::ns,h=>by
  obtain ⟨k0,k1⟩:=h k List.mem_cons_self
  have ih:=cnt_sum (f:=f) (ns:=ns) fun x hx=>h x (List.mem_cons_of_mem _ hx)
  rw [List.map_cons,List.sum_cons,← ih,← sum_one (m:=m) (k:=k.toNat) (f:=f) (by omega),← sum_add]
  refine sum_congr fun i hi=>?_
  rw [cnt_D hi,cnt_D hi,List.countP_cons,← Int.add_mul]
  congr 1
  by_cases e:k.toNat=i
  · rw [if_pos e,if_pos (decide_eq_true (by omega))];omega
  · rw [if_neg e,if_neg (fun z=>e (by have:=of_decide_eq_true z;omega))];omega
noncomputable def oneI (x r:Int):Int:=if x=r then 1 else 0
theorem more_sum {ws:List Way}{cs:List Int}{r:Int}:∀ i,moreI ws cs i r=((List.range i).map fun j=>cs.getD j 0*(oneI (wayAt ws (j:Nat)).b r-oneI (wayAt ws (j:Nat)).a r)).sum
 | 0=>rfl
 | i+1=>by
  rw [moreI,more_sum i,List.range_succ,List.map_append,List.sum_append,List.map_singleton,List.sum_singleton]
  unfold oneI
  by_cases h1:(wayAt ws (i:Nat)).a=r
  · by_cases h2:(wayAt ws (i:Nat)).b=r
    · rw [if_pos h1,if_pos h2,if_pos h1,if_pos h2];simp
    · rw [if_pos h1,if_neg h2,if_pos h1,if_neg h2];omega
  · by_cases h2:(wayAt ws (i:Nat)).b=r
    · rw [if_neg h1,if_pos h2,if_neg h1,if_pos h2];omega
    · rw [if_neg h1,if_neg h2,if_neg h1,if_neg h2];omega
theorem pth_flow {ws:List Way}{r:Int}:∀ {ns:List Int}{a b:Int},Pth ws a ns b→(ns.map fun k=>oneI (wayAt ws ((k.toNat:Nat):Int)).b r-oneI (wayAt ws ((k.toNat:Nat):Int)).a r).sum=oneI b r-oneI a r
 | [],a,b,h=>by
  have:a=b:=h
  subst this
  show (0:Int)=_
  omega
 | k::ns,a,b,h=>by
  obtain ⟨⟨k0,_⟩,e,t⟩:=h
  rw [List.map_cons,List.sum_cons,pth_flow t,Int.toNat_of_nonneg k0,e]
  omega
theorem pth_rt {ws:List Way}{es:List (Nat×Nat)}:∀ {ns:List Int}{a b:Int},Pth ws a ns b→(∀ k∈ns,((wayAt ws k).a.toNat,(wayAt ws k).b.toNat)∈es)→Rt es a.toNat b.toNat∧∀ k∈ns,Rt es a.toNat (wayAt ws k).a.toNat∧Rt es (wayAt ws k).b.toNat b.toNat
 | [],a,b,h,_=>by
  have:a=b:=h
  subst this
  exact ⟨.refl _,fun k hk=>by cases hk⟩
 | k::ns,a,b,h,he=>by
  obtain ⟨_,e,t⟩:=h
  obtain ⟨h1,h2⟩:=pth_rt t fun x hx=>he x (List.mem_cons_of_mem _ hx)
  have st:Rt es a.toNat (wayAt ws k).b.toNat:=by
   rw [← e]
   exact .step (.refl _) (he k List.mem_cons_self)
  refine ⟨st.trans h1,fun x hx=>?_⟩
  rcases List.mem_cons.mp hx with rfl | hx
  · exact ⟨by rw [e];exact .refl _,h1⟩
  · exact ⟨st.trans (h2 x hx).1,(h2 x hx).2⟩
theorem go_one {R:Nat}{es:List (Nat×Nat)}{ws:List Way}{l:Int}:∀ (ks:List Int) (js:List Int),(∀ k∈ks,Pw es R (wayAt ws k).b.toNat (wayAt ws k).a.toNat=true∧ringLeast R es (wayAt ws k).a.toNat=l)→ks.foldl (ringStep R es ws) [(l,js)]=[(l,js++ks)]
 | [],js,_=>by rw [List.append_nil];rfl
 | k::ks,js,h=>by
  obtain ⟨h1,h2⟩:=h k List.mem_cons_self
  rw [List.foldl_cons]
  have:ringStep R es ws [(l,js)] k=[(l,js++[k])]:=by
   unfold ringStep ringAdd
   rw [if_pos h1,h2,if_pos (by simp)]
   show [if l=l then (l,js++[k]) else (l,js)]=_
   rw [if_pos rfl]
  rw [this,go_one ks _ fun x hx=>h x (List.mem_cons_of_mem _ hx),List.append_assoc];rfl
theorem one_ring {R:Nat}{ws:List Way}{ks:List Int}(hne:ks≠[]) (hr:∀ e∈esOf ws ks,e.1<R∧e.2<R) (h:∀ k∈ks,∀ j∈ks,Rt (esOf ws ks) (wayAt ws k).b.toNat (wayAt ws j).a.toNat):ringsI R ws ks=[ks]:=by
 have ab:∀ k∈ks,Rt (esOf ws ks) (wayAt ws k).a.toNat (wayAt ws k).b.toNat:=fun k hk=>.step (.refl _) (List.mem_map.mpr ⟨k,hk,rfl⟩)
 have aa:∀ k∈ks,∀ j∈ks,Rt (esOf ws ks) (wayAt ws k).a.toNat (wayAt ws j).a.toNat:=fun k hk j hj=>(ab k hk).trans (h k hk j hj)
 have rr:∀ k∈ks,∀ j∈ks,ringRooms R (esOf ws ks) (wayAt ws k).a.toNat=ringRooms R (esOf ws ks) (wayAt ws j).a.toNat:=fun k hk j hj=>by
  unfold ringRooms
  refine List.filter_congr fun x _=>?_
  rw [Bool.eq_iff_iff,Bool.and_eq_true,Bool.and_eq_true,pw_iff hr,pw_iff hr,pw_iff hr,pw_iff hr]
  exact ⟨fun z=>⟨(aa j hj k hk).trans z.1,z.2.trans (aa k hk j hj)⟩,fun z=>⟨(aa k hk j hj).trans z.1,z.2.trans (aa j hj k hk)⟩⟩
 obtain ⟨k0,rest,e⟩:∃ k rest,ks=k::rest:=by
  cases ks with
  | nil=>exact absurd rfl hne
  | cons a b=>exact ⟨a,b,rfl⟩
 have hk0:k0∈ks:=by rw [e];exact List.mem_cons_self
 have st:ringStep R (esOf ws ks) ws [] k0=[(ringLeast R (esOf ws ks) (wayAt ws k0).a.toNat,[k0])]:=by
  unfold ringStep
  rw [if_pos ((pw_iff hr).mpr (h k0 hk0 k0 hk0))]
  rfl
 have go:ringsGo R (esOf ws ks) ws ks=[(ringLeast R (esOf ws ks) (wayAt ws k0).a.toNat,ks)]:=by
  have g:∀ es',ks.foldl (ringStep R es' ws) []=rest.foldl (ringStep R es' ws) (ringStep R es' ws [] k0):=fun es'=>by rw [e,List.foldl_cons]
  unfold ringsGo
  rw [g,st,go_one rest [k0] fun x hx=>?_]
  · rw [e];rfl
  · have hx':x∈ks:=by rw [e];exact List.mem_cons_of_mem _ hx
    refine ⟨(pw_iff hr).mpr (h x hx' x hx'),?_⟩
    unfold ringLeast
    rw [rr x hx' k0 hk0]
 unfold ringsI
 rw [go];rfl
theorem op_in_seqK {X:Cx}{K':PySem.W.Frag}(hK:X.K=K'):OpR X (compareOp .In) (rIn K' false):=hK▸op_in_seq
theorem lay_is:∀ ns:List Int,PyData.canLayAll0 (ns.map PyData.int)=true
 | []=>rfl
 | n::ns=>by rw [List.map_cons,PyData.canLayAll0,lay_is ns];rfl
theorem dep_is:∀ ns:List Int,PyData.depthAll (ns.map PyData.int)=0
 | []=>rfl
 | n::ns=>by rw [List.map_cons,PyData.depthAll,dep_is ns];rfl
theorem neL {ns:List Int}{Q:PyData→Prop}(q:Q (.bool false)):fEqD true (lstI ns) (lstI ns) Q:=neSelf (by unfold lstI;rw [PyData.canLay0];exact lay_is ns) (by unfold lstI;rw [PyData.depth,dep_is];decide) q
theorem scal_is:∀ ns:List Int,(ns.map PyData.int).all scalD=true
 | []=>rfl
 | n::ns=>by rw [List.map_cons,List.all_cons,scal_is ns];rfl
theorem in_is {k:Int}{ns:List Int}:inD (.int k) (ns.map .int)=decide (k∈ns):=by
 unfold inD
 induction ns with
 | nil=>rfl
 | cons n ns ih=>
  rw [List.map_cons,List.any_cons,ih]
  have:PyData.eqv (.int n) (.int k)=decide (n=k):=rfl
  rw [this,Bool.eq_iff_iff,Bool.or_eq_true,decide_eq_true_iff,decide_eq_true_iff,decide_eq_true_iff,List.mem_cons]
  constructor
  · rintro (h | h)
    · exact .inl h.symm
    · exact .inr h
  · rintro (h | h)
    · exact .inl h.symm
    · exact .inr h
theorem val_some {ks:List Key}{ps:List (Addr×List PyData)}{k:Key}(hl:ks.length=ps.length) (h:k∈ks):∃ v,valV (ks.zip (refs ps)) k=some v:=by
 cases e:valV (ks.zip (refs ps)) k with
 | none=>exact absurd h (val_none hl e)
 | some v=>exact ⟨v,rfl⟩
noncomputable abbrev gDLook (i:Nat) (gy:GE):GE:=fun env n Q=>match env[i]? with
 | some (.own2 (some ks) ps)=>gy env n fun y n1=>(match y with
  | .int j=>Sum.inl j∈ks∧∀ (m:Nat) (p:Addr×List PyData),ks[m]? = some (Sum.inl j)→ps[m]? = some p→Q (.list p.2) n1
  | _=>False)
 | _=>False
noncomputable instance ev_dlook {i:Nat}{ty:TE}{gy:GE} [Y:EV false ty gy]:EV false (tDGet (tVar i) ty) (gDLook i gy):=⟨fun {S ex env σ H n Q P} E h k=>by
 unfold gDLook at h
 split at h
 · rename_i ks ps e
   obtain ⟨a,ev,q⟩:=E.sl i _ e
   refine ⟨_,join_some ev,Y.ev E h fun y n1 yv H1 hy s1 ry=>?_⟩
   cases ry with
   | int j=>
    obtain ⟨hj,hq⟩:=hy
    have E1:=E.step s1
    obtain ⟨a1,ev1,q1⟩:=E1.sl i _ e
    rw [ev] at ev1
    cases ev1
    obtain ⟨v,hv⟩:=val_some (q1.k ks rfl) hj
    obtain ⟨m,p,hm,hp,rfl⟩:=val_zip hv
    have w:=q1.i p (List.mem_of_getElem? hp)
    obtain ⟨us,g1,g2,g3⟩:=w.h
    refine ⟨a,.ref p.1,rfl,by rw [← hv];exact DGet.k (k:=Sum.inl j) q1.h,k _ _ _ _ (hq m p hm hp) s1 (.list g1 w.c g2 (Reps.mono E1.ch g3))⟩
   | none=>exact hy.elim
   | bool=>exact hy.elim
   | str=>exact hy.elim
   | list=>exact hy.elim
   | tuple=>exact hy.elim
 · exact h.elim⟩
noncomputable abbrev GSn2:=List Vl→Nat→(List (List PyData)→Nat→Prop)→Prop
section
variable {b:Bool}{i:Nat}{sp:GSn2}{E':XK}{t:TA}{gt:GA}
end
theorem app_congr {α:Type}{a b c d:List α}(h:a=b) (g:c=d):a++c=b++d:=by rw [h,g]
theorem snoc_ind {α:Type}{P:List α→Prop}(h0:P []) (h1:∀ l a,P l→P (l++[a])) (l:List α):P l:=by
 have:∀ l:List α,P l.reverse:=by
  intro l
  induction l with
  | nil=>exact h0
  | cons a l ih=>rw [List.reverse_cons];exact h1 _ _ ih
 have h:=this l.reverse
 rw [List.reverse_reverse] at h
 exact h
noncomputable def keyStep (c:Int→Option Int) (g:List Int) (k:Int):List Int:=match c k with
 | some y=>if y∈g then g else g++[y]
 | none=>g
noncomputable def keysGo (c:Int→Option Int) (ks:List Int):List Int:=ks.foldl (keyStep c) []
theorem keys_snoc {c:Int→Option Int}{ks:List Int}{k:Int}:keysGo c (ks++[k])=keyStep c (keysGo c ks) k:=by
 unfold keysGo;rw [List.foldl_append];rfl
theorem keys_mem {c:Int→Option Int}{ks:List Int}{y:Int}:y∈keysGo c ks↔∃ k∈ks,c k=some y:=by
 induction ks using snoc_ind with
 | h0=>exact ⟨fun h=>(by cases h),fun ⟨k,h,_⟩=>(by cases h)⟩
 | h1 ks k ih=>
  rw [keys_snoc,keyStep]
  have key:(∃ j∈ks++[k],c j=some y)↔(∃ j∈ks,c j=some y)∨c k=some y:=by
   constructor
   · rintro ⟨j,hj,e⟩
     rcases List.mem_append.mp hj with hj | hj
     · exact .inl ⟨j,hj,e⟩
     · rw [List.mem_singleton.mp hj] at e;exact .inr e
   · rintro (⟨j,hj,e⟩ | e)
     · exact ⟨j,List.mem_append_left _ hj,e⟩
     · exact ⟨k,List.mem_append_right _ (List.mem_singleton.mpr rfl),e⟩
  rw [key,← ih]
  cases e:c k with
  | none=>exact ⟨.inl,fun h=>h.elim id fun h=>by cases h⟩
  | some x=>
   dsimp only
   split
   · rename_i hx
     refine ⟨.inl,fun h=>h.elim id fun h=>?_⟩
     cases h;exact hx
   · rw [List.mem_append,List.mem_singleton]
     refine ⟨fun h=>h.imp id fun h=>by rw [h],fun h=>h.imp id fun h=>by cases h;rfl⟩
noncomputable def grp (c:Int→Option Int) (ks:List Int) (y:Int):List Int:=ks.filter fun k=>decide (c k=some y)
theorem grp_snoc {c:Int→Option Int}{ks:List Int}{k y:Int}:grp c (ks++[k]) y=if c k=some y then grp c ks y++[k] else grp c ks y:=by
 unfold grp
 rw [List.filter_append]
 by_cases e:c k=some y
 · rw [if_pos e,List.filter_cons_of_pos (by simp [e])];rfl
 · rw [if_neg e,List.filter_cons_of_neg (by simp [e])];exact List.append_nil _
noncomputable def clsOf (R:Nat) (es:List (Nat×Nat)) (ws:List Way) (k:Int):Option Int:=if Pw es R (wayAt ws k).b.toNat (wayAt ws k).a.toNat=true then some (ringLeast R es (wayAt ws k).a.toNat) else none
theorem go_grp {R:Nat}{es:List (Nat×Nat)}{ws:List Way}(ks:List Int):ringsGo R es ws ks=(keysGo (clsOf R es ws) ks).map fun y=>(y,grp (clsOf R es ws) ks y):=by
 induction ks using snoc_ind with
 | h0=>rfl
 | h1 ks k ih=>
  have e0:ringsGo R es ws (ks++[k])=ringStep R es ws (ringsGo R es ws ks) k:=by unfold ringsGo;rw [List.foldl_append];rfl
  rw [e0,ih,keys_snoc,keyStep]
  unfold ringStep
  by_cases c:Pw es R (wayAt ws k).b.toNat (wayAt ws k).a.toNat=true
  · have ck:clsOf R es ws k=some (ringLeast R es (wayAt ws k).a.toNat):=if_pos c
    rw [if_pos c,ck]
    generalize ringLeast R es (wayAt ws k).a.toNat=y at ck
    dsimp only
    unfold ringAdd
    have em:((keysGo (clsOf R es ws) ks).map fun y=>(y,grp (clsOf R es ws) ks y)).map (·.1)=keysGo (clsOf R es ws) ks:=by rw [List.map_map];exact List.map_id _
    rw [em]
    split
    · rw [List.map_map]
      refine List.map_congr_left fun x hx=>?_
      show (if x=y then (x,grp (clsOf R es ws) ks x++[k]) else (x,grp (clsOf R es ws) ks x))=_
      rw [grp_snoc,ck]
      by_cases e:x=y
      · rw [if_pos e,if_pos (by rw [e])]
      · rw [if_neg e,if_neg (fun z=>e (Option.some.inj z).symm)]
    · rename_i hy
      rw [List.map_append]
      refine app_congr (List.map_congr_left fun x hx=>?_) ?_
      · rw [grp_snoc,ck,if_neg (fun z=>hy (by rw [Option.some.inj z];exact hx))]
      · show [(y,[k])]=[(y,grp (clsOf R es ws) (ks++[k]) y)]
        rw [grp_snoc,ck,if_pos rfl]
        have:grp (clsOf R es ws) ks y=[]:=by
         unfold grp
         rw [List.filter_eq_nil_iff]
         intro j hj z
         exact hy (keys_mem.mpr ⟨j,hj,of_decide_eq_true z⟩)
        rw [this];rfl
  · have ck:clsOf R es ws k=none:=if_neg c
    rw [if_neg c,ck]
    refine List.map_congr_left fun x hx=>?_
    rw [grp_snoc,ck,if_neg (fun z=>by cases z)]
theorem cls_iff {R:Nat}{ws:List Way}{ks:List Int}(hr:∀ e∈esOf ws ks,e.1<R∧e.2<R) {k j:Int}(hk:k∈ks) (hj:j∈ks) (h:Pw (esOf ws ks) R (wayAt ws k).b.toNat (wayAt ws k).a.toNat=true) :
 (Pw (esOf ws ks) R (wayAt ws k).b.toNat (wayAt ws j).a.toNat&&Pw (esOf ws ks) R (wayAt ws j).b.toNat (wayAt ws k).a.toNat)=decide (clsOf R (esOf ws ks) ws j=some (ringLeast R (esOf ws ks) (wayAt ws k).a.toNat)):=by
 have ab:∀ k∈ks,Rt (esOf ws ks) (wayAt ws k).a.toNat (wayAt ws k).b.toNat:=fun k hk=>.step (.refl _) (List.mem_map.mpr ⟨k,hk,rfl⟩)
 have lt:∀ k∈ks,(wayAt ws k).a.toNat<R:=fun k hk=>(hr _ (List.mem_map.mpr ⟨k,hk,rfl⟩)).1
 rw [pw_iff hr] at h
 rw [Bool.eq_iff_iff,Bool.and_eq_true,pw_iff hr,pw_iff hr,decide_eq_true_iff]
 unfold clsOf
 have least_mem:∀ a,a<R→∃ m,ringLeast R (esOf ws ks) a=((m:Nat):Int)∧Rt (esOf ws ks) a m∧Rt (esOf ws ks) m a:=fun a ha=>by
  have hs:=rooms_self (es:=esOf ws ks) ha
  unfold ringLeast
  cases e:ringRooms R (esOf ws ks) a with
  | nil=>rw [e] at hs;cases hs
  | cons x xs=>
   have hx:x∈ringRooms R (esOf ws ks) a:=by rw [e];exact List.mem_cons_self
   have:=(List.mem_filter.mp hx).2
   rw [Bool.and_eq_true,pw_iff hr,pw_iff hr] at this
   exact ⟨x,rfl,this.1,this.2⟩
 constructor
 · rintro ⟨h1,h2⟩
   have jj:Rt (esOf ws ks) (wayAt ws j).b.toNat (wayAt ws j).a.toNat:=(h2.trans (ab k hk)).trans h1
   rw [if_pos ((pw_iff hr).mpr jj)]
   have e:ringRooms R (esOf ws ks) (wayAt ws j).a.toNat=ringRooms R (esOf ws ks) (wayAt ws k).a.toNat:=by
    have jk:=(ab j hj).trans h2
    have kj:=(ab k hk).trans h1
    unfold ringRooms
    refine List.filter_congr fun x _=>?_
    rw [Bool.eq_iff_iff,Bool.and_eq_true,Bool.and_eq_true,pw_iff hr,pw_iff hr,pw_iff hr,pw_iff hr]
    exact ⟨fun z=>⟨kj.trans z.1,z.2.trans jk⟩,fun z=>⟨jk.trans z.1,z.2.trans kj⟩⟩
   unfold ringLeast
   rw [e]
 · intro z
   split at z
   · rename_i c
     rw [pw_iff hr] at c
     have z:=Option.some.inj z
     obtain ⟨m,e1,m1,m2⟩:=least_mem _ (lt j hj)
     obtain ⟨m',e2,m3,m4⟩:=least_mem _ (lt k hk)
     have:m=m':=by rw [e1,e2] at z;omega
     subst this
     exact ⟨h.trans (m3.trans m2),c.trans (m1.trans m4)⟩
   · cases z
noncomputable def wkD (p:Int×List Int):PyData:=.tuple [.int p.1,lstI p.2]
theorem onW_in {cs:List Int}:(∀ k∈onW cs,0≤k∧k<cs.length)∧(onW cs).length≤cs.length:=by
 unfold onW
 constructor
 · intro k hk
   obtain ⟨i,hi,rfl⟩:=List.mem_map.mp hk
   have:=List.mem_range.mp (List.mem_filter.mp hi).1
   exact ⟨by omega,by omega⟩
 · rw [List.length_map]
   have:=List.length_filter_le (fun i=>decide (0<cs.getD i 0)) (List.range cs.length)
   rw [List.length_range] at this
   exact this
end My
namespace L2
open PySem PySem.Spec PyProof.Rows My
section
variable {X:Cx}
end
end L2
namespace My
open PySem PySem.Spec PyProof.Rows L2
noncomputable def headD:PyData→PyData
 | .tuple (w::_)=>w
 | _=>.none
end My
namespace L2
open PySem PySem.Spec PyProof.Rows My
section
variable {X:Cx}{x y:Str}{e:Expr}{es:List Expr}{p p' pos apos:Pos}{t:TA}{k:Nat}{ps:List Str}{sp:Sp}{i:Int}
end
end L2
namespace My
open PySem PySem.Spec PyProof.Rows L2
noncomputable abbrev GSxn:=List Vl→Nat→(List PyData→Nat→Prop)→(Addr→Nat→Prop)→Prop
section
variable {i:Nat}{sp:GSxn}{t:TA}{gt:GA}{tv:TE}{gv:GE}{d:Int}
end
end My
namespace L2
open PySem PySem.Spec PyProof.Rows My
theorem compLoopD_go {prog:Program}{w:World}{A:Around}{R:Result→Shared→Prop}{s:Shared}{kx vx target iter:Expr}{ifs:List Expr}{scope:Scope}{pos:Pos}{it:Value}{acc:Addr}{env:Env}(I:Nat→Shared→Prop)
 (turn:∀ n s,I n s→wpAny (model prog w) A (pyNext it) (fun r s₁=>match r with
  | none=>R (.ok .next) s₁
  | some v=>wpAny (model prog w) A (letOwnedTupleGo target it v) (fun _ s₁'=>wpAny (model prog w) A (assign target env v) (fun _ s₂=>
   wpAny (model prog w) A (forIn ifs true fun c r=>if r=true then do let ok ← isTrue c env (eval c env);pure (ForInStep.yield ok) else pure (ForInStep.yield r)) (fun ok s₃=>
    if ok=true then wpAny (model prog w) A (eval kx env) (fun kv s₄=>wpAny (model prog w) A (eval vx env) (fun vv s₄'=>
     wpAny (model prog w) A (dictSet acc kv vv) (fun _ s₅=>∃ m,m<n∧I m s₅) NoE s₄') NoE s₄) NoE s₃
    else ∃ m,m<n∧I m s₃) NoE s₂) NoE s₁') NoE s₁) NoE s)
 (n:Nat) (h:I n s) :
 codeAny (model prog w) A (.compLoop (.DictComp kx vx [⟨target,iter,ifs,0⟩] scope pos) 0 it (.ref acc) env) R s:=by
 refine codeAny_loop rfl I (fun n s hI=>?_) n h
 show wpAny _ A ((compTurn (.DictComp kx vx [⟨target,iter,ifs,0⟩] scope pos) 0 it (.ref acc) env).onRaise (fun x=>do noteFrame x env;theTreesLotGoes x)) _ _ s
 refine wpAny_noted ?_
 rw [compTurn_dict]
 refine wpAny_bind (wpAny_standAt (wpAny_bind (wpAny_mono (turn n s hI) (fun r s₁ h₁=>?_) fun _ _ f=>f.elim)))
 cases r with
 | none=>exact wpAny_pure h₁
 | some v=>
  refine wpAny_bind (wpAny_mono h₁ (fun _ s₁' h₁'=>wpAny_bind (wpAny_mono h₁' (fun _ s₂ h₂=>wpAny_bind (wpAny_mono h₂ (fun ok s₃ h₃=>?_) fun _ _ f=>f.elim)) fun _ _ f=>f.elim)) fun _ _ f=>f.elim)
  cases ok with
  | false=>exact wpAny_pure ⟨rfl,h₃⟩
  | true=>
   exact wpAny_bind (wpAny_bind (wpAny_mono h₃ (fun kv s₄ h₄=>wpAny_bind (wpAny_holding (wpAny_mono h₄ (fun vv s₄' h₄'=>wpAny_bind (wpAny_standAt (wpAny_holding (wpAny_mono h₄' (fun _ s₅ h₅=>wpAny_pure ⟨rfl,h₅⟩) fun _ _ f=>f.elim)))) fun _ _ f=>f.elim))) fun _ _ f=>f.elim))
noncomputable def dTurns (J:It) (g:TG) (tt:TT) (tk tv:TE) (l:Addr) (σ0:St) (H0:Hp) (Q:Hp→Prop):Prop:=
 ∃ W:Nat→Nat→St→Hp→Prop,(∃ m,W 0 m σ0 H0)∧∀ i m σ H,W i m σ H →
  (J.stop i H∧Q H)∨(J.go i H∧∀ x H',J.yld i H x H'→g x σ H' fun σ2 H2=>tt σ2 H2 fun c H3=>
   if c=true then tk σ2 H3 fun y H4=>tv σ2 H4 fun v H5=>∃ kvs k,y=kV k∧H5 l=some (.dK kvs)∧kvs.length<sizeLine∧∃ m',m'<m∧W (i+1) m' σ2 (upd H5 l (.dK (putK kvs k v)))
   else ∃ m',m'<m∧W (i+1) m' σ2 H3)
theorem d_set {X:Cx}{pins:List (Addr×Obj)}{σ:St}{H:Hp}{s:Shared}{A:Around}{E:Value→Shared→Prop}{a:Addr}{kvs:List (Key×V)}{k:Key}{v:V}{u r:Value}{Q:Unit→Shared→Prop}(I:Inv X pins σ H s) (e:H a=some (.dK kvs)) (l:kvs.length<sizeLine) (ry:RelV (kV k) u) (rv:RelV v r) (h:∀ s',Inv X pins σ (upd H a (.dK (putK kvs k v))) s'→Q () s') :
 wpAny (model X.prog X.w) A (dictSet a u r) Q E s:=by
 obtain ⟨z,hd,vs,rel,dd⟩:=dk_of I.hok e
 have hz:vs.length≤sizeLine:=by rw [← rel.length];exact z
 have hl:(putK kvs k v).length≤sizeLine:=by have:=length_putK kvs k v;omega
 refine wpAny_dictSet_pairs (hsz:=hz) (kV_is ry) dd fun h' dd' hs=>h _ ?_
 have he:∃ q,h'.get? a=some q:=let ⟨q,_,_,hq,_⟩:=dd';⟨q,hq⟩
 exact d_write I (by rw [e];exact True.intro) hs he (dk_new hl hd (rel.put k rv) dd')
section
variable {X:Cx}{tg iter kx vx:Expr}{ifs:List Expr}{scope sc:Scope}{N N':List Str}{k:Nat}{idx:List Nat}{wi:TI}{g:TG}{tt:TT}{tk tv:TE}{pos:Pos}
theorem comp_blockD {pins:List (Addr×Obj)}{s:Shared}{σ:St}{E:Value→Shared→Prop}{RR:Value→Addr→Result→Shared→Prop}{itv:Value}{Qe:Addr→Hp→Prop}
 (hc:X.calm=true) (S:CompScope sc N scope N' k idx) (hsc:X.env.scope=sc) (hNN:X.N=N)
 (hg:∀ C s H fp,PG (cxComp X N' scope C s H fp) tg g) (ht:∀ C s H fp,PTs (cxComp X N' scope C s H fp) ifs tt) (hk:∀ C s H fp,PE (cxComp X N' scope C s H fp) kx tk) (hv:∀ C s H fp,PE (cxComp X N' scope C s H fp) vx tv)
 (hit:PIE X pins σ tg (fun J H1=>∀ l,H1 l=none→dTurns J g tt tk tv l (startC k idx σ) (upd H1 l (.dK [])) fun H2=>Qe l H2) itv s)
 (hRR:∀ l H2 C s2,Inv X pins σ H2 s2→(∃ m,s2.heap.Ns C m)→Free1 X pins H2 C→Qe l H2→RR (.ref l) C (.ok .next) s2) :
 wpAny (model X.prog X.w) X.A newDict (fun acc s₃=>wpAny (model X.prog X.w) X.A (newFunctionEnv scope X.env.globals (closeL X.env scope.names []) [] X.env.qual none .none (some X.env)) (fun cenv s₄=>
  codeAny (model X.prog X.w) X.A (.compStart (.DictComp kx vx [⟨tg,iter,ifs,0⟩] scope pos) 0 itv acc { cenv with scope:=relabel scope X.env }) (RR acc cenv.locals) s₄) E s₃) E s:=by
 obtain ⟨it,fp,tn,J,H1,rfl,I1,T,st1,f1,q⟩:=hit
 refine wpAny_newObj_type ?_
 have hf0:H1 s.heap.objs.size=none:=I1.hok.fresh (Nat.le_refl _)
 have hflt:∀ b∈fp,b<s.heap.objs.size:=fun b hb=>let ⟨_,e,_⟩:=T.obj _ _ st1 b hb;Heap.lt_size e
 generalize hl:s.heap.objs.size=l at *
 have I2:Inv X pins σ (upd H1 l (.dK [])) { s with heap:=s.heap.push { cls:=.type "dict",data:=.dict #[] } }:=
  I1.laid (t':=s.toks) (fun b u e=>Heap.get?_push_of_some _ e) (Nat.le_of_eq hl) (by rw [← hl];exact dk_empty s.heap I1.big)
 have st2:tn 0 (s.heap.push { cls:=.type "dict",data:=.dict #[] }):=T.keep _ _ _ st1 fun b _ o e=>Heap.get?_push_of_some _ e
 have f2:∀ b∈fp,FpOk X pins (upd H1 l (.dK [])) b:=fun b hb=>⟨by rw [upd_ne (Nat.ne_of_lt (hflt b hb))];exact (f1 b hb).1,(f1 b hb).2⟩
 have hsz2:(s.heap.push { cls:=.type "dict",data:=.dict #[] }).objs.size=l+1:=by rw [Heap.size_push,hl]
 have q2:=q l hf0
 generalize hs2:({ s with heap:=s.heap.push { cls:=.type "dict",data:=.dict #[] } }:Shared)=s2 at I2 ⊢
 have st2:tn 0 s2.heap:=by rw [← hs2];exact st2
 have hsz2:s2.heap.objs.size=l+1:=by rw [← hs2];exact hsz2
 refine wpAny_newFunctionEnv S.nocell (by intro y hy;simp at hy) (fun h₁ hns₁ hsb₁=>?_) S.kind
 have hk1:∀ b o,s2.heap.get? b=some o→h₁.get? b=some o:=fun b o e=>hsb₁.extBut b o (Nat.ne_of_lt (Heap.lt_size e)) (Heap.get?_push_of_some _ e)
 have hlt2:∀ b∈fp,b<s2.heap.objs.size:=fun b hb=>by rw [hsz2];exact Nat.lt_succ_of_lt (hflt b hb)
 have I3:=comp_start (t':=s2.toks+([]:List (Str×Value)).length) I2 S hsc hNN f2 hlt2 (by simpa using hns₁) hk1
 generalize hC:s2.heap.objs.size=C at *
 have st3:tn 0 h₁:=T.keep _ _ _ st2 fun b _ o e=>hk1 b o e
 obtain ⟨W,⟨m0,w0⟩,turn⟩:=q2
 -- back to the frame around
 have back:∀ {σ':St} {H':Hp} {s':Shared},Inv (cxComp X N' scope C s2 (upd H1 l (.dK [])) fp) [] σ' H' s'→Inv X pins σ H' s':=fun {σ' H' s'} I'=>
  I2.call' I'.os I'.base I'.hok I'.bare fun b hb=>⟨(f2 b hb).2.2.2.1,(f2 b hb).2.1,(f2 b hb).2.2.2.2.1,(f2 b hb).2.2.2.2.2⟩
 have loop:∀ s₃:Shared,s₃ = { s2 with heap:=h₁,toks:=s2.toks+([]:List (Str×Value)).length } →
  codeAny (model X.prog X.w) X.A (.compLoop (.DictComp kx vx [⟨tg,iter,ifs,0⟩] scope pos) 0 (.ref it) (.ref l) (compEnvC scope (closeL X.env scope.names []) C X.env)) (RR (.ref l) C) s₃:=by
  rintro s₃ rfl
  refine compLoopD_go (fun n s'=>∃ i σ' H',Inv (cxComp X N' scope C s2 (upd H1 l (.dK [])) fp) [] σ' H' s'∧tn i s'.heap∧(∀ b∈fp,H' b=none)∧W i n σ' H') ?_ m0 ⟨0,_,_,I3,st3,fun b hb=>(f2 b hb).1,w0⟩
  rintro n s4 ⟨i,σ4,H4,I4,st4,fr4,w4⟩
  have stat:∀ {H':Hp},(∀ b∈fp,H' b=none)→∀ b∈fp,FpOk (cxComp X N' scope C s2 (upd H1 l (.dK [])) fp) [] H' b:=fun {H'} hn b hb=>
   ⟨hn b hb,(I4.ok.exf b hb).1,I4.ok.exfs b hb,.inl hb,(I4.ok.exf b hb).2,fun p hp=>by cases hp⟩
  rcases turn i n σ4 H4 w4 with ⟨stop,qn⟩ | ⟨go,step⟩
  · refine thn (T.done (cxComp X N' scope C s2 (upd H1 l (.dK [])) fp) rfl rfl rfl hc i [] s4 σ4 H4 NoE I4 (stat fr4) st4 stop) fun r s5 ⟨hr,I5⟩=>?_
    subst hr
    have IX:=back I5
    have hCl:C≠X.env.locals:=fun e=>by
     have:=I2.lt
     rw [hC,← e] at this
     exact Nat.lt_irrefl _ this
    have hCc:∀ x c,X.env.cells.lookup x=some c→c≠C:=fun x c e z=>by
     obtain ⟨v,o,ho,_⟩:=I2.cell x c e
     have:=Heap.lt_size ho
     rw [hC,z] at this
     exact Nat.lt_irrefl _ this
    obtain ⟨m5,hm5,_⟩:=I5.loc
    refine hRR l H4 C s5 IX ⟨m5,hm5⟩ ⟨hCl,hCc,I5.free,by rw [← hC];exact I2.sz,fun p hp z=>?_⟩ qn
    obtain ⟨e,_⟩:=I2.pin p hp
    have:=Heap.lt_size e
    rw [hC,z] at this
    exact Nat.lt_irrefl _ this
  · refine thn (T.item (cxComp X N' scope C s2 (upd H1 l (.dK [])) fp) rfl rfl rfl hc i [] s4 σ4 H4 NoE I4 (stat fr4) st4 go) fun r s5 ⟨u,hr,h5⟩=>?_
    subst hr
    refine thn h5 fun _ s6 ⟨x,H6,I6,r6,y6,st6,fr6⟩=>?_
    have I6':=I6.pinned (stat fr6) (T.obj _ _ st6)
    have keepT:∀ {σ7:St} {H7:Hp} {s7:Shared},Inv (cxComp X N' scope C s2 (upd H1 l (.dK [])) fp) ([]++pinsAt fp s6.heap) σ7 H7 s7→tn (i+1) s7.heap∧∀ b∈fp,H7 b=none:=fun {σ7 H7 s7} I7=>
     ⟨T.keep _ _ _ st6 fun b hb o e=>(I7.pin (b,o) (List.mem_append_right _ (List.mem_append_right _ (mem_pinsAt hb e)))).1,fun b hb=>by
      obtain ⟨o,e,d⟩:=T.obj _ _ st6 b hb
      exact (I7.pin (b,o) (List.mem_append_right _ (List.mem_append_right _ (mem_pinsAt hb e)))).2.1⟩
    refine thn (hg C s2 (upd H1 l (.dK [])) fp _ s6 σ4 H6 x u _ I6' r6 (step x H6 y6)) fun _ s7 ⟨σ7,H7,I7,q7⟩=>?_
    refine thn (ht C s2 (upd H1 l (.dK [])) fp _ s7 σ7 H7 _ I7 q7) fun ok s8 ⟨H8,I8,q8⟩=>?_
    cases ok with
    | false=>
     rw [if_neg (by decide)] at q8 ⊢
     obtain ⟨m',hm,w8⟩:=q8
     have kt:=keepT I8
     exact ⟨m',hm,i+1,σ7,H8,I8.unpinned,kt.1,kt.2,w8⟩
    | true=>
     rw [if_pos rfl] at q8 ⊢
     refine thn (hk C s2 (upd H1 l (.dK [])) fp _ s8 σ7 H8 _ I8 q8) fun u9 s9 ⟨y,H9,I9,r9,q9⟩=>?_
     refine thn (hv C s2 (upd H1 l (.dK [])) fp _ s9 σ7 H9 _ I9 q9) fun v s9' ⟨y',H9',I9',r9',kvs,ky,ey,e9,z9,m',hm,w9⟩=>?_
     subst ey
     refine d_set (X:=cxComp X N' scope C s2 (upd H1 l (.dK [])) fp) I9' e9 z9 r9 r9' fun s10 I10=>?_
     have kt:=keepT I10
     exact ⟨m',hm,i+1,σ7,_,I10.unpinned,kt.1,kt.2,w9⟩
 have e2:(newEnv scope C X.env.globals (closeL X.env scope.names []) X.env.qual none .none (some X.env) builtinsNs).locals=C:=rfl
 show codeAny _ _ (.compStart _ 0 (.ref it) (.ref l) (compEnvC scope (closeL X.env scope.names []) C X.env)) (RR (.ref l) C) _
 exact codeAny_compStart_dict (loop _ rfl) (T.self _ 0 _ _ _ st3 (loop _ rfl))
noncomputable def tSetCompD (i:Nat) (wi:TI) (k:Nat) (idx:List Nat) (g:TG) (tt:TT) (tk tv:TE):TS:=fun D σ H=>wi σ H fun J H1=>∀ l,H1 l=none→dTurns J g tt tk tv l (startC k idx σ) (upd H1 l (.dK [])) fun H2=>D.nx (σ.set i (some (.ref l))) H2
theorem ps_setcompD {i:Nat}{y:Str}{py spos:Pos}(hc:X.calm=true) (hN:X.N.Nodup) (hiN:X.N[i]? = some y) (hy:X.env.scope.names.lookup y=some .local) (S:CompScope sc N scope N' k idx) (hsc:X.env.scope=sc) (hNN:X.N=N) (hi:PI X tg iter wi)
 (hg:∀ C s H fp,PG (cxComp X N' scope C s H fp) tg g) (ht:∀ C s H fp,PTs (cxComp X N' scope C s H fp) ifs tt) (hk:∀ C s H fp,PE (cxComp X N' scope C s H fp) kx tk) (hv:∀ C s H fp,PE (cxComp X N' scope C s H fp) vx tv)
 (hsw:swapsWith (.DictComp kx vx [⟨tg,iter,ifs,0⟩] scope pos) (some (.Name y py)) spos.line X.env=pure true:=by rfl)
 (hs:∀ x,foldedSetIterable iter X.env x=pure x:=by intro _;rfl):PS X (.Assign [.Name y py] (.DictComp kx vx [⟨tg,iter,ifs,0⟩] scope pos) spos) (tSetCompD i wi k idx g tt tk tv):=by
 intro pins s σ H D I h
 rw [exec_Assign_Name_used _ _ _ _ hsw]
 refine wpAny_bind (wpAny_standAt (wpAny_bind ?_))
 show wpAny _ X.A (do let _ ← comprehension (.DictComp kx vx [⟨tg,iter,ifs,0⟩] scope pos) scope X.env _ newDict false (eval iter X.env) (some (assign (.Name y py) X.env))) _ _ s
 have hclos:closureFor scope X.env=pure (closeL X.env scope.names []):=closureFor_eq fun x hx hfree=>I.ok.has x.1 (by
  show X.env.scope.names.lookup x.1=_∨X.env.scope.names.lookup x.1=_
  rw [hsc];exact S.fr x hx hfree)
 refine wpAny_bind (wpAny_mono (wpAny_comprehension_free (use:=some (assign (.Name y py) X.env)) (Q:=fun _ s'=>SP X pins D .next s') rfl hs hclos S.kind S.loc (thn (hi pins s σ H _ I h) fun v s1 h1=>thn h1 fun itv s2 h2=>?_))
  (fun _ s' hq=>wpAny_pure (wpAny_pure hq)) fun _ _ e=>e)
 refine comp_blockD (RR:=fun acc C=>compPost (model X.prog X.w) X.A X.xe (some (assign (.Name y py) X.env)) (fun _ s'=>SP X pins D .next s') acc C) (Qe:=fun l H2=>D.nx (σ.set i (some (.ref l))) H2) hc S hsc hNN hg ht hk hv h2 ?_
 intro l H2 C s2 I2 hm f q
 obtain ⟨m,hm⟩:=hm
 show wpAny _ X.A (assign (.Name y py) X.env (.ref l)) _ _ _
 refine wpAny_assign_Name (store_ok2 (v:=.ref l) I2 hN hiN (.inl hy) rfl (fun s' I' hch=>?_) (.inr hy))
 obtain ⟨a,hsb,ha⟩:=hch
 have haC:C≠a:=fun z=>by
  rcases ha with e | e
  · exact f.loc (z.trans e)
  · exact f.cel y a e z.symm
 exact ⟨m,hm.sameBut hsb haC,fun h' hs'=>⟨_,H2,I'.freed f hs',q⟩⟩
end
section
variable {X:Cx}
theorem call_minD (hc:X.calm=true):CallR X (.builtin "min") (fun xs H Q=>∃ (p:Addr) (kvs:List (Key×V)) (ns:List Int),xs=[.ref p]∧H p=some (.dK kvs)∧kvs.map (·.1)=ns.map Sum.inl∧ns≠[]∧∀ m∈ns,(∀ n∈ns,m≤n)→Q (.int m) H):=by
 intro pins s σ H xs us Q I r h
 obtain ⟨p,kvs,ns,rfl,e,hn,hne,q⟩:=h
 obtain ⟨u,rfl,ru⟩:=vals1 r
 cases ru
 obtain ⟨z,hd,vs,rel,dd⟩:=dk_of I.hok e
 have hl:vs.length=kvs.length:=rel.length.symm
 have hk:vs.map (·.1)=ns.map Sum.inl:=by
  rw [← hn]
  have:∀ {a:List (Key×V)} {b:List (Key×Value)},KV a b→b.map (·.1)=a.map (·.1):=by
   intro a b h
   unfold KV at h
   induction h with
   | nil=>rfl
   | cons h _ ih=>rw [List.map_cons,List.map_cons,ih,h.1]
  exact this rel
 have hlen:vs.length=ns.length:=by
  have:=congrArg List.length hk
  rw [List.length_map,List.length_map] at this
  exact this
 have hpos:0<ns.length:=List.length_pos_iff.mpr hne
 obtain ⟨ep,da⟩:∃ ep,s.heap.DictAt (mixKind X.prog X.w) p vs ep:=by
  obtain ⟨o,es,ep,r⟩:=id dd
  exact ⟨ep,o,es,r⟩
 have hlt:p<s.heap.objs.size:=by
  obtain ⟨o,es,ho,_⟩:=id da
  exact Heap.lt_size ho
 refine call_min_walk (wpAny_pyIter_dict hd da ?_)
 have inv:∀ i v,(∃ k x,vs[i]? = some (k,x)∧(mixKind X.prog X.w).is k v=true)→i<ns.length∧∃ t,v = .int (ns.getD i 0) t:=by
  rintro i v ⟨k,x,hx,hkv⟩
  have hi:i<ns.length:=by rw [← hlen];exact (List.getElem?_eq_some_iff.mp hx).1
  have e1:(vs.map (·.1))[i]? = some k:=by rw [List.getElem?_map,hx];rfl
  rw [hk,List.getElem?_map,List.getElem?_eq_getElem hi] at e1
  cases e1
  refine ⟨hi,?_⟩
  rcases keyIs_shape (show keyIs (Sum.inl ns[i]) v=true from hkv) with ⟨j,t,ek,ev⟩ | ⟨y,t,ek,_⟩
  · refine ⟨t,?_⟩
    rw [ev,List.getD_eq_getElem?_getD,List.getElem?_eq_getElem hi]
    have:=Sum.inl.inj ek
    rw [← this];rfl
  · cases ek
 refine ⟨_,_,_,_,_,_,_,rfl,Walks.dictKeys (knd:=mixKind X.prog X.w) (A:=X.A.in1) (I.ok.hd hc) s.heap.objs.size p (Nat.ne_of_lt hlt) vs ep,?_,?_,by omega,CmpOf.ints_lt (fun i=>ns.getD i 0) (fun i v h=>(inv i v h).2),fun v h' tk hP hkp=>?_⟩
 · exact ⟨⟨_,Heap.get?_push_size _ rfl,rfl,rfl⟩,da.at' fun o e=>Heap.get?_push_of_some _ e⟩
 · intro b hb
   show b<(s.heap.push _).objs.size
   rw [Heap.size_push]
   rcases List.mem_cons.mp hb with rfl | hb
   · exact Nat.lt_succ_self _
   · rw [List.mem_singleton.mp hb];exact Nat.lt_succ_of_lt hlt
 · obtain ⟨b1,b2⟩:=argBest_lt (fun i=>ns.getD i 0) (vs.length-1)
   generalize argBest (fun i j=>decide ((fun i=>ns.getD i 0) i<(fun i=>ns.getD i 0) j)) (vs.length-1)=m at hP b1 b2
   obtain ⟨hm,t,rfl⟩:=inv m v hP
   have keep:∀ b o,s.heap.get? b=some o→h'.get? b=some o:=fun b o e=>hkp b o (fun z=>by
    rw [List.mem_singleton.mp z] at e
    exact absurd (Heap.lt_size e) (Nat.lt_irrefl _)) (Heap.get?_push_of_some _ e)
   have gm:∀ i (hi:i<ns.length),ns.getD i 0=ns[i]:=fun i hi=>by rw [List.getD_eq_getElem?_getD,List.getElem?_eq_getElem hi];rfl
   refine ⟨.int (ns.getD m 0),H,I.kept (t':=tk) keep,⟨t,rfl⟩,q _ ?_ fun n hn=>?_⟩
   · rw [gm m hm];exact List.getElem_mem _
   · obtain ⟨i,hi,rfl⟩:=List.mem_iff_getElem.mp hn
     rw [← gm i hi]
     exact b2 i (by omega)
end
end L2
namespace My
open PySem PySem.Spec PyProof.Rows L2
noncomputable def valD (kvs:List (Key×PyData)) (k:Key):Option PyData:=(kvs.find? fun kv=>decide (kv.1=k)).map (·.2)
noncomputable def putQ (kvs:List (Key×PyData)) (k:Key) (v:PyData):List (Key×PyData):=
 if (kvs.any fun kv=>decide (kv.1=k))=true then kvs.map (fun kv=>if kv.1=k then (kv.1,v) else kv) else kvs++[(k,v)]
theorem kv_cons {ex:List Addr}{H:Hp}{p:Key×PyData}{kvs:List (Key×PyData)}{kws:List (Key×V)}(h:KvR ex H (p::kvs) kws):∃ v rest,kws=(p.1,v)::rest∧Rep ex H p.2 v∧KvR ex H kvs rest:=by
 obtain ⟨h1,h2⟩:=h
 cases kws with
 | nil=>cases h1
 | cons q rest=>
  rw [List.map_cons,List.map_cons] at h1 h2
  injection h1 with a b
  cases h2 with
  | cons r t=>exact ⟨q.2,rest,by rw [← a],r,b,t⟩
theorem kv_nil {ex:List Addr}{H:Hp}{kws:List (Key×V)}(h:KvR ex H [] kws):kws=[]:=by
 have:=h.1
 cases kws with
 | nil=>rfl
 | cons _ _=>cases this
theorem kv_val {ex:List Addr}{H:Hp}{k:Key}:∀ {kvs:List (Key×PyData)}{kws:List (Key×V)},KvR ex H kvs kws→(valD kvs k=none∧valV kws k=none)∨∃ d v,valD kvs k=some d∧valV kws k=some v∧Rep ex H d v
 | [],kws,h=>by rw [kv_nil h];exact .inl ⟨rfl,rfl⟩
 | p::kvs,kws,h=>by
  obtain ⟨v,rest,rfl,r,t⟩:=kv_cons h
  by_cases e:p.1=k
  · exact .inr ⟨p.2,v,by unfold valD;rw [List.find?_cons_of_pos (by simp [e])];rfl,valV_pos e,r⟩
  · have e1:valD (p::kvs) k=valD kvs k:=by unfold valD;rw [List.find?_cons_of_neg (by simp [e])]
    rw [e1,valV_neg (p:=(p.1,v)) e]
    exact kv_val t
theorem kv_any {ex:List Addr}{H:Hp}{k:Key}:∀ {kvs:List (Key×PyData)}{kws:List (Key×V)},KvR ex H kvs kws→(kws.any fun kv=>decide (kv.1=k))=kvs.any fun kv=>decide (kv.1=k)
 | [],kws,h=>by rw [kv_nil h];rfl
 | p::kvs,kws,h=>by
  obtain ⟨v,rest,rfl,r,t⟩:=kv_cons h
  rw [List.any_cons,List.any_cons,kv_any t]
theorem kv_map {ex:List Addr}{H:Hp}{k:Key}{d:PyData}{w:V}(rd:Rep ex H d w):∀ {kvs:List (Key×PyData)}{kws:List (Key×V)},KvR ex H kvs kws→KvR ex H (kvs.map fun kv=>if kv.1=k then (kv.1,d) else kv) (kws.map fun kv=>if kv.1=k then (kv.1,w) else kv)
 | [],kws,h=>by rw [kv_nil h];exact ⟨rfl,.nil⟩
 | p::kvs,kws,h=>by
  obtain ⟨v,rest,rfl,r,t⟩:=kv_cons h
  obtain ⟨t1,t2⟩:=kv_map rd t
  rw [List.map_cons,List.map_cons]
  by_cases e:p.1=k
  · rw [if_pos e,if_pos e]
    exact ⟨by rw [List.map_cons,List.map_cons,t1],.cons rd t2⟩
  · rw [if_neg e,if_neg e]
    exact ⟨by rw [List.map_cons,List.map_cons,t1],.cons r t2⟩
theorem kv_put {ex:List Addr}{H:Hp}{k:Key}{d:PyData}{w:V}{kvs:List (Key×PyData)}{kws:List (Key×V)}(h:KvR ex H kvs kws) (rd:Rep ex H d w):KvR ex H (putQ kvs k d) (putK kws k w):=by
 unfold putQ putK
 rw [kv_any h]
 split
 · exact kv_map rd h
 · exact ⟨by rw [List.map_append,List.map_append,h.1];rfl,by rw [List.map_append,List.map_append];exact Reps.append h.2 (.cons rd .nil)⟩
theorem kv_len {ex:List Addr}{H:Hp}{kvs:List (Key×PyData)}{kws:List (Key×V)}(h:KvR ex H kvs kws):kws.length=kvs.length:=by
 have:=congrArg List.length h.1
 rw [List.length_map,List.length_map] at this
 exact this
theorem KvR.kp {ex:List Addr}{H H':Hp}{kvs:List (Key×PyData)}{kws:List (Key×V)}(h:KvR ex H kvs kws) (k:Kp ex H H'):KvR ex H' kvs kws:=⟨h.1,h.2.keep k⟩
section
variable {C:Cv}{ex:List Addr}{env:List Vl}{σ:L2.St}{H H':Hp}{n m:Nat}
theorem own_atD {i:Nat}{ds:List (Key×PyData)}{a b:Addr}(h:b∈ownAt (env.set i (.dct ds)) (σ.set i (some (.ref a))) i):b=a:=by
 unfold ownAt at h
 split at h
 · rename_i e1 e2
   have:=set_get e1
   cases this
 · rename_i c e1 e2
   have e3:(σ.set i (some (.ref a)))[i]? = some (some (.ref c)):=join_some e2
   have:=set_get e3
   cases this
   exact List.mem_singleton.mp h
 · rename_i e1 e2
   have:=set_get e1
   cases this
 · cases h
theorem At.ownD (A:At C ex env σ H n) {i:Nat}{ds:List (Key×PyData)}{vs:List (Key×V)}{a:Addr}(s:Step C.S m H H') (ha:H a=none) (hl:H' a=some (.dK vs)) (r:KvR (a::ex) H' ds vs) :
 At C (a::ex) (env.set i (.dct ds)) (σ.set i (some (.ref a))) H' m:=by
 have ac:a∉C.S.ch:=fun z=>C.S.dom A.ev.inv a z ha
 have hc:∀ b∈C.S.ch,b∈a::ex:=fun b h=>List.mem_cons_of_mem _ (A.ev.ch b h)
 have E1:Ev C.S (a::ex) env σ H' m:=by
  refine ⟨A.ev.len,fun j w e=>(SlR.add ha (A.ev.sl j w e)).kp hc s.1,hc,fun b hb=>?_,s.2⟩
  rcases List.mem_cons.mp hb with rfl | hb
  · rw [hl];intro z;cases z
  · exact A.ev.al.step s b hb
 refine ⟨E1.put ⟨a,vs,rfl,hl,r,List.mem_cons_self,ac⟩,fun b h=>List.mem_cons_of_mem _ (A.ex0 b h),A.al0,fun j k b h1 h2=>?_,fun j b h=>?_,A.kp.trans s.1,fun h hh=>(Rep.add ha (A.held h hh)).keep (s.1.mono hc)⟩
 · by_cases hj:i=j
   · subst hj
     have e:=own_atD h1
     subst e
     by_cases hk:i=k
     · exact hk
     · rw [own_other hk] at h2
       exact absurd ha (own_sl A.ev h2).1
   · rw [own_other hj] at h1
     by_cases hk:i=k
     · subst hk
       have e:=own_atD h2
       subst e
       exact absurd ha (own_sl A.ev h1).1
     · rw [own_other hk] at h2
       exact A.sep j k b h1 h2
 · by_cases hj:i=j
   · subst hj
     have e:=own_atD h
     subst e
     exact A.free ha
   · rw [own_other hj] at h
     exact A.new j b h
theorem own_sameD {i:Nat}{xs ys:List (Key×PyData)}(h:env[i]? = some (.dct xs)):∀ j,ownAt (env.set i (.dct ys)) σ j=ownAt env σ j:=fun j=>by
 unfold ownAt
 by_cases hj:i=j
 · subst hj
   rw [List.getElem?_set_self (List.getElem?_eq_some_iff.mp h).1,h]
   cases (σ[i]?).join with
   | none=>rfl
   | some v=>cases v<;>rfl
 · rw [List.getElem?_set_ne hj]
theorem At.reD (A:At C ex env σ H n) {i:Nat}{xs ys:List (Key×PyData)}{ws:List (Key×V)}{a:Addr}(h:env[i]? = some (.dct xs)) (hs:(σ[i]?).join=some (.ref a)) (r:KvR ex H ys ws) :
 At C ex (env.set i (.dct ys)) σ (upd H a (.dK ws)) n:=by
 have ha:a∈ownAt env σ i:=by unfold ownAt;rw [h,hs];exact List.mem_singleton.mpr rfl
 obtain ⟨h1,h2,h3⟩:=own_sl A.ev ha
 have h0:=A.new i a ha
 have kx:Kp ex H (upd H a (.dK ws)):=Kp.at h2 _
 refine ⟨⟨by rw [List.length_set];exact A.ev.len,fun j w e=>?_,A.ev.ch,fun b hb=>?_,C.S.keep A.ev.inv fun b hb o e=>by rw [upd_ne (fun z=>h3 (by rw [← z];exact hb))];exact e⟩,A.ex0,A.al0,fun j k b q1 q2=>?_,fun j b q=>?_,Kp.late A.kp h0 _,fun x hx=>(A.held x hx).keep kx⟩
 · by_cases hj:i=j
   · subst hj
     rw [List.getElem?_set_self (List.getElem?_eq_some_iff.mp h).1] at e
     cases e
     exact ⟨a,ws,hs,upd_same,⟨r.1,r.2.keep kx⟩,h2,h3⟩
   · rw [List.getElem?_set_ne hj] at e
     exact SlR.upd h2 (fun b hb z=>hj (A.sep i j a ha (by rw [own_one e,← z];exact hb))) (A.ev.sl j w e)
 · by_cases hb2:b=a
   · rw [hb2,upd_same];intro z;cases z
   · rw [upd_ne hb2];exact A.ev.al b hb
 · rw [own_sameD h] at q1 q2;exact A.sep j k b q1 q2
 · rw [own_sameD h] at q;exact A.new j b q
theorem At.at_dct (A:At C ex env σ H n) {i:Nat}{xs:List (Key×PyData)}(e:env[i]? = some (.dct xs)):∃ a kws,(σ[i]?).join=some (.ref a)∧H a=some (.dK kws)∧KvR ex H xs kws∧a∈ex∧a∉C.S.ch:=by
 obtain ⟨a,vs,ev,h1,h2,h4,h5⟩:=A.ev.sl i _ e
 exact ⟨a,vs,ev,h1,h2,h4,h5⟩
end
noncomputable instance (priority:=high) sv_dnew {i:Nat}:SV (tAsg tDNewK (gName i)) (fun G env n=>G.nx (env.set i (.dct [])) n):=⟨fun {C G D} O {ex env σ H n} A h=>fun p hp=>
 O.nx (A.ownD (Step.new A.ev.inv (Kp.new hp _)) hp upd_same ⟨rfl,.nil⟩) h⟩
noncomputable abbrev gDctGet (i:Nat) (gy:GE):GE:=fun env n Q=>match env[i]? with
 | some (.dct kvs)=>gy env n fun y n1=>(match y with
  | .int j=>∃ d,valD kvs (Sum.inl j)=some d∧Q d n1
  | _=>False)
 | _=>False
noncomputable instance ev_dctGet {i:Nat}{ty:TE}{gy:GE} [Y:EV false ty gy]:EV true (tDGet (tVar i) ty) (gDctGet i gy):=⟨fun {S ex env σ H n Q P} E h k=>by
 unfold gDctGet at h
 split at h
 · rename_i kvs e
   obtain ⟨a,kws,ev,h1,h2,h4,h5⟩:=E.sl i _ e
   refine ⟨_,join_some ev,Y.ev E h fun y n1 yv H1 hy s1 ry=>?_⟩
   cases ry with
   | int j=>
    obtain ⟨d,hd,hq⟩:=hy
    have h2':=h2.kp (s1.1.mono E.ch)
    rcases kv_val (k:=Sum.inl j) h2' with ⟨e1,_⟩ | ⟨d',v,e1,e2,rd⟩
    · rw [hd] at e1;cases e1
    · rw [hd] at e1;cases e1
      refine ⟨a,v,rfl,by rw [← e2];exact DGet.k (k:=Sum.inl j) (s1.1 _ _ h1 h5),k _ _ _ _ hq s1 rd⟩
   | none=>exact hy.elim
   | bool=>exact hy.elim
   | str=>exact hy.elim
   | list=>exact hy.elim
   | tuple=>exact hy.elim
 · exact h.elim⟩
noncomputable abbrev gDLook2 (i:Nat) (gy:GE):GE:=fun env n Q=>match env[i]? with
 | some (.dct kvs)=>gy env n fun y n1=>(match y with
  | .int j=>∃ d,valD kvs (Sum.inl j)=some d∧Q d n1
  | _=>False)
 | some (.own2 (some ks) ps)=>gy env n fun y n1=>(match y with
  | .int j=>Sum.inl j∈ks∧∀ (m:Nat) (p:Addr×List PyData),ks[m]? = some (Sum.inl j)→ps[m]? = some p→Q (.list p.2) n1
  | _=>False)
 | _=>False
noncomputable instance (priority:=high) ev_dlook2 {i:Nat}{ty:TE}{gy:GE} [Y:EV false ty gy]:EV false (tDGet (tVar i) ty) (gDLook2 i gy):=⟨fun {S ex env σ H n Q P} E h k=>by
 unfold gDLook2 at h
 split at h
 · rename_i kvs e
   refine (ev_dctGet (i:=i) (ty:=ty)).ev (P:=P) E ?_ fun d n' v H' p s r=>k d n' v H' p s (Rep.mono E.ch r)
   unfold gDctGet
   rw [e]
   exact h
 · rename_i ks ps e
   refine (ev_dlook (i:=i) (ty:=ty)).ev (P:=P) E ?_ k
   unfold gDLook
   rw [e]
   exact h
 · exact h.elim⟩
noncomputable abbrev gDIn (neg:Bool) (i:Nat) (gy:GE):GE:=fun env n Q=>gy env n fun y n1=>match env[i]? with
 | some (.dct kvs)=>(match y with
  | .int j=>Q (.bool (if neg then !(valD kvs (Sum.inl j)).isSome else (valD kvs (Sum.inl j)).isSome)) n1
  | _=>False)
 | _=>False
theorem din_ok {S:Src}{ex:List Addr}{env:List Vl}{σ:L2.St}{H:Hp}{n:Nat}{i:Nat}{kvs:List (Key×PyData)}{j:Int}(E:Ev S ex env σ H n) (e:env[i]? = some (.dct kvs)):∃ a o,(σ[i]?).join=some (.ref a)∧DGet H a (.int j) o∧o.isSome=(valD kvs (Sum.inl j)).isSome:=by
 obtain ⟨a,kws,ev,h1,h2,h4,h5⟩:=E.sl i _ e
 refine ⟨a,_,ev,DGet.k (k:=Sum.inl j) h1,?_⟩
 rcases kv_val (k:=Sum.inl j) h2 with ⟨e1,e2⟩ | ⟨d',v,e1,e2,rd⟩
 · rw [e1,e2];rfl
 · rw [e1,e2];rfl
noncomputable instance ev_dNotIn {b:Bool}{i:Nat}{ty:TE}{gy:GE} [Y:EV false ty gy]:EV b (tDNotIn ty (tVar i)) (gDIn true i gy):=⟨fun {S ex env σ H n Q P} E h k=>Y.ev E h fun y n1 yv H1 hy s1 ry=>by
 have E1:=E.step s1
 split at hy
 · rename_i kvs e
   cases ry with
   | int j=>
    obtain ⟨a,o,ev,dg,eo⟩:=din_ok (j:=j) E1 e
    exact ⟨_,join_some ev,a,o,rfl,dg,k _ _ _ _ hy s1 (by rw [if_pos rfl,← eo];exact .bool _)⟩
   | none=>exact hy.elim
   | bool=>exact hy.elim
   | str=>exact hy.elim
   | list=>exact hy.elim
   | tuple=>exact hy.elim
 · exact hy.elim⟩
noncomputable abbrev gDPutD (i:Nat) (gy ge:GE):GS:=fun G env n=>ge env n fun d n1=>match env[i]? with
 | some (.dct kvs)=>gy env n1 fun y n2=>(match y with
  | .int j=>kvs.length<sizeLine∧G.nx (env.set i (.dct (putQ kvs (Sum.inl j) d))) n2
  | _=>False)
 | _=>False
noncomputable instance sv_dputQ {i:Nat}{ty tv:TE}{gy ge:GE} [Y:EV false ty gy] [E:EV true tv ge]:SV (sDPut (tVar i) ty tv) (gDPutD i gy ge):=⟨fun {C G D} O {ex env σ H n} A h=>E.ev A.ev h fun d n1 v H1 hd s1 rd=>by
 have A1:=A.step s1
 split at hd
 · rename_i kvs e
   obtain ⟨a,kws,ev,h1,h2,h4,h5⟩:=A1.at_dct e
   refine ⟨_,join_some ev,Y.ev A1.ev hd fun y n2 yv H2 hy s2 ry=>?_⟩
   have A2:=A1.step s2
   cases ry with
   | int j=>
    obtain ⟨hl,hq⟩:=hy
    have h1':=s2.1 _ _ h1 h5
    have h2':=h2.kp (s2.1.mono A1.ev.ch)
    have rd':=A1.ev.rep s2 rd
    exact ⟨a,_,rfl,DPut.k (k:=Sum.inl j) h1' (by rw [kv_len h2];exact hl),O.nx (A2.reD e ev (kv_put h2' rd')) hq⟩
   | none=>exact hy.elim
   | bool=>exact hy.elim
   | str=>exact hy.elim
   | list=>exact hy.elim
   | tuple=>exact hy.elim
 · exact hd.elim⟩
noncomputable def cmpDW (turn:PyData→Nat→(Option (Int×PyData)→Nat→Prop)→Prop):List PyData→Nat→List (Key×PyData)→(List (Key×PyData)→Nat→Prop)→Prop
 | [],n,acc,Q=>Q acc n
 | x::xs,n,acc,Q=>turn x n fun o n1=>match o with
  | none=>cmpDW turn xs n1 acc Q
  | some p=>cmpDW turn xs n1 (putQ acc (Sum.inl p.1) p.2) Q
noncomputable abbrev gTurnD (bd:GG) (gt:GT) (gk gv:GE) (env:List Vl):PyData→Nat→(Option (Int×PyData)→Nat→Prop)→Prop:=fun x n Q=>bd x env fun env'=>gt env' n fun c n1=>if c=true then gk env' n1 fun y n2=>(match y with | .int j=>gv env' n2 fun d n3=>Q (some (j,d)) n3 | _=>False) else Q none n1
noncomputable abbrev gSetCompD (i:Nat) (gi:GN) (k:Nat) (idx ks:List Nat) (bd:GG) (gt:GT) (gk gv:GE):GS:=fun G env n=>gi env n fun items n1=>(ks.all (fun i=>decide (i<k))=true∧items.length≤sizeLine)∧cmpDW (gTurnD bd gt gk gv (jenv k idx env)) items n1 [] fun kvs n2=>G.nx (env.set i (.dct kvs)) n2
noncomputable instance sv_setcompD {i0:Nat}{wi:TI}{gi:GN}{k:Nat}{idx ks:List Nat}{g:TG}{bd:GG}{tt:TT}{gt:GT}{tk tv:TE}{gk gv:GE} [I:IC wi gi] [G':GV g bd ks] [T:TV tt gt] [A:EV false tk gk] [B:EV true tv gv]:SV (tSetCompD i0 wi k idx g tt tk tv) (gSetCompD i0 gi k idx ks bd gt gk gv):=⟨fun {C G D} O {ex env σ H n} A0 h=>by
 have E:=A0.ev
 refine I.ic E h fun items n1 J H1 hc s1 hit l hl=>?_
 obtain ⟨⟨hk,hz⟩,hc⟩:=hc
 have E1:=ev_inner (E.step s1) k idx
 have lch:l∉C.S.ch:=fun z=>C.S.dom s1.2 l z hl
 have hkk:∀ i∈ks,i<k:=fun i hi=>of_decide_eq_true (List.all_eq_true.mp hk i hi)
 refine ⟨fun i m σ' H2=>i≤items.length∧m=items.length-i∧∃ (n2:Nat) (ds:List (Key×PyData)) (vs:List (Key×V)),cmpDW (gTurnD bd gt gk gv (jenv k idx env)) (items.drop i) n2 ds (fun kvs n'=>G.nx (env.set i0 (.dct kvs)) n')∧Kp (l::C.S.ch) H1 H2∧H2 l=some (.dK vs)∧vs.length≤i∧KvR (l::ex) H2 ds vs∧C.S.inv n2 H2∧(∀ j:Nat,k≤j→σ'[j]? = (startC k idx σ)[j]?)∧σ'.length=(startC k idx σ).length,
  ⟨items.length,Nat.zero_le _,rfl,n1,[],[],by simpa using hc,Kp.new hl _,upd_same,Nat.le_refl _,⟨rfl,.nil⟩,C.S.keep s1.2 fun b _ o' e=>Kp.new (ex:=[]) hl _ _ _ e (by simp),fun _ _=>rfl,rfl⟩,?_⟩
 rintro i m σ' H2 ⟨hi,rfl,n2,ds,vs,hcm,kp,h2l,hvl,rs,iv2,hsl,hln⟩
 have E2:Ev C.S (l::ex) (jenv k idx env) σ' H2 n2:=ev_turn E1 hl kp (by rw [h2l];intro z;cases z) iv2 jenv_jnk hsl hln
 have IT:=hit l H2 hl kp E2.al
 rcases Nat.lt_or_ge i items.length with hlt | hge
 · refine .inr ⟨(IT.2 i items[i] (List.getElem?_eq_getElem hlt)).1,fun x H3 y=>?_⟩
   obtain ⟨kp3,rx⟩:=(IT.2 i items[i] (List.getElem?_eq_getElem hlt)).2 x H3 y
   rw [List.drop_eq_getElem_cons hlt] at hcm
   have st3:Step C.S n2 H2 H3:=Step.new E2.inv kp3
   have E3:=E2.step st3
   refine G'.gv E3 rx hcm fun env' σ2 ht E4 _ hs hl2=>T.tv E4 ht fun c n4 H4 h4 s4=>?_
   have hs2:∀ j:Nat,k≤j→σ2[j]? = (startC k idx σ)[j]?:=fun j hj=>by
    rw [hs j fun z=>by have:=hkk j z;omega];exact hsl j hj
   cases c with
   | true=>
    refine A.ev (E4.step s4) h4 fun y n5 yv H5 h5 s5 ry=>?_
    cases ry with
    | int j=>
     refine B.ev ((E4.step s4).step s5) h5 fun d n6 v H6 h6 s6 r6=>?_
     have s26:=st3.trans (s4.trans (s5.trans s6))
     have k6:Kp C.S.ch H2 H6:=s26.1
     have h6l:H6 l=some (.dK vs):=k6 _ _ h2l lch
     have q1:KvR (l::ex) H6 ds vs:=rs.kp (k6.mono E2.ch)
     refine ⟨vs,Sum.inl j,rfl,h6l,by omega,_,(?_:items.length-(i+1)<_),hlt,rfl,n6,putQ ds (Sum.inl j) d,putK vs (Sum.inl j) v,h6,?_,upd_same,?_,(kv_put q1 r6).kp (Kp.at List.mem_cons_self _),?_,hs2,hl2.trans hln⟩
     · omega
     · exact (kp.trans (k6.mono fun b hb=>List.mem_cons_of_mem _ hb)).trans (Kp.at List.mem_cons_self _)
     · have:=length_putK vs (Sum.inl j) v;omega
     · exact C.S.keep s26.2 fun b hb o e=>by rw [upd_ne (fun z=>lch (by rw [← z];exact hb))];exact e
    | none=>exact h5.elim
    | bool=>exact h5.elim
    | str=>exact h5.elim
    | list=>exact h5.elim
    | tuple=>exact h5.elim
   | false=>
    have s24:=st3.trans s4
    refine ⟨_,(?_:items.length-(i+1)<_),hlt,rfl,n4,ds,vs,h4,kp.trans (s24.1.mono fun b hb=>List.mem_cons_of_mem _ hb),s24.1 _ _ h2l lch,by omega,rs.kp (s24.1.mono E2.ch),s24.2,hs2,hl2.trans hln⟩
    omega
 · have e:i=items.length:=by omega
   subst e
   rw [List.drop_length] at hcm
   refine .inl ⟨IT.1,?_⟩
   exact O.nx (A0.ownD (i:=i0) ⟨fun b o e nb=>kp b o (s1.1 b o e nb) fun z=>(List.mem_cons.mp z).elim (fun e2=>by rw [e2,s1.free hl] at e;cases e) nb,iv2⟩ (s1.free hl) h2l rs) hcm⟩
noncomputable def rMinD:List V→Hp→VK→Prop:=fun xs H Q=>∃ (p:Addr) (kvs:List (Key×V)) (ns:List Int),xs=[.ref p]∧H p=some (.dK kvs)∧kvs.map (·.1)=ns.map Sum.inl∧ns≠[]∧∀ m∈ns,(∀ n∈ns,m≤n)→Q (.int m) H
theorem call_minQ {X:Cx}(hc:X.calm=true):CallR X (.builtin "min") rMinD:=call_minD hc
noncomputable abbrev gMinD (i:Nat):GE:=fun env n Q=>match env[i]? with
 | some (.dct kvs)=>∃ ns:List Int,kvs.map (·.1)=ns.map Sum.inl∧ns≠[]∧∀ m∈ns,(∀ k∈ns,m≤k)→Q (.int m) n
 | _=>False
noncomputable instance (priority:=high) ev_minD {b:Bool}{i:Nat}:EV b (tCB rMinD (tCons (tVar i) tNil)) (gMinD i):=⟨fun {S ex env σ H n Q P} E h k=>by
 unfold gMinD at h
 split at h
 · rename_i kvs e
   obtain ⟨a,kws,ev,h1,h2,h4,h5⟩:=E.sl i _ e
   obtain ⟨ns,hn,hne,q⟩:=h
   exact ⟨_,join_some ev,a,kws,ns,rfl,h1,h2.1.trans hn,hne,fun m hm hle=>k _ _ _ _ (q m hm hle) (.refl E.inv) (.int m)⟩
 · exact h.elim⟩
class ScalN (sp:GSn):Prop where
 sc:∀ {as:List Vl} {n:Nat} {P:List PyData→Nat→Prop},sp as n P→sp as n fun ds n'=>ds.all scalD=true∧P ds n'
noncomputable instance (priority:=high) nv_callL {sp:GSn}{E':XK}{t:TA}{gt:GA} [Z:ScalN sp] [A:AV false t gt]:NV (tCall (liftN sp) [] E' t) (gCallN sp gt):=⟨fun {S ex env σ H n Q P} E h k=>
 A.av E h fun as n1 vs H1 h1 s1 r1=>by
  rw [List.append_nil]
  exact ⟨S,S.ch,as,n1,_,r1,fun _ h=>h,fun a ha=>(E.step s1).al a (E.ch a ha),s1.2,Z.sc h1,fun ds n' a ws H' p s2 ha hl hz r=>k _ _ _ _ _ p.2 (s1.trans s2) (s1.free ha) hl hz (scal_reps p.1 r _)⟩⟩
theorem find_putQ {k k':Key}{v:PyData}:∀ (kvs:List (Key×PyData)),(kvs.map fun kv=>if kv.1=k then (kv.1,v) else kv).find? (fun kv=>decide (kv.1=k'))=(kvs.find? fun kv=>decide (kv.1=k')).map fun kv=>if kv.1=k then (kv.1,v) else kv
 | []=>rfl
 | p::kvs=>by
  rw [List.map_cons]
  have e1:(if p.1=k then (p.1,v) else p).1=p.1:=by split<;>rfl
  by_cases e:p.1=k'
  · rw [List.find?_cons_of_pos (p:=fun kv:Key×PyData=>decide (kv.1=k')) (show decide ((if p.1=k then (p.1,v) else p).1=k')=true by rw [e1];exact decide_eq_true e),List.find?_cons_of_pos (p:=fun kv:Key×PyData=>decide (kv.1=k')) (decide_eq_true e)];rfl
  · rw [List.find?_cons_of_neg (p:=fun kv:Key×PyData=>decide (kv.1=k')) (show ¬ decide ((if p.1=k then (p.1,v) else p).1=k')=true by rw [e1];simpa using e),List.find?_cons_of_neg (p:=fun kv:Key×PyData=>decide (kv.1=k')) (by simpa using e)]
    exact find_putQ kvs
theorem val_put (kvs:List (Key×PyData)) (k k':Key) (v:PyData):valD (putQ kvs k v) k'=if k'=k then some v else valD kvs k':=by
 unfold putQ valD
 by_cases h:(kvs.any fun kv=>decide (kv.1=k))=true
 · rw [if_pos h,find_putQ]
   by_cases e:k'=k
   · subst e
     rw [if_pos rfl]
     cases hf:kvs.find? fun kv=>decide (kv.1=k') with
     | none=>
      obtain ⟨x,hx,hk⟩:=List.any_eq_true.mp h
      exact absurd hk (List.find?_eq_none.mp hf x hx)
     | some p=>
      have:p.1=k':=by have z:=List.find?_some hf;exact of_decide_eq_true z
      show some (if p.1=k' then (p.1,v) else p).2=_
      rw [if_pos this]
   · rw [if_neg e]
     cases hf:kvs.find? fun kv=>decide (kv.1=k') with
     | none=>rfl
     | some p=>
      have:p.1=k':=by have z:=List.find?_some hf;exact of_decide_eq_true z
      show some (if p.1=k then (p.1,v) else p).2=some p.2
      rw [if_neg (fun z=>e (this.symm.trans z))]
 · rw [if_neg h,List.find?_append]
   have hn:∀ x∈kvs,¬ x.1=k:=fun x hx e=>h (List.any_eq_true.mpr ⟨x,hx,decide_eq_true e⟩)
   by_cases e:k'=k
   · subst e
     rw [if_pos rfl,List.find?_eq_none.mpr fun x hx=>by simpa using hn x hx]
     simp
   · rw [if_neg e]
     cases hf:kvs.find? fun kv=>decide (kv.1=k') with
     | none=>simp [Ne.symm e,fun z:k=k'=>e z.symm]
     | some p=>rfl
theorem put_mem {kvs:List (Key×PyData)}{k:Key}{v:PyData}{p:Key×PyData}(h:p∈putQ kvs k v):p.1=k∨p∈kvs:=by
 unfold putQ at h
 split at h
 · obtain ⟨q,hq,rfl⟩:=List.mem_map.mp h
   by_cases e:q.1=k
   · rw [if_pos e];exact .inl e
   · rw [if_neg e];exact .inr hq
 · rcases List.mem_append.mp h with h | h
   · exact .inr h
   · exact .inl (by rw [List.mem_singleton.mp h])
theorem put_len {kvs:List (Key×PyData)}{k:Key}{v:PyData}(h:valD kvs k=none):(putQ kvs k v).length=kvs.length+1:=by
 unfold putQ
 rw [if_neg]
 · rw [List.length_append];rfl
 · intro z
   obtain ⟨x,hx,hk⟩:=List.any_eq_true.mp z
   unfold valD at h
   rw [Option.map_eq_none_iff] at h
   exact List.find?_eq_none.mp h x hx hk
theorem mem_val {kvs:List (Key×PyData)}{p:Key×PyData}(h:p∈kvs):∃ d,valD kvs p.1=some d:=by
 unfold valD
 cases hf:kvs.find? fun kv=>decide (kv.1=p.1) with
 | none=>exact absurd (decide_eq_true rfl) (List.find?_eq_none.mp hf p h)
 | some q=>exact ⟨q.2,rfl⟩
noncomputable def foldD (f:Nat→Option (Int×PyData)):Nat→List (Key×PyData)
 | 0=>[]
 | m+1=>match f m with
  | none=>foldD f m
  | some p=>putQ (foldD f m) (Sum.inl p.1) p.2
theorem cmpDW_fold {turn:PyData→Nat→(Option (Int×PyData)→Nat→Prop)→Prop}{f:Nat→Option (Int×PyData)}{n:Nat}{Q:List (Key×PyData)→Nat→Prop}:∀ (xs:List PyData) (m:Nat),(∀ (j:Nat) (x:PyData) (Q':Option (Int×PyData)→Nat→Prop),xs[j]? = some x→Q' (f (m+j)) n→turn x n Q')→Q (foldD f (m+xs.length)) n→cmpDW turn xs n (foldD f m) Q
 | [],m,_,q=>q
 | x::xs,m,h,q=>by
  refine h 0 x _ rfl ?_
  have step:cmpDW turn xs n (foldD f (m+1)) Q:=cmpDW_fold xs (m+1) (fun j y Q' hy hq=>h (j+1) y Q' (by simpa using hy) (by rw [show m+(j+1)=m+1+j by omega];exact hq)) (by rw [show m+1+xs.length=m+(x::xs).length by rw [List.length_cons];omega];exact q)
  have e:foldD f (m+1)=match f m with | none=>foldD f m | some p=>putQ (foldD f m) (Sum.inl p.1) p.2:=rfl
  rw [e] at step
  rw [Nat.add_zero]
  cases hf:f m with
  | none=>rw [hf] at step;exact step
  | some p=>rw [hf] at step;exact step
theorem fold_key {f:Nat→Option (Int×PyData)}:∀ {m:Nat}{p:Key×PyData},p∈foldD f m→∃ r:Int,p.1=Sum.inl r
 | 0,p,h=>by cases h
 | m+1,p,h=>by
  unfold foldD at h
  split at h
  · exact fold_key h
  · rcases put_mem h with e | h
    · exact ⟨_,e⟩
    · exact fold_key h
theorem fold_some {f:Nat→Option (Int×PyData)}{r:Int}:∀ {m:Nat}{d:PyData},valD (foldD f m) (Sum.inl r)=some d→∃ i,i<m∧f i=some (r,d)
 | 0,d,h=>by cases h
 | m+1,d,h=>by
  unfold foldD at h
  split at h
  · obtain ⟨i,hi,e⟩:=fold_some h
    exact ⟨i,by omega,e⟩
  · rename_i p hp
    rw [val_put] at h
    by_cases e:(Sum.inl r:Key)=Sum.inl p.1
    · rw [if_pos e] at h
      injection e with e
      injection h with h
      exact ⟨m,by omega,by rw [hp,e,← h]⟩
    · rw [if_neg e] at h
      obtain ⟨i,hi,e⟩:=fold_some h
      exact ⟨i,by omega,e⟩
theorem fold_has {f:Nat→Option (Int×PyData)}{r:Int}:∀ {m i:Nat}{d:PyData},i<m→f i=some (r,d)→∃ d',valD (foldD f m) (Sum.inl r)=some d'
 | 0,i,d,h,_=>by omega
 | m+1,i,d,h,e=>by
  unfold foldD
  by_cases hi:i=m
  · subst hi
    rw [e]
    exact ⟨d,by rw [val_put,if_pos rfl]⟩
  · obtain ⟨d',hd⟩:=fold_has (m:=m) (by omega) e
    split
    · exact ⟨d',hd⟩
    · rename_i p hp
      rw [val_put]
      by_cases e2:(Sum.inl r:Key)=Sum.inl p.1
      · exact ⟨_,if_pos e2⟩
      · exact ⟨d',by rw [if_neg e2];exact hd⟩
noncomputable def keyI:Key→Int
 | Sum.inl r=>r
 | _=>0
theorem fold_keys {f:Nat→Option (Int×PyData)}{m:Nat}:∃ ns:List Int,(foldD f m).map (·.1)=ns.map Sum.inl∧∀ r∈ns,∃ d,valD (foldD f m) (Sum.inl r)=some d:=by
 refine ⟨(foldD f m).map fun p=>keyI p.1,?_,?_⟩
 · rw [List.map_map]
   refine List.map_congr_left fun p hp=>?_
   obtain ⟨r,e⟩:=fold_key hp
   show p.1=Sum.inl (keyI p.1)
   rw [e];rfl
 · intro r hr
   obtain ⟨p,hp,rfl⟩:=List.mem_map.mp hr
   obtain ⟨r,e⟩:=fold_key hp
   have:=mem_val hp
   rw [e] at this ⊢
   exact this
theorem sumI_nn:∀ {l:List Int},(∀ x∈l,0≤x)→0≤l.sum
 | [],_=>Int.le_refl _
 | a::l,h=>by
  rw [List.sum_cons]
  have:=h a List.mem_cons_self
  have:=sumI_nn (l:=l) fun x hx=>h x (List.mem_cons_of_mem _ hx)
  omega
theorem sumI_pos {l:List Int}(h:∀ x∈l,0≤x) {a:Int}(ha:a∈l) (hp:0<a):0<l.sum:=by
 induction l with
 | nil=>cases ha
 | cons b l ih=>
  rw [List.sum_cons]
  have b0:=h b List.mem_cons_self
  have s0:=sumI_nn (l:=l) fun x hx=>h x (List.mem_cons_of_mem _ hx)
  rcases List.mem_cons.mp ha with rfl | ha
  · omega
  · have:=ih (fun x hx=>h x (List.mem_cons_of_mem _ hx)) ha
    omega
theorem sumI_has:∀ {l:List Int},0<l.sum→∃ a∈l,0<a
 | [],h=>by cases h
 | a::l,h=>by
  rw [List.sum_cons] at h
  by_cases ha:0<a
  · exact ⟨a,List.mem_cons_self,ha⟩
  · obtain ⟨b,hb,hp⟩:=sumI_has (l:=l) (by omega)
    exact ⟨b,List.mem_cons_of_mem _ hb,hp⟩
theorem getD_all {cs:List Int}(h:∀ c∈cs,0≤c) (i:Nat):0≤cs.getD i 0:=by
 rw [List.getD_eq_getElem?_getD]
 cases e:cs[i]? with
 | none=>exact Int.le_refl _
 | some c=>exact h c (List.mem_of_getElem? e)
structure RoundOk (R:Int) (ws:List Way) (cs:List Int):Prop where
 len:cs.length=ws.length
 nn:∀ c∈cs,0≤c
 bal:∀ r:Nat,r<R.toNat→moreI ws cs ws.length (r:Nat)=0
theorem goes_on {R U:Int}{ws:List Way}{cs:List Int}(ok:BookOk R U ws) (h:RoundOk R ws cs) {i:Nat}(hi:i<ws.length) (hp:0<cs.getD i 0):∃ j,j<ws.length∧0<cs.getD j 0∧(wayAt ws (j:Nat)).a=(wayAt ws (i:Nat)).b:=by
 have wok:=ok.ways _ (wayAt_mem' (Int.natCast_nonneg i) (by omega))
 have b0:=wok.b0
 have b1:=wok.b1
 have hb:=h.bal (wayAt ws (i:Nat)).b.toNat (by omega)
 rw [Int.toNat_of_nonneg b0,more_flow] at hb
 have nn:∀ (sel:Way→Int),∀ x∈flowI ws cs sel ws.length (wayAt ws (i:Nat)).b,0≤x:=fun sel x hx=>by
  obtain ⟨j,_,rfl⟩:=List.mem_map.mp hx
  exact getD_all h.nn j
 have p1:0<(flowI ws cs (·.b) ws.length (wayAt ws (i:Nat)).b).sum:=sumI_pos (nn _) (List.mem_map.mpr ⟨i,List.mem_filter.mpr ⟨List.mem_range.mpr hi,decide_eq_true rfl⟩,rfl⟩) hp
 obtain ⟨x,hx,px⟩:=sumI_has (l:=flowI ws cs (·.a) ws.length (wayAt ws (i:Nat)).b) (by omega)
 obtain ⟨j,hj,rfl⟩:=List.mem_map.mp hx
 obtain ⟨hj1,hj2⟩:=List.mem_filter.mp hj
 exact ⟨j,List.mem_range.mp hj1,px,of_decide_eq_true hj2⟩
theorem pth_drop {ws:List Way}{b:Int}:∀ {ks:List Int}{a:Int}{p:Nat}{k:Int},Pth ws a ks b→ks[p]? = some k→Pth ws (wayAt ws k).a (ks.drop p) b
 | [],_,_,_,_,e=>by cases e
 | x::ks,a,0,k,h,e=>by
  injection e with e
  subst e
  exact ⟨h.1,rfl,h.2.2⟩
 | x::ks,a,p+1,k,h,e=>by
  rw [List.drop_succ_cons]
  exact pth_drop h.2.2 e
structure ShortOk (ws:List Way) (cs:List Int) (a:Int) (ks:List Int):Prop where
 ne:ks≠[]
 pth:Pth ws a ks a
 nd:(ks.map fun k=>(wayAt ws k).a).Nodup
 pos:∀ k∈ks,0<cs.getD k.toNat 0
noncomputable def gsShort:GSn:=fun as n Q=>∃ (R U:Int) (ws:List Way) (cs:List Int),as=[.d (bookPD R U ws),.d (.list (cs.map .int))]∧BookOk R U ws∧RoundOk R ws cs∧(∃ i,i<ws.length∧0<cs.getD i 0)∧∀ (a:Int) (ks:List Int),ShortOk ws cs a ks→Q (ks.map .int) n
noncomputable instance:ScalN gsShort:=⟨fun {as n P} h=>by
 obtain ⟨R,U,ws,cs,e,ok,hl,hi,q⟩:=h
 exact ⟨R,U,ws,cs,e,ok,hl,hi,fun a ks t=>⟨scal_is ks,q a ks t⟩⟩⟩
noncomputable def onwF (ws:List Way) (cs:List Int) (i:Nat):Option (Int×PyData):=if 0<cs.getD i 0 then some ((wayAt ws (i:Nat)).a,.int (i:Int)) else none
theorem onw_some {ws:List Way}{cs:List Int}{r:Int}{d:PyData}{m:Nat}(h:valD (foldD (onwF ws cs) m) (Sum.inl r)=some d):∃ i:Nat,i<m∧d = .int (i:Int)∧0<cs.getD i 0∧(wayAt ws (i:Nat)).a=r:=by
 obtain ⟨i,hi,e⟩:=fold_some h
 unfold onwF at e
 split at e
 · rename_i hp
   injection e with e
   injection e with e1 e2
   exact ⟨i,hi,e2.symm,hp,e1⟩
 · cases e
theorem onw_has {ws:List Way}{cs:List Int}{m i:Nat}(hi:i<m) (hp:0<cs.getD i 0):∃ d,valD (foldD (onwF ws cs) m) (Sum.inl (wayAt ws (i:Nat)).a)=some d:=fold_has hi (by unfold onwF;rw [if_pos hp])
noncomputable def placesOk (rs:List Int) (pl:List (Key×PyData)):Prop:=∀ x:Int,valD pl (Sum.inl x)=if x∈rs then some (.int ((rs.idxOf x:Nat):Int)) else none
theorem places_nil:placesOk [] []:=fun x=>by rw [if_neg (by simp)];rfl
theorem places_snoc {rs:List Int}{pl:List (Key×PyData)}{r:Int}(h:placesOk rs pl) (hr:r∉rs):placesOk (rs++[r]) (putQ pl (Sum.inl r) (.int ((rs.length:Nat):Int))):=fun x=>by
 rw [val_put]
 by_cases e:x=r
 · subst e
   rw [if_pos rfl,if_pos (by simp),List.idxOf_append,if_neg hr]
   simp
 · rw [if_neg (fun z=>e (by injection z)),h x]
   by_cases hx:x∈rs
   · rw [if_pos hx,if_pos (by simp [hx]),List.idxOf_append,if_pos hx]
   · rw [if_neg hx,if_neg (by simp [hx,e])]
theorem rooms_le {R:Int}{rs:List Int}(nd:rs.Nodup) (h:∀ x∈rs,0≤x∧x<R):rs.length≤R.toNat:=by
 have:=nodup_le R.toNat (rs.map Int.toNat) (by
  unfold List.Nodup at nd ⊢
  rw [List.pairwise_map]
  refine List.Pairwise.imp_of_mem (fun {a b} ha hb hab z=>hab ?_) nd
  have:=h a ha
  have:=h b hb
  omega) fun x hx=>by
   obtain ⟨y,hy,rfl⟩:=List.mem_map.mp hx
   have:=h y hy
   omega
 rw [List.length_map] at this
 exact this
theorem pth_snoc {ws:List Way}{ks:List Int}{a b k:Int}(h:Pth ws a ks b) (hk:0≤k∧k<ws.length) (e:(wayAt ws k).a=b):Pth ws a (ks++[k]) (wayAt ws k).b:=h.app ⟨hk,e,rfl⟩
theorem idx_get {r:Int}:∀ {rs:List Int},r∈rs→rs[rs.idxOf r]? = some r
 | [],h=>by cases h
 | x::rs,h=>by
  rw [List.idxOf_cons]
  by_cases e:x=r
  · rw [e];simp
  · have e2:(x==r)=false:=by simpa using e
    rw [e2]
    have:=idx_get (rs:=rs) ((List.mem_cons.mp h).resolve_left (Ne.symm e))
    simpa using this
theorem turn_of {ws:List Way}{cs:List Int}{ks rs:List Int}{a r:Int}(h:Pth ws a ks r) (es:ks.map (fun k=>(wayAt ws k).a)=rs) (nd:rs.Nodup) (pos:∀ k∈ks,0<cs.getD k.toNat 0) (hr:r∈rs):ShortOk ws cs r (ks.drop (rs.idxOf r)):=by
 have hlt:=List.idxOf_lt_length_of_mem hr
 have hl:ks.length=rs.length:=by rw [← es,List.length_map]
 have hg:ks[rs.idxOf r]? = some (ks[rs.idxOf r]'(by omega)):=List.getElem?_eq_getElem (by omega)
 have ha:(wayAt ws (ks[rs.idxOf r]'(by omega))).a=r:=by
  have e1:rs[rs.idxOf r]? = some r:=idx_get hr
  have e2:rs[rs.idxOf r]? = (ks.map fun k=>(wayAt ws k).a)[rs.idxOf r]?:=by rw [es]
  rw [e2,List.getElem?_map,hg] at e1
  injection e1
 refine ⟨fun z=>?_,?_,?_,fun k hk=>pos k (List.mem_of_mem_drop hk)⟩
 · have:=congrArg List.length z
   rw [List.length_drop,List.length_nil] at this
   omega
 · have:=pth_drop h hg
   rw [ha] at this
   exact this
 · rw [List.map_drop,es]
   exact nd.sublist (List.drop_sublist _ _)
theorem getD_el {l:List Int}{i:Nat}(h:i<l.length):l.getD i 0=l[i]:=by
 rw [List.getD_eq_getElem?_getD,List.getElem?_eq_getElem h];rfl
noncomputable def lsub (ls ks:List Int) (m:Int):List Int:=(List.range ls.length).map fun i=>ls.getD i 0-m*(cntI ls.length ks).getD i 0
theorem lsub_len {ls ks:List Int}{m:Int}:(lsub ls ks m).length=ls.length:=by unfold lsub;rw [List.length_map,List.length_range]
theorem lsub_D {ls ks:List Int}{m:Int}{i:Nat}(h:i<ls.length):(lsub ls ks m).getD i 0=ls.getD i 0-m*(cntI ls.length ks).getD i 0:=by
 unfold lsub
 rw [List.getD_eq_getElem?_getD,List.getElem?_map,List.getElem?_range h];rfl
theorem lsub_nil {ls:List Int}{m:Int}:lsub ls [] m=ls:=by
 apply List.ext_getElem
 · exact lsub_len
 · intro i h1 h2
   have e:=lsub_D (ls:=ls) (ks:=[]) (m:=m) h2
   rw [cnt_D h2] at e
   have e2:((List.countP (fun k=>decide (k=(i:Int))) ([]:List Int):Nat):Int)=0:=rfl
   rw [e2,Int.mul_zero,Int.sub_zero,getD_el h1,getD_el h2] at e
   exact e
theorem lsub_snoc {ls ks:List Int}{m k:Int}(h0:0≤k) (h1:k<ls.length):(lsub ls ks m).set k.toNat ((lsub ls ks m).getD k.toNat 0-m)=lsub ls (ks++[k]) m:=by
 have hk:k.toNat<ls.length:=by omega
 rw [lsub_D hk]
 unfold lsub
 rw [set_range]
 refine List.map_congr_left fun i hi=>?_
 have hi':=List.mem_range.mp hi
 rw [cnt_D hi',cnt_D hi',cnt_D hk,List.countP_append,List.countP_singleton]
 by_cases e:i=k.toNat
 · subst e
   rw [if_pos rfl,if_pos (decide_eq_true (by omega))]
   rw [Int.natCast_add,Int.mul_add]
   omega
 · rw [if_neg e,if_neg (fun z=>e (by have:=of_decide_eq_true z;omega))]
   rw [Nat.add_zero]
theorem sum_less {m:Int}{a c f:Nat→Int}:∀ n:Nat,((List.range n).map fun j=>(a j-m*c j)*f j).sum=((List.range n).map fun j=>a j*f j).sum-m*((List.range n).map fun j=>c j*f j).sum
 | 0=>by simp
 | n+1=>by
  rw [List.range_succ,List.map_append,List.map_append,List.map_append,List.sum_append,List.sum_append,List.sum_append,sum_less n]
  simp only [List.map_cons,List.map_nil,List.sum_cons,List.sum_nil,Int.add_zero]
  rw [Int.mul_add,Int.sub_mul,Int.mul_assoc]
  omega
theorem nd_of_map {ks:List Int}{f:Int→Int}(h:(ks.map f).Nodup):ks.Nodup:=by
 rw [List.nodup_iff_pairwise_ne] at h ⊢
 rw [List.pairwise_map] at h
 exact h.imp fun hne e=>hne (by rw [e])
theorem cnt_one {i:Int}:∀ {ks:List Int},ks.Nodup→(i∉ks→ks.countP (fun k=>decide (k=i))=0)∧(i∈ks→ks.countP (fun k=>decide (k=i))=1)
 | [],_=>⟨fun _=>rfl,fun h=>by cases h⟩
 | k::ks,nd=>by
  obtain ⟨h1,h2⟩:=List.nodup_cons.mp nd
  obtain ⟨c0,c1⟩:=cnt_one (i:=i) h2
  rw [List.countP_cons]
  by_cases e:k=i
  · subst e
    rw [c0 h1,if_pos (decide_eq_true rfl)]
    exact ⟨fun z=>absurd List.mem_cons_self z,fun _=>rfl⟩
  · rw [if_neg (by simpa using e)]
    refine ⟨fun z=>c0 fun y=>z (List.mem_cons_of_mem _ y),fun z=>c1 ((List.mem_cons.mp z).resolve_left (Ne.symm e))⟩
structure Least (ls ks:List Int) (m:Int):Prop where
 pos:0<m
 le:∀ k∈ks,m≤ls.getD k.toNat 0
 at_:∃ k∈ks,ls.getD k.toNat 0=m
theorem lsub_cases {ls ks:List Int}{m:Int}{i:Nat}(nd:ks.Nodup) (hi:i<ls.length):((i:Int)∉ks∧(lsub ls ks m).getD i 0=ls.getD i 0)∨((i:Int)∈ks∧(lsub ls ks m).getD i 0=ls.getD i 0-m):=by
 rw [lsub_D hi,cnt_D hi]
 by_cases e:(i:Int)∈ks
 · rw [(cnt_one nd).2 e]
   exact .inr ⟨e,by omega⟩
 · rw [(cnt_one nd).1 e]
   exact .inl ⟨e,by omega⟩
theorem lsub_ok {R:Int}{ws:List Way}{ls ks:List Int}{a m:Int}(ro:RoundOk R ws ls) (sh:ShortOk ws ls a ks) (l:Least ls ks m):RoundOk R ws (lsub ls ks m):=by
 have nd:=nd_of_map sh.nd
 refine ⟨by rw [lsub_len];exact ro.len,fun c hc=>?_,fun r hr=>?_⟩
 · obtain ⟨i,hi,rfl⟩:=List.mem_iff_getElem.mp hc
   rw [← getD_el hi]
   rw [lsub_len] at hi
   rcases lsub_cases (m:=m) nd hi with ⟨_,e⟩ | ⟨hm,e⟩
   · rw [e];exact getD_all ro.nn i
   · rw [e]
     have:=l.le _ hm
     rw [Int.toNat_natCast] at this
     omega
 · have h1:=ro.bal r hr
   rw [more_sum] at h1 ⊢
   have e1:((List.range ws.length).map fun j=>(lsub ls ks m).getD j 0*(oneI (wayAt ws (j:Nat)).b (r:Nat)-oneI (wayAt ws (j:Nat)).a (r:Nat))).sum=((List.range ws.length).map fun j=>(ls.getD j 0-m*(cntI ls.length ks).getD j 0)*(oneI (wayAt ws (j:Nat)).b (r:Nat)-oneI (wayAt ws (j:Nat)).a (r:Nat))).sum:=sum_congr fun j hj=>by rw [lsub_D (by rw [ro.len];exact hj)]
   rw [e1,sum_less,h1,ro.len,cnt_sum (f:=fun j=>oneI (wayAt ws (j:Nat)).b (r:Nat)-oneI (wayAt ws (j:Nat)).a (r:Nat)) sh.pth.inW,pth_flow sh.pth]
   simp
noncomputable def pcI (ls:List Int):Nat:=(List.range ls.length).countP fun i=>decide (0<ls.getD i 0)
theorem countP_lt {p q:Nat→Bool}:∀ {l:List Nat},(∀ x∈l,p x=true→q x=true)→(∃ x∈l,q x=true∧p x=false)→l.countP p+1≤l.countP q
 | [],_,⟨x,hx,_⟩=>by cases hx
 | y::l,h,hx=>by
  rw [List.countP_cons,List.countP_cons]
  have hle:l.countP p≤l.countP q:=List.countP_mono_left fun x hx=>h x (List.mem_cons_of_mem _ hx)
  have hy:=h y List.mem_cons_self
  obtain ⟨x,hx,hq,hp⟩:=hx
  rcases List.mem_cons.mp hx with rfl | hx
  · rw [if_pos hq,if_neg (by rw [hp];exact Bool.false_ne_true)];omega
  · have ih:=countP_lt (l:=l) (fun x hx=>h x (List.mem_cons_of_mem _ hx)) ⟨x,hx,hq,hp⟩
    by_cases e:p y=true
    · rw [if_pos e,if_pos (hy e)];omega
    · rw [if_neg e]
      split<;>omega
theorem pc_less {ws:List Way}{ls ks:List Int}{a m:Int}(hl:ls.length=ws.length) (sh:ShortOk ws ls a ks) (l:Least ls ks m):pcI (lsub ls ks m)+1≤pcI ls:=by
 have nd:=nd_of_map sh.nd
 unfold pcI
 rw [lsub_len]
 refine countP_lt (fun i hi hp=>decide_eq_true ?_) ?_
 · have hp:=of_decide_eq_true hp
   have:=l.pos
   rcases lsub_cases (m:=m) nd (List.mem_range.mp hi) with ⟨_,e⟩ | ⟨_,e⟩<;>omega
 · obtain ⟨k,hk,e⟩:=l.at_
   obtain ⟨k0,k1⟩:=sh.pth.inW k hk
   refine ⟨k.toNat,List.mem_range.mpr (by omega),decide_eq_true (by rw [e];exact l.pos),decide_eq_false ?_⟩
   rcases lsub_cases (ls:=ls) (m:=m) (i:=k.toNat) nd (by omega) with ⟨z,_⟩ | ⟨_,e2⟩
   · exact absurd (by rw [Int.toNat_of_nonneg k0];exact hk) z
   · rw [e2,e];omega
theorem at_ls {ls:List Int}{k:Int}(h0:0≤k) (h1:k<ls.length):atI (ls.map PyData.int) k=some (.int (ls.getD k.toNat 0)):=by
 unfold atI
 rw [List.length_map,ixN_of h0 h1]
 exact int_get (by omega)
noncomputable def lsAt (ls:List Int):PyData→PyData
 | .int k=>.int (ls.getD k.toNat 0)
 | d=>d
noncomputable def sumT (ts:List (List Int×Int)) (i:Nat):Int:=(ts.map fun t=>t.2*((t.1.countP fun k=>decide (k=(i:Int)):Nat):Int)).sum
theorem sumT_snoc {ts:List (List Int×Int)}{ks:List Int}{m:Int}{i:Nat}:sumT (ts++[(ks,m)]) i=sumT ts i+m*((ks.countP fun k=>decide (k=(i:Int)):Nat):Int):=by
 unfold sumT
 rw [List.map_append,List.sum_append]
 simp
noncomputable def turnPD (t:List Int×Int):PyData:=.tuple [.list (t.1.map .int),.int t.2]
structure TurnsOk (ws:List Way) (cs ls:List Int) (ts:List (List Int×Int)):Prop where
 ok:∀ t∈ts,(∃ a,ShortOk ws cs a t.1)∧1≤t.2
 sum:∀ i,i<ws.length→cs.getD i 0=ls.getD i 0+sumT ts i
 le:∀ i,i<ws.length→ls.getD i 0≤cs.getD i 0
 len:ts.length+pcI ls≤ws.length
theorem turns_nil {ws:List Way}{cs:List Int}(hl:cs.length=ws.length):TurnsOk ws cs cs []:=by
 refine ⟨(fun t h=>by cases h),fun i _=>(Int.add_zero _).symm,fun i _=>Int.le_refl _,?_⟩
 unfold pcI
 have:=List.countP_le_length (p:=fun i=>decide (0<cs.getD i 0)) (l:=List.range cs.length)
 rw [List.length_range] at this
 rw [List.length_nil]
 omega
theorem turns_snoc {ws:List Way}{cs ls ks:List Int}{a m:Int}{ts:List (List Int×Int)}(hl:ls.length=ws.length) (t:TurnsOk ws cs ls ts) (sh:ShortOk ws ls a ks) (l:Least ls ks m):TurnsOk ws cs (lsub ls ks m) (ts++[(ks,m)]):=by
 have nd:=nd_of_map sh.nd
 have hp:=l.pos
 refine ⟨fun x hx=>?_,fun i hi=>?_,fun i hi=>?_,?_⟩
 · rcases List.mem_append.mp hx with hx | hx
   · exact t.ok x hx
   · rw [List.mem_singleton.mp hx]
     refine ⟨⟨a,sh.ne,sh.pth,sh.nd,fun k hk=>?_⟩,hp⟩
     obtain ⟨k0,k1⟩:=sh.pth.inW k hk
     have:=sh.pos k hk
     have:=t.le k.toNat (by omega)
     omega
 · rw [sumT_snoc,lsub_D (by omega),cnt_D (by omega),t.sum i hi]
   omega
 · have:=t.le i hi
   rcases lsub_cases (ls:=ls) (m:=m) (i:=i) nd (by omega) with ⟨_,e⟩ | ⟨_,e⟩<;>omega
 · have:=pc_less hl sh l
   have:=t.len
   rw [List.length_append,List.length_singleton]
   omega
noncomputable def gsTurns:GSp:=fun as n Q=>∃ (R U:Int) (ws:List Way) (cs:List Int),as=[.d (bookPD R U ws),.d (.tuple (cs.map .int))]∧BookOk R U ws∧RoundOk R ws cs∧∀ (ls:List Int) (ts:List (List Int×Int)),ls.length=ws.length→(∀ i:Nat,ls.getD i 0=0)→TurnsOk ws cs ls ts→Q (.list (ts.map turnPD)) n
end My
namespace L2
open PySem PySem.Spec PyProof.Rows
section
variable {X:Cx}{pos p2:Pos}
noncomputable def gLay (to:TE) (tl th:TO):TG:=fun v σ H Q=>to σ H fun o H1=>tl σ H1 fun l H2=>th σ H2 fun u H3=>
 ∃ (a b:Addr) (xs ys:List V) (i c:Int),o = .ref a∧v = .ref b∧l=some i∧u=some c∧H3 a=some (.lst xs)∧H3 b=some (.lst ys)∧a≠b∧0≤i∧i≤c∧c≤xs.length∧xs.length+ys.length≤sizeLine∧Q σ (upd H3 a (.lst (xs.take i.toNat++ys++xs.drop c.toNat)))
theorem pg_lay {o:Expr}{lo hi:Option Expr}{to:TE}{tl th:TO}(ho:PE X o to) (hl:PO X lo tl) (hu:PO X hi th)
 (ha:∀ v,assign (.Subscript o (.Slice lo hi none p2) pos) X.env v=(do
  let ov ← holding [v] (eval o X.env)
  let iv ← holding [v,ov] (eval (.Slice lo hi none p2) X.env)
  standAt pos
  holding [v,ov,iv] (setItem ov iv v)
  release [iv,v,ov] []):=by intro _;rfl):PG X (.Subscript o (.Slice lo hi none p2) pos) (gLay to tl th):=by
 intro pins s σ H v u Q I r h
 rw [ha]
 refine wpAny_bind (wpAny_holding (thn (ho pins s σ H _ I h) fun ov s1 ⟨x,H1,I1,r1,q1⟩=>?_))
 refine wpAny_bind (wpAny_holding (wpAny_Slice (thn (hl pins s1 σ H1 _ I1 q1) fun vl s2 ⟨l,H2,I2,pl,q2⟩=>thn (hu pins s2 σ H2 _ I2 q2) fun vu s3 ⟨c,H3,I3,pu,q3⟩=>?_)))
 rw [evalPart_none]
 refine wpAny_pure ?_
 have I4:Inv X pins σ H3 { s3 with heap:=s3.heap.push { cls:=.type "slice",data:=.fields #[vl,vu,.none] } }:=I3.kept (t':=s3.toks) fun b ob q=>Heap.get?_push_of_some _ q
 obtain ⟨a,b,xs,ys,i,k,rfl,rfl,rfl,rfl,ha1,hb1,hne,h0,hik,hk,hz,q⟩:=q3
 cases r1
 cases r
 cases pl with
 | int _ tl=>
  cases pu with
  | int _ th=>
   refine wpAny_bind (wpAny_standAt (wpAny_bind (wpAny_holding (set_slice I4 ha1 hb1 hne (Heap.IsSliceOf.new ..) ⟨tl,rfl⟩ ⟨th,rfl⟩ h0 hik hk hz fun s' I5=>?_))))
   exact wpAny_release ⟨σ,_,I5,q⟩
end
end L2
namespace My
open PySem PySem.Spec PyProof.Rows L2
theorem ring_conn {R:Nat}{ws:List Way}{ks:List Int}(hr:∀ e∈esOf ws ks,e.1<R∧e.2<R) (h1:(ringsI R ws ks).length=1) (hall:∀ k∈ks,Rt (esOf ws ks) (wayAt ws k).b.toNat (wayAt ws k).a.toNat) :
 ∀ k∈ks,∀ j∈ks,Rt (esOf ws ks) (wayAt ws k).a.toNat (wayAt ws j).a.toNat:=by
 intro k hk j hj
 have hp:∀ k∈ks,Pw (esOf ws ks) R (wayAt ws k).b.toNat (wayAt ws k).a.toNat=true:=fun k hk=>(pw_iff hr).mpr (hall k hk)
 have hc:∀ k∈ks,clsOf R (esOf ws ks) ws k=some (ringLeast R (esOf ws ks) (wayAt ws k).a.toNat):=fun k hk=>by unfold clsOf;rw [if_pos (hp k hk)]
 have hlen:(keysGo (clsOf R (esOf ws ks) ws) ks).length=1:=by
  unfold ringsI at h1
  rw [go_grp,List.length_map,List.length_map] at h1
  exact h1
 obtain ⟨y,hy⟩:=List.length_eq_one_iff.mp hlen
 have one:∀ k∈ks,ringLeast R (esOf ws ks) (wayAt ws k).a.toNat=y:=fun k hk=>by
  have:=keys_mem.mpr ⟨k,hk,hc k hk⟩
  rw [hy] at this
  exact List.mem_singleton.mp this
 have e:=cls_iff hr hk hj (hp k hk)
 rw [decide_eq_true (show clsOf R (esOf ws ks) ws j=some (ringLeast R (esOf ws ks) (wayAt ws k).a.toNat) by rw [hc j hj,one j hj,one k hk]),Bool.and_eq_true] at e
 exact (Rt.step (.refl _) (List.mem_map.mpr ⟨k,hk,rfl⟩)).trans ((pw_iff hr).mp e.1)
theorem pth_next {ws:List Way}{k b:Int}:∀ {ks:List Int}{a:Int},Pth ws a ks b→k∈ks→(∃ j∈ks,(wayAt ws j).a=(wayAt ws k).b)∨(wayAt ws k).b=b
 | [],_,_,hk=>by cases hk
 | x::ks,a,h,hk=>by
  rcases List.mem_cons.mp hk with rfl | hk
  · cases ks with
    | nil=>exact .inr h.2.2
    | cons y ks=>exact .inl ⟨y,List.mem_cons_of_mem _ List.mem_cons_self,h.2.2.2.1⟩
  · rcases pth_next h.2.2 hk with ⟨j,hj,e⟩ | e
    · exact .inl ⟨j,List.mem_cons_of_mem _ hj,e⟩
    · exact .inr e
theorem short_next {ws:List Way}{cs:List Int}{a:Int}{ks:List Int}(h:ShortOk ws cs a ks) {k:Int}(hk:k∈ks):∃ j∈ks,(wayAt ws j).a=(wayAt ws k).b:=by
 rcases pth_next h.pth hk with r | e
 · exact r
 · obtain ⟨x,rest,rfl⟩:∃ x rest,ks=x::rest:=by
    cases ks with
    | nil=>cases hk
    | cons x r=>exact ⟨x,r,rfl⟩
   exact ⟨x,List.mem_cons_self,by rw [e];exact h.pth.2.1⟩
theorem onW_mem {cs:List Int}{k:Int}:k∈onW cs↔0≤k∧k<cs.length∧0<cs.getD k.toNat 0:=by
 unfold onW
 rw [List.mem_map]
 constructor
 · rintro ⟨i,hi,rfl⟩
   obtain ⟨h1,h2⟩:=List.mem_filter.mp hi
   have:=List.mem_range.mp h1
   exact ⟨by omega,by omega,by rw [Int.toNat_natCast];exact of_decide_eq_true h2⟩
 · rintro ⟨h0,h1,h2⟩
   exact ⟨k.toNat,List.mem_filter.mpr ⟨List.mem_range.mpr (by omega),decide_eq_true h2⟩,by omega⟩
theorem sumT_pos {i:Nat}:∀ {ts:List (List Int×Int)},0<sumT ts i→∃ t∈ts,(i:Int)∈t.1
 | [],h=>by cases h
 | t::ts,h=>by
  by_cases e:(i:Int)∈t.1
  · exact ⟨t,List.mem_cons_self,e⟩
  · have h0:t.1.countP (fun k=>decide (k=(i:Int)))=0:=List.countP_eq_zero.mpr fun k hk z=>e (by rw [← of_decide_eq_true z];exact hk)
    have e2:sumT (t::ts) i=sumT ts i:=by
     unfold sumT
     rw [List.map_cons,List.sum_cons,h0]
     simp
    rw [e2] at h
    obtain ⟨u,hu,hm⟩:=sumT_pos h
    exact ⟨u,List.mem_cons_of_mem _ hu,hm⟩
theorem turns_cover {ws:List Way}{cs ls:List Int}{ts:List (List Int×Int)}(hl:cs.length=ws.length) (t:TurnsOk ws cs ls ts) (hz:∀ i:Nat,ls.getD i 0=0) {k:Int}(hk:k∈onW cs):∃ t∈ts,k∈t.1:=by
 obtain ⟨h0,h1,h2⟩:=onW_mem.mp hk
 have:=t.sum k.toNat (by omega)
 rw [hz] at this
 obtain ⟨u,hu,hm⟩:=sumT_pos (ts:=ts) (i:=k.toNat) (by omega)
 rw [Int.toNat_of_nonneg h0] at hm
 exact ⟨u,hu,hm⟩
theorem turns_back {ws:List Way}{cs:List Int}{a:Int}{ks:List Int}(hl:cs.length=ws.length) (h:ShortOk ws cs a ks):∀ k∈ks,Rt (esOf ws (onW cs)) (wayAt ws k).b.toNat (wayAt ws k).a.toNat:=by
 have hin:∀ k∈ks,k∈onW cs:=fun k hk=>by
  obtain ⟨k0,k1⟩:=h.pth.inW k hk
  exact onW_mem.mpr ⟨k0,by omega,h.pos k hk⟩
 obtain ⟨e1,e2⟩:=pth_rt (es:=esOf ws (onW cs)) h.pth fun k hk=>List.mem_map.mpr ⟨k,hin k hk,rfl⟩
 exact fun k hk=>(e2 k hk).2.trans (e2 k hk).1
theorem meets {R U:Int}{ws:List Way}{cs:List Int}{dn pd:List (List Int×Int)}{rs:List Int}{r0:Int}(ok:BookOk R U ws) (hl:cs.length=ws.length) (one:(ringsI R.toNat ws (onW cs)).length=1)
 (cover:∀ k∈onW cs,∃ t∈dn++pd,k∈t.1) (okT:∀ t∈dn++pd,∃ a,ShortOk ws cs a t.1) (hdn:∀ t∈dn,∀ k∈t.1,(wayAt ws k).a∈rs) (h0:r0∈rs) (hr0:∃ k∈onW cs,(wayAt ws k).a=r0) (hp:pd≠[]) :
 ∃ t∈pd,∃ k∈t.1,(wayAt ws k).a∈rs:=by
 have wok:∀ k∈onW cs,WayOk R U (wayAt ws k):=fun k hk=>by
  obtain ⟨k0,k1,_⟩:=onW_mem.mp hk
  exact ok.ways _ (wayAt_mem' k0 (by omega))
 have hr:∀ e∈esOf ws (onW cs),e.1<R.toNat∧e.2<R.toNat:=fun e he=>by
  obtain ⟨k,hk,rfl⟩:=List.mem_map.mp he
  have w:=wok k hk
  have:=w.a0
  have:=w.a1
  have:=w.b0
  have:=w.b1
  exact ⟨by omega,by omega⟩
 have back:∀ k∈onW cs,Rt (esOf ws (onW cs)) (wayAt ws k).b.toNat (wayAt ws k).a.toNat:=fun k hk=>by
  obtain ⟨t,ht,hm⟩:=cover k hk
  obtain ⟨a,sh⟩:=okT t ht
  exact turns_back hl sh k hm
 have conn:=ring_conn hr one back
 by_cases hex:∃ t∈pd,∃ k∈t.1,(wayAt ws k).a∈rs
 · exact hex
 exfalso
 have clo:∀ {x y:Nat},Rt (esOf ws (onW cs)) x y→(x:Int)∈rs→(y:Int)∈rs:=by
  intro x y h
  induction h with
  | refl=>exact fun h=>h
  | step h1 h2 ih=>
   intro hx
   have hb:=ih hx
   obtain ⟨k,hk,e⟩:=List.mem_map.mp h2
   injection e with ea eb
   have w:=wok k hk
   have a0:=w.a0
   have b0:=w.b0
   obtain ⟨t,ht,hm⟩:=cover k hk
   obtain ⟨a,sh⟩:=okT t ht
   have hka:(wayAt ws k).a∈rs:=by
    have:(wayAt ws k).a=((wayAt ws k).a.toNat:Int):=(Int.toNat_of_nonneg a0).symm
    rw [this,ea]
    exact hb
   rcases List.mem_append.mp ht with ht | ht
   · obtain ⟨j,hj,e⟩:=short_next sh hm
     have:=hdn t ht j hj
     rw [e] at this
     rw [← eb,Int.toNat_of_nonneg b0]
     exact this
   · exact absurd ⟨t,ht,k,hm,hka⟩ hex
 obtain ⟨t,rest,rfl⟩:∃ t rest,pd=t::rest:=by
  cases pd with
  | nil=>exact absurd rfl hp
  | cons t r=>exact ⟨t,r,rfl⟩
 obtain ⟨a,sh⟩:=okT t (List.mem_append_right _ List.mem_cons_self)
 obtain ⟨k,ks,e⟩:∃ k ks,t.1=k::ks:=by
  cases e:t.1 with
  | nil=>exact absurd e sh.ne
  | cons k r=>exact ⟨k,r,rfl⟩
 have hk:k∈t.1:=by rw [e];exact List.mem_cons_self
 obtain ⟨k0,k1⟩:=sh.pth.inW k hk
 have hon:k∈onW cs:=onW_mem.mpr ⟨k0,by omega,sh.pos k hk⟩
 obtain ⟨j,hj,ej⟩:=hr0
 have w:=wok k hon
 have a0:=w.a0
 have wj:=wok j hj
 have ja0:=wj.a0
 have:=clo (conn j hj k hon) (by rw [Int.toNat_of_nonneg ja0,ej];exact h0)
 rw [Int.toNat_of_nonneg a0] at this
 exact hex ⟨t,List.mem_cons_self,k,hk,this⟩
mutual
noncomputable def noL:PyData→Bool
 | .list _=>false
 | .tuple ds=>noLs ds
 | _=>true
noncomputable def noLs:List PyData→Bool
 | []=>true
 | d::ds=>noL d&&noLs ds
end
mutual
theorem rep_noL {ex L:List Addr}{H:Hp}(hL:∀ a∈L,∃ vs,H a=some (.lst vs)):∀ {d:PyData}{v:V},noL d=true→Rep ex H d v→Rep (L++ex) H d v
 | _,_,_,.none=>.none
 | _,_,_,.bool b=>.bool b
 | _,_,_,.int i=>.int i
 | _,_,_,.str x=>.str x
 | _,_,h,.tuple (a:=a) e n z r=>.tuple e (fun m=>(List.mem_append.mp m).elim (fun m=>by obtain ⟨vs,e2⟩:=hL a m;rw [e2] at e;cases e) n) z (reps_noL hL (by unfold noL at h;exact h) r)
 | _,_,h,.list _ _ _ _=>by unfold noL at h;cases h
theorem reps_noL {ex L:List Addr}{H:Hp}(hL:∀ a∈L,∃ vs,H a=some (.lst vs)):∀ {ds:List PyData}{vs:List V},noLs ds=true→Reps ex H ds vs→Reps (L++ex) H ds vs
 | _,_,_,.nil=>.nil
 | _,_,h,.cons r t=>by
  unfold noLs at h
  rw [Bool.and_eq_true] at h
  exact .cons (rep_noL hL h.1 r) (reps_noL hL h.2 t)
end
theorem noLs_nil:noLs []=true:=by unfold noLs;rfl
theorem noLs_cons {d:PyData}{ds:List PyData}:noLs (d::ds)=(noL d&&noLs ds):=by conv=>lhs;unfold noLs
theorem noLs_app:∀ {ds es:List PyData},noLs (ds++es)=(noLs ds&&noLs es)
 | [],es=>by rw [List.nil_append,noLs_nil,Bool.true_and]
 | d::ds,es=>by rw [List.cons_append,noLs_cons,noLs_cons,noLs_app,Bool.and_assoc]
theorem noLs_mem {ds:List PyData}(h:∀ d∈ds,noL d=true):noLs ds=true:=by
 induction ds with
 | nil=>unfold noLs;rfl
 | cons d ds ih=>
  unfold noLs
  rw [h d List.mem_cons_self,ih fun x hx=>h x (List.mem_cons_of_mem _ hx)];rfl
theorem seq_step {s u:TS}{gs:GS} [T:SV s gs] {C:Cv}{D:Ends}{G:VEnds}{ex:List Addr}{env:List Vl}{σ:L2.St}{H:Hp}{n:Nat}(O:EndsOk C { G with nx:=fun _ _=>False } D) (A:At C ex env σ H n) (h:gs G env n)
 (k:∀ {ex:List Addr} {env:List Vl} {σ:L2.St} {H:Hp} {n:Nat},At C ex env σ H n→G.nx env n→u D σ H):tSeq s u D σ H:=
 T.sv (C:=C) (G:=G) (D:={ D with nx:=u D }) ⟨fun A1 h1=>k A1 h1,O.bk,O.ct,O.rt,O.rtn,O.xc,O.r2⟩ A h
theorem tail_lay {D:Ends}{C:Cv}{ex:List Addr}{env:List Vl}{σ:L2.St}{H:Hp}{n:Nat}(A:At C ex env σ H n) {i1 i2 p b q:Nat}{a1 a2:Addr}{xs ys ps bs:List PyData}{k:Int}(e1:env[i1]? = some (.pin (.ref a1) (.list xs))) (e2:env[i2]? = some (.pin (.ref a2) (.list ys)))
 (ep:env[p]? = some (.own ps)) (eb:env[b]? = some (.own bs)) (eq:env[q]? = some (.d (.int k))) (h0:0≤k) (h1:k≤xs.length) (h2:k≤ys.length) (hne:a1≠a2) (z1:xs.length+ps.length≤sizeLine) (z2:ys.length+bs.length≤sizeLine)
 (nx:noLs xs=true) (ny:noLs ys=true) (np:noLs ps=true) (nb:noLs bs=true)
 (h:∀ (vs us:List V) (H':Hp),H' a1=some (.lst vs)→H' a2=some (.lst us)→Reps (a1::a2::C.ex0) H' (xs.take k.toNat++ps++xs.drop k.toNat) vs→Reps (a1::a2::C.ex0) H' (ys.take k.toNat++bs++ys.drop k.toNat) us→Kp [a1,a2] H H'→D.rt (.bl true) H') :
 tSeq (tAsg (tVar p) (gLay (tVar i1) (tPart (tVar q)) (tPart (tVar q)))) (tSeq (tAsg (tVar b) (gLay (tVar i2) (tPart (tVar q)) (tPart (tVar q)))) (tRet (tC (.bl true)))) D σ H:=by
 obtain ⟨s1,r1⟩:=A.ev.sl i1 _ e1
 obtain ⟨s2,r2⟩:=A.ev.sl i2 _ e2
 obtain ⟨ap,pv,sp,hp1,hp2,hp3,hp4,hp5⟩:=A.ev.sl p _ ep
 obtain ⟨ab,bv,sb,hb1,hb2,hb3,hb4,hb5⟩:=A.ev.sl b _ eb
 obtain ⟨qv,sq,rq⟩:=A.ev.sl q _ eq
 cases rq
 cases r1 with
 | list f1 n1 y1 t1=>
  rename_i xv
  cases r2 with
  | list f2 n2 y2 t2=>
   rename_i yv
   have lx:=t1.length
   have ly:=t2.length
   have lp:=hp3.length
   have lb:=hb3.length
   have np1:a1≠ap:=fun z=>n1 (by rw [z];exact hp4)
   have nb2:a2≠ab:=fun z=>n2 (by rw [z];exact hb4)
   have nb1:ab≠a1:=fun z=>n1 (by rw [← z];exact hb4)
   have hLs:∀ a∈[a1,a2],∃ vs,H a=some (.lst vs):=fun a ha=>by
    rcases List.mem_cons.mp ha with rfl | ha
    · exact ⟨_,f1⟩
    · rw [List.mem_singleton.mp ha];exact ⟨_,f2⟩
   have sub:∀ c∈a1::a2::C.ex0,c∈[a1,a2]++ex:=fun c hc=>by
    rcases List.mem_cons.mp hc with rfl | hc
    · simp
    · rcases List.mem_cons.mp hc with rfl | hc
      · simp
      · exact List.mem_append_right _ (A.ex0 c hc)
   have up:∀ {ds:List PyData} {vs:List V},noLs ds=true→Reps ex H ds vs→Reps (a1::a2::C.ex0) H ds vs:=fun hn r=>Reps.mono sub (reps_noL hLs hn r)
   have kp:Kp (a1::a2::C.ex0) H (upd (upd H a1 (.lst (xv.take k.toNat++pv++xv.drop k.toNat))) a2 (.lst (yv.take k.toNat++bv++yv.drop k.toNat))):=(Kp.at List.mem_cons_self _).trans (Kp.at (List.mem_cons_of_mem _ List.mem_cons_self) _)
   refine ⟨_,join_some sp,_,join_some s1,_,join_some sq,k,rfl,_,join_some sq,k,rfl,a1,ap,xv,pv,k,k,rfl,rfl,rfl,rfl,f1,hp1,np1,h0,Int.le_refl _,by omega,by omega,?_⟩
   refine ⟨_,join_some sb,_,join_some s2,_,join_some sq,k,rfl,_,join_some sq,k,rfl,a2,ab,yv,bv,k,k,rfl,rfl,rfl,rfl,by rw [upd_ne (Ne.symm hne)];exact f2,by rw [upd_ne nb1];exact hb1,nb2,h0,Int.le_refl _,by omega,by omega,?_⟩
   refine h _ _ _ (by rw [upd_ne hne];exact upd_same) upd_same ?_ ?_ ((Kp.at List.mem_cons_self _).trans (Kp.at (List.mem_cons_of_mem _ List.mem_cons_self) _))
   · exact (((up nx t1).take _).append (up np hp3) |>.append ((up nx t1).drop _)).keep kp
   · exact (((up ny t2).take _).append (up nb hb3) |>.append ((up ny t2).drop _)).keep kp
noncomputable abbrev GLay:=PyData→List PyData→List PyData→PyData→(Option (List PyData×List PyData)→Prop)→Prop
noncomputable def liftLay (sp:GLay):Sp:=fun vs H Q _=>∃ (ex:List Addr) (bk tn:PyData) (row rooms:List PyData) (bv tv:V) (a1 a2:Addr) (us ws:List V) (P:Option (List PyData×List PyData)→Prop),
 vs=[bv,.ref a1,.ref a2,tv]∧Rep ex H bk bv∧Rep ex H tn tv∧H a1=some (.lst us)∧H a2=some (.lst ws)∧us.length≤sizeLine∧ws.length≤sizeLine∧Reps ex H row us∧Reps ex H rooms ws∧a1≠a2∧Alc ex H∧sp bk row rooms tn P ∧
 (P none→∀ H',Kp [] H H'→Q (.bl false) H')∧∀ row' rooms',P (some (row',rooms'))→∀ (us' ws':List V) (H':Hp),H' a1=some (.lst us')→H' a2=some (.lst ws')→Reps ex H' row' us'→Reps ex H' rooms' ws'→Kp [a1,a2] H H'→Q (.bl true) H'
theorem lay_len {sp:GLay}:∀ vs H Q E,liftLay sp vs H Q E→vs.length=4:=fun vs H Q E ⟨_,_,_,_,_,_,_,_,_,_,_,_,e,_⟩=>by rw [e];rfl
theorem lay_body {sp:GLay}{ts:TS}{N:List Str}{vs:List V}{H:Hp}{Q:VK}{E:XK}(h:liftLay sp vs H Q E)
 (hs:∀ bk row rooms tn P (D:Ends) (C:Cv) (a1 a2:Addr) (σ:L2.St) (H:Hp) (ex:List Addr),sp bk row rooms tn P→a1≠a2→At C ex (envOf N [.d bk,.pin (.ref a1) (.list row),.pin (.ref a2) (.list rooms),.d tn]) σ H 0 →
  (∀ {n v H},Ret C (.bool false) n v H→P none→D.rt v H) →
  (∀ {H1:Hp} {row' rooms':List PyData},Kp [] H H1→P (some (row',rooms'))→∀ (us' ws':List V) (H':Hp),H' a1=some (.lst us')→H' a2=some (.lst ws')→Reps (a1::a2::C.ex0) H' row' us'→Reps (a1::a2::C.ex0) H' rooms' ws'→Kp [a1,a2] H1 H'→D.rt (.bl true) H') →
  C.S=Src.no→C.H0=H→ts D σ H):ts { nx:=fun _ H'=>Q .non H',rt:=Q } (start N vs) H:=by
 obtain ⟨ex,bk,tn,row,rooms,bv,tv,a1,a2,us,ws,P,rfl,rb,rt,h1,h2,z1,z2,r1,r2,hne,al,p,q1,q2⟩:=h
 have hf:∀ c∈ex.filter (fun c=>decide (c≠a1)&&decide (c≠a2)),c∈ex:=fun c hc=>(List.mem_filter.mp hc).1
 have n1:a1∉ex.filter (fun c=>decide (c≠a1)&&decide (c≠a2)):=fun z=>by
  have:=(List.mem_filter.mp z).2
  simp at this
 have n2:a2∉ex.filter (fun c=>decide (c≠a1)&&decide (c≠a2)):=fun z=>by
  have:=(List.mem_filter.mp z).2
  simp at this
 have sub:∀ c∈ex,c∈a1::a2::ex.filter (fun c=>decide (c≠a1)&&decide (c≠a2)):=fun c hc=>by
  by_cases e1:c=a1
  · rw [e1];exact List.mem_cons_self
  · by_cases e2:c=a2
    · rw [e2];exact List.mem_cons_of_mem _ List.mem_cons_self
    · exact List.mem_cons_of_mem _ (List.mem_cons_of_mem _ (List.mem_filter.mpr ⟨hc,by simp [e1,e2]⟩))
 refine hs bk row rooms tn P _ ⟨Src.no,ex.filter (fun c=>decide (c≠a1)&&decide (c≠a2)),H,[]⟩ a1 a2 (start N [bv,.ref a1,.ref a2,tv]) H (ex.filter (fun c=>decide (c≠a1)&&decide (c≠a2))) p hne ?_ ?_ ?_ rfl rfl
 · refine at_start (S:=Src.no) (vs:=[bv,.ref a1,.ref a2,tv]) ⟨⟨bv,rfl,Rep.mono hf rb⟩,⟨rfl,.list h1 n1 z1 (Reps.mono hf r1)⟩,⟨rfl,.list h2 n2 z2 (Reps.mono hf r2)⟩,⟨tv,rfl,Rep.mono hf rt⟩,trivial⟩ rfl (fun a ha=>by cases ha) (fun a ha=>al a (hf a ha)) trivial
 · intro n v H' R hp
   cases R.r
   exact q1 hp _ R.kp
 · intro H1 row' rooms' k1 hp us' ws' H' g1 g2 g3 g4 k2
   exact q2 _ _ hp us' ws' H' g1 g2 (Reps.mono sub g3) (Reps.mono sub g4) ((Kp.of k1).trans k2)
end My
namespace L2
open PySem PySem.Spec PyProof.Rows PySem.SeqAt
section
variable {X:Cx}
noncomputable def intIs (y:Int):Value→Bool | .int a _=>a==y | _=>false
theorem vals_int {ns:List Int}:∀ {us:List Value},Vals (ns.map V.int) us→∀ i (h:i<us.length),∃ t,us[i]=Value.int (ns.getD i 0) t:=by
 induction ns with
 | nil=>intro us r i h;cases r;cases h
 | cons n ns ih=>
  intro us r i h
  cases r with
  | cons r t=>
   obtain ⟨tk,e⟩:=r
   cases i with
   | zero=>exact ⟨tk,e⟩
   | succ i=>
    obtain ⟨t2,e2⟩:=ih t i (by simpa using h)
    exact ⟨t2,by simpa using e2⟩
noncomputable def rIndexI (K:PySem.W.Frag):V→List V→Hp→VK→Prop:=fun x vs H Q=>∃ (l:Addr) (ns:List Int) (y:Int) (j:Nat),x = .ref l∧vs=[.int y]∧H l=some (.lst (ns.map V.int))∧ns[j]? = some y∧(∀ m,m<j→ns.getD m 0≠y)∧Q (.int (j:Nat)) H
theorem mt_indexI:MtM X "list.index" (rIndexI X.K):=by
 intro pins s σ H x vs v us Q I rx rv h
 obtain ⟨l,ns,y,j,rfl,rfl,hH,hj,hno,q⟩:=h
 cases rx
 obtain ⟨u,rfl,ru⟩:=rv.one
 obtain ⟨ty,rfl⟩:=ru
 obtain ⟨z,its,n,r,hl,e⟩:=I.lstM hH
 have hs:=sizeLine_eq
 have hjl:j<ns.length:=(List.getElem?_eq_some_iff.mp hj).1
 have hlen:its.length=ns.length:=by have:=r.length;rw [List.length_map] at this;exact this.symm
 rw [List.length_map] at z
 refine call_meets F.slot_list_index ⟨_,e,rfl⟩ F.entry_list_index (F.args_list_index_2 _ _) (list_indexAt l its.toArray n none #[] (.int y ty) (intIs y) j (by simpa [hlen] using hjl) (by omega) ?_ ?_) ⟨e,?_,?_⟩
 · obtain ⟨t,e2⟩:=vals_int r j (by omega)
   have:ns.getD j 0=y:=by rw [List.getD_eq_getElem?_getD,hj];rfl
   have e3:its.toArray[j]'(by simpa [hlen] using hjl) = .int (ns.getD j 0) t:=e2
   rw [e3,this]
   show (y==y)=true
   simp
 · intro m hm hmj
   obtain ⟨t,e2⟩:=vals_int r m (by simpa using hm)
   have e3:its.toArray[m] = .int (ns.getD m 0) t:=e2
   rw [e3]
   exact beq_eq_false_iff_ne.mpr (hno m hmj)
 · intro a ha
   have ha:a∈its:=by simpa using ha
   obtain ⟨i,hi,rfl⟩:=List.getElem_of_mem ha
   obtain ⟨t,e2⟩:=vals_int r i hi
   rw [e2]
   exact EqAt.int_int _ _ _ _
 · exact ⟨.int _,H,I.tok _,⟨_,rfl⟩,q⟩
end
end L2
namespace My
open PySem PySem.Spec PyProof.Rows L2
theorem repsI {ex:List Addr}{H:Hp}:∀ {ns:List Int}{vs:List V},Reps ex H (ns.map .int) vs→vs=ns.map V.int
 | [],_,.nil=>rfl
 | n::ns,_,.cons r t=>by
  cases r
  rw [repsI t];rfl
noncomputable abbrev gIndexI (i:Nat) (gy:GE):GE:=fun env n Q=>gLook i env n fun d n1=>∃ ns:List Int,d = .list (ns.map .int)∧gy env n1 fun y n2=>match y with
 | .int k=>∃ j:Nat,ns[j]? = some k∧(∀ m,m<j→ns.getD m 0≠k)∧Q (.int ((j:Nat):Int)) n2
 | _=>False
noncomputable instance ev_indexI {b:Bool}{K:PySem.W.Frag}{i:Nat}{ty:TE}{gy:GE} [Y:EV false ty gy]:EV b (tBM K "list" (rIndexI K) (tVar i) (tCons ty tNil)) (gIndexI i gy):=⟨fun {S ex env σ H n Q P} E h k=>
 (pv_var (i:=i)).ev E h fun d n1 v H1 hd s1 r=>by
  obtain ⟨ns,rfl,hy⟩:=hd
  cases r with
  | list e nm z rs=>
   refine ⟨.inl ⟨rfl,_,SqL.of e⟩,Y.ev (E.step s1) hy fun y n2 yv H2 hy2 s2 ry=>?_⟩
   cases ry with
   | int x=>
    obtain ⟨j,hj,hno,q⟩:=hy2
    have hl:=s2.1 _ _ e nm
    rw [repsI rs] at hl
    exact ⟨_,ns,x,j,rfl,rfl,hl,hj,hno,k _ _ _ _ q (s1.trans s2) (.int _)⟩
   | none=>exact hy2.elim
   | bool=>exact hy2.elim
   | str=>exact hy2.elim
   | list=>exact hy2.elim
   | tuple=>exact hy2.elim⟩
theorem idx_no {r:Int}:∀ {rs:List Int}{m:Nat},m<rs.idxOf r→rs.getD m 0≠r
 | [],m,h=>by simp at h
 | x::rs,m,h=>by
  rw [List.idxOf_cons] at h
  by_cases e:x=r
  · rw [e] at h;simp at h
  · have e2:(x==r)=false:=by simpa using e
    rw [e2] at h
    simp only [cond_false] at h
    cases m with
    | zero=>exact e
    | succ m=>exact idx_no (rs:=rs) (m:=m) (by omega)
noncomputable abbrev gTupO (i:Nat):GE:=fun env n Q=>match env[i]? with
 | some (.own xs)=>Q (.tuple xs) n
 | some (.d (.list xs))=>Q (.tuple xs) n
 | some (.d (.tuple xs))=>Q (.tuple xs) n
 | _=>False
noncomputable instance (priority:=high) ev_tupO {K:PySem.W.Frag}{i:Nat}:EV true (tCB (fun xs H Q=>∃ p ys,xs=[.ref p]∧((SqL K H p ys∧∀ l,H l=none→Q (.ref l) (upd H l (.tup ys)))∨(SqT K H p ys∧Q (.ref p) H))) (tCons (tVar i) tNil)) (gTupO i):=⟨fun {S ex env σ H n Q P} E h k=>by
 unfold gTupO at h
 split at h
 · rename_i xs e
   obtain ⟨a,vs,ev,h1,h2,h3,h4,h5⟩:=E.sl i _ e
   exact ⟨_,join_some ev,_,_,rfl,.inl ⟨SqL.of h1,fun l hl=>k _ _ _ _ h (Step.new E.inv (Kp.new hl _)) (.tuple upd_same (E.al.nm hl) h2 (h3.keep (Kp.new hl _)))⟩⟩
 · rename_i xs e
   obtain ⟨v,ev,r⟩:=E.sl i _ e
   cases r with
   | list h1 _ h2 h3=>exact ⟨_,join_some ev,_,_,rfl,.inl ⟨SqL.of h1,fun l hl=>k _ _ _ _ h (Step.new E.inv (Kp.new hl _)) (.tuple upd_same (E.al.nm hl) h2 (h3.keep (Kp.new hl _)))⟩⟩
 · rename_i xs e
   obtain ⟨v,ev,r⟩:=E.sl i _ e
   cases r with
   | tuple h1 hn h2 h3=>exact ⟨_,join_some ev,_,_,rfl,.inr ⟨SqT.of h1,k _ _ _ _ h (.refl E.inv) (.tuple h1 hn h2 h3)⟩⟩
 · exact h.elim⟩
noncomputable def lyWay (k:Int):PyData:=.tuple [.str "way",.int k]
noncomputable def lyParts (ks:List Int) (m:Int):List PyData:=ks.map lyWay++if 1<m then [.tuple [.str "times",.int (m-1),.tuple [.str "row",.tuple (ks.map lyWay)]]] else []
noncomputable def lyRooms (ws:List Way) (ks:List Int) (m:Int) (r:Int):List Int:=(ks.map fun k=>(wayAt ws k).a)++if 1<m then [r] else []
noncomputable def lyRot (ks:List Int) (j:Nat):List Int:=ks.drop j++ks.take j
noncomputable def lyIn {α:Type}(xs ys:List α) (p:Nat):List α:=xs.take p++ys++xs.drop p
noncomputable def gsLay:GLay:=fun bk row rooms tn P=>∃ (R U:Int) (ws:List Way) (cs:List Int) (rs ks:List Int) (m a:Int),bk=bookPD R U ws∧rooms=rs.map .int∧tn=turnPD (ks,m)∧BookOk R U ws∧ShortOk ws cs a ks∧1≤m∧noLs row=true∧rs.length=row.length+1∧row.length≤100000 ∧
 ((∀ k∈ks,(wayAt ws k).a∉rs)→P none)∧∀ (j:Nat) (k:Int),ks[j]? = some k→(wayAt ws k).a∈rs→P (some (lyIn row (lyParts (lyRot ks j) m) (rs.idxOf (wayAt ws k).a),(lyIn rs (lyRooms ws (lyRot ks j) m (wayAt ws k).a) (rs.idxOf (wayAt ws k).a)).map .int))
theorem rot_cut (xs:List Int) (j:Nat):cutD (xs.map PyData.int) (some ((j:Nat):Int)) none++cutD (xs.map PyData.int) none (some ((j:Nat):Int))=(lyRot xs j).map .int:=by
 rw [cutD_drop,cutD_take,← List.map_drop,← List.map_take,← List.map_append];rfl
theorem rot_len {α:Type}(xs:List Int) (j:Nat):(lyRot xs j).length=xs.length:=by
 unfold lyRot
 rw [List.length_append,List.length_drop,List.length_take]
 omega
theorem rot_cutL (xs:List Int) (j:Nat):(cutD (xs.map PyData.int) (some ((j:Nat):Int)) none).length+(cutD (xs.map PyData.int) none (some ((j:Nat):Int))).length=xs.length:=by
 rw [← List.length_append,rot_cut,List.length_map]
 exact rot_len (α:=Int) xs j
theorem rot_way (xs:List Int) (j:Nat):((lyRot xs j).map PyData.int).map (fun d=>PyData.tuple [.str "way",d])=(lyRot xs j).map lyWay:=by
 rw [List.map_map];rfl
theorem rot_map (ws:List Way) (xs:List Int) (j:Nat):lyRot (xs.map fun k=>(wayAt ws k).a) j=(lyRot xs j).map fun k=>(wayAt ws k).a:=by
 unfold lyRot
 rw [List.map_append,List.map_drop,List.map_take]
theorem noL_ints (ns:List Int):noLs (ns.map .int)=true:=noLs_mem fun d hd=>by
 obtain ⟨n,_,rfl⟩:=List.mem_map.mp hd
 unfold noL;rfl
theorem noL_way (k:Int):noL (lyWay k)=true:=by
 unfold lyWay noL
 rw [noLs_cons,noLs_cons,noLs_nil]
 unfold noL;rfl
theorem noL_ways (ks:List Int):noLs (ks.map lyWay)=true:=noLs_mem fun d hd=>by
 obtain ⟨n,_,rfl⟩:=List.mem_map.mp hd
 exact noL_way n
theorem noL_tup {ds:List PyData}(h:noLs ds=true):noL (.tuple ds)=true:=by unfold noL;exact h
theorem noL_int (i:Int):noL (.int i)=true:=by unfold noL;rfl
theorem noL_str (i:Str):noL (.str i)=true:=by unfold noL;rfl
theorem noL_parts (ks:List Int) (m:Int):noLs (lyParts ks m)=true:=by
 unfold lyParts
 rw [noLs_app,noL_ways,Bool.true_and]
 split
 · rw [noLs_cons,noLs_nil,Bool.and_true]
   refine noL_tup ?_
   rw [noLs_cons,noLs_cons,noLs_cons,noLs_nil,noL_str,noL_int,Bool.true_and,Bool.true_and,Bool.and_true]
   refine noL_tup ?_
   rw [noLs_cons,noLs_cons,noLs_nil,noL_str,Bool.true_and,Bool.and_true]
   exact noL_tup (noL_ways ks)
 · exact noLs_nil
theorem parts_len (ks:List Int) (m:Int):(lyParts ks m).length≤ks.length+1:=by
 unfold lyParts
 rw [List.length_append,List.length_map]
 split
 · exact Nat.le_refl _
 · rw [List.length_nil];omega
theorem rooms_len (ws:List Way) (ks:List Int) (m r:Int):(lyRooms ws ks m r).length≤ks.length+1:=by
 unfold lyRooms
 rw [List.length_append,List.length_map]
 split
 · exact Nat.le_refl _
 · rw [List.length_nil];omega
theorem lay_map (rs bs:List Int) (p:Nat):(rs.map PyData.int).take p++bs.map PyData.int++(rs.map PyData.int).drop p=(lyIn rs bs p).map .int:=by
 unfold lyIn
 rw [List.map_append,List.map_append,List.map_take,List.map_drop]
theorem getD_mapA {ws:List Way}{ks:List Int}{j:Nat}(h:j<ks.length):(ks.map fun k=>(wayAt ws k).a).getD j 0=(wayAt ws (ks.getD j 0)).a:=by
 rw [List.getD_eq_getElem?_getD,List.getElem?_map,List.getD_eq_getElem?_getD,List.getElem?_eq_getElem h];rfl
theorem SlR.chg {S:Src}{ex L:List Addr}{H H':Hp}{w:Vl}{o:Option V}(hl:∀ l∈L,l∈ex) (k:Kp L H H') (hn:∀ b∈ownAt [w] [o] 0,b∉L) (h:SlR S ex H w o):SlR S ex H' w o:=by
 have kx:Kp ex H H':=k.mono hl
 cases w with
 | jnk=>trivial
 | jar=>exact h
 | tape=>exact h
 | d x=>obtain ⟨v,e,r⟩:=h;exact ⟨v,e,r.keep kx⟩
 | pin v x=>obtain ⟨e,r⟩:=h;exact ⟨e,r.keep kx⟩
 | own xs=>obtain ⟨a,vs,e,h1,h2,h3,h4,h5⟩:=h;subst e;exact ⟨a,vs,rfl,k _ _ h1 (hn a List.mem_cons_self),h2,h3.keep kx,h4,h5⟩
 | dct kvs=>obtain ⟨a,kws,e,h1,⟨h2,h3⟩,h4,h5⟩:=h;subst e;exact ⟨a,kws,rfl,k _ _ h1 (hn a List.mem_cons_self),⟨h2,h3.keep kx⟩,h4,h5⟩
 | own2 ks ps=>obtain ⟨a,e,q⟩:=h;subst e;exact ⟨a,rfl,k _ _ q.h (hn a List.mem_cons_self),q.z,q.k,q.nd,q.m,q.c,fun p hp=>let w:=q.i p hp;⟨w.m,w.c,let ⟨vs,h1,h2,h3⟩:=w.h;⟨vs,k _ _ h1 (hn p.1 (List.mem_cons_of_mem _ (List.mem_map.mpr ⟨p,hp,rfl⟩))),h2,h3.keep kx⟩⟩⟩
theorem At.lay2 {C:Cv}{ex:List Addr}{env:List Vl}{σ:L2.St}{H H':Hp}{n:Nat}(A:At C ex env σ H n) {i1 i2:Nat}{xs ys xs' ys':List PyData}{us ws:List V}{a1 a2:Addr}(hi:i1≠i2) (e1:env[i1]? = some (.own xs)) (e2:env[i2]? = some (.own ys)) (s1:(σ[i1]?).join=some (.ref a1)) (s2:(σ[i2]?).join=some (.ref a2))
 (k:Kp [a1,a2] H H') (g1:H' a1=some (.lst us)) (g2:H' a2=some (.lst ws)) (r1:Reps ex H' xs' us) (r2:Reps ex H' ys' ws) (z1:us.length≤sizeLine) (z2:ws.length≤sizeLine):At C ex ((env.set i1 (.own xs')).set i2 (.own ys')) σ H' n:=by
 have ha1:a1∈ownAt env σ i1:=by unfold ownAt;rw [e1,s1];exact List.mem_singleton.mpr rfl
 have ha2:a2∈ownAt env σ i2:=by unfold ownAt;rw [e2,s2];exact List.mem_singleton.mpr rfl
 obtain ⟨p1,p2,p3⟩:=own_sl A.ev ha1
 obtain ⟨q1,q2,q3⟩:=own_sl A.ev ha2
 have n1:=A.new i1 a1 ha1
 have n2:=A.new i2 a2 ha2
 have hl:∀ l∈[a1,a2],l∈ex:=fun l h=>by
  rcases List.mem_cons.mp h with rfl | h
  · exact p2
  · rw [List.mem_singleton.mp h];exact q2
 have e2':(env.set i1 (.own xs'))[i2]? = some (.own ys):=by rw [List.getElem?_set_ne hi];exact e2
 refine ⟨⟨by rw [List.length_set,List.length_set];exact A.ev.len,fun j w e=>?_,A.ev.ch,fun b hb=>?_,C.S.keep A.ev.inv fun b hb o e=>k b o e fun z=>?_⟩,A.ex0,A.al0,fun j m b t1 t2=>?_,fun j b t=>?_,fun b o e nb=>?_,fun x hx=>(A.held x hx).keep (k.mono hl)⟩
 · by_cases hj2:i2=j
   · subst hj2
     rw [List.getElem?_set_self (List.getElem?_eq_some_iff.mp e2').1] at e
     cases e
     exact ⟨a2,ws,s2,g2,z2,r2,q2,q3⟩
   · rw [List.getElem?_set_ne hj2] at e
     by_cases hj1:i1=j
     · subst hj1
       rw [List.getElem?_set_self (List.getElem?_eq_some_iff.mp e1).1] at e
       cases e
       exact ⟨a1,us,s1,g1,z1,r1,p2,p3⟩
     · rw [List.getElem?_set_ne hj1] at e
       refine SlR.chg hl k (fun b hb z=>?_) (A.ev.sl j w e)
       rcases List.mem_cons.mp z with rfl | z
       · exact hj1 (A.sep i1 j _ ha1 (by rw [own_one e];exact hb))
       · rw [List.mem_singleton.mp z] at hb
         exact hj2 (A.sep i2 j _ ha2 (by rw [own_one e];exact hb))
 · by_cases b1:b=a1
   · rw [b1,g1];exact Option.some_ne_none _
   · by_cases b2:b=a2
     · rw [b2,g2];exact Option.some_ne_none _
     · cases e:H b with
       | none=>exact absurd e (A.ev.al b hb)
       | some o=>rw [k b o e (by simp [b1,b2])];exact Option.some_ne_none _
 · rcases List.mem_cons.mp z with rfl | z
   · exact p3 hb
   · rw [List.mem_singleton.mp z] at hb;exact q3 hb
 · rw [own_same e2',own_same e1] at t1 t2;exact A.sep j m b t1 t2
 · rw [own_same e2',own_same e1] at t;exact A.new j b t
 · refine k b o (A.kp b o e nb) fun z=>?_
   rcases List.mem_cons.mp z with rfl | z
   · rw [n1] at e;cases e
   · rw [List.mem_singleton.mp z,n2] at e;cases e
noncomputable abbrev gIfLay (sp:GLay) (i0 i1 i2 i3:Nat) (gt gu:GS):GS:=fun G env n=>i1≠i2∧match env[i0]?,env[i1]?,env[i2]?,env[i3]? with
 | some (.d bk),some (.own row),some (.own rooms),some (.d tn)=>sp bk row rooms tn fun o=>match o with
  | none=>gt G env n
  | some p=>p.1.length≤sizeLine∧p.2.length≤sizeLine∧gu G ((env.set i1 (.own p.1)).set i2 (.own p.2)) n
 | _,_,_,_=>False
noncomputable instance (priority:=high) sv_ifLay {sp:GLay}{E':XK}{i0 i1 i2 i3:Nat}{t u:TS}{gt gu:GS} [T:SV t gt] [U:SV u gu]:SV (tIfS (tNot (tB (tCall (liftLay sp) [] E' (tCons (tVar i0) (tCons (tVar i1) (tCons (tVar i2) (tCons (tVar i3) tNil))))))) t u) (gIfLay sp i0 i1 i2 i3 gt gu):=⟨fun {C G D} O {ex env σ H n} A h=>by
 obtain ⟨hi,h⟩:=h
 split at h
 · rename_i bk row rooms tn e0 e1 e2 e3
   obtain ⟨bv,s0,rb⟩:=A.ev.sl i0 _ e0
   obtain ⟨a1,us,s1,h1,z1,r1,m1,c1⟩:=A.ev.sl i1 _ e1
   obtain ⟨a2,ws,s2,h2,z2,r2,m2,c2⟩:=A.ev.sl i2 _ e2
   obtain ⟨tv,s3,rt⟩:=A.ev.sl i3 _ e3
   have hne:a1≠a2:=fun z=>by
    subst z
    exact hi (A.sep i1 i2 a1 (by unfold ownAt;rw [e1,s1];exact List.mem_singleton.mpr rfl) (by unfold ownAt;rw [e2,s2];exact List.mem_singleton.mpr rfl))
   refine ⟨_,join_some s0,_,join_some s1,_,join_some s2,_,join_some s3,ex,bk,tn,row,rooms,bv,tv,a1,a2,us,ws,_,rfl,rb,rt,h1,h2,z1,z2,r1,r2,hne,A.ev.al,h,fun hp H' k=>⟨false,rfl,?_⟩,fun row' rooms' hp us' ws' H' g1 g2 g3 g4 k=>⟨true,rfl,?_⟩⟩
   · exact T.sv O (A.step (Step.new A.ev.inv k)) hp
   · obtain ⟨l1,l2,q⟩:=hp
     exact U.sv O (A.lay2 hi e1 e2 s1 s2 k g1 g2 g3 g4 (by rw [← g3.length];exact l1) (by rw [← g4.length];exact l2)) q
 · exact h.elim⟩
theorem zip_wc {ws:List Way}{cs:List Int}(h:cs.length=ws.length):zipD (ws.map wayPD) (cs.map .int)=(List.range ws.length).map fun (i:Nat)=>PyData.tuple [wayPD (wayAt ws (i:Int)),.int (cs.getD i 0)]:=by
 unfold zipD
 apply List.ext_getElem?
 intro i
 rw [List.getElem?_zipWith]
 by_cases hi:i<ws.length
 · rw [rmap_get hi,int_get (by omega),way_get hi]
 · rw [rmap_none hi,List.getElem?_eq_none (l:=ws.map wayPD) (by rw [List.length_map];omega)]
theorem lyIn_len {α:Type}{xs ys:List α}{p:Nat}(h:p≤xs.length):(lyIn xs ys p).length=xs.length+ys.length:=by
 unfold lyIn
 rw [List.length_append,List.length_append,List.length_take,List.length_drop]
 omega
theorem lyIn_old {α:Type}{xs ys:List α}{p:Nat}{x:α}(h:x∈xs):x∈lyIn xs ys p:=by
 unfold lyIn
 rw [List.mem_append,List.mem_append]
 rw [← List.take_append_drop p xs] at h
 rcases List.mem_append.mp h with h | h
 · exact .inl (.inl h)
 · exact .inr h
theorem lyIn_new {α:Type}{xs ys:List α}{p:Nat}{x:α}(h:x∈ys):x∈lyIn xs ys p:=by
 unfold lyIn
 rw [List.mem_append,List.mem_append]
 exact .inl (.inr h)
theorem lyIn_no {xs ys:List PyData}{p:Nat}(h:noLs xs=true) (g:noLs ys=true):noLs (lyIn xs ys p)=true:=by
 unfold lyIn
 rw [noLs_app,noLs_app,g]
 rw [← List.take_append_drop p xs,noLs_app,Bool.and_eq_true] at h
 rw [h.1,h.2];rfl
theorem rot_mem {ks:List Int}{j:Nat}{k:Int}(h:k∈ks):k∈lyRot ks j:=by
 unfold lyRot
 rw [← List.take_append_drop j ks] at h
 rw [List.mem_append]
 exact (List.mem_append.mp h).symm
theorem rooms_has {ws:List Way}{ks:List Int}{m r k:Int}{j:Nat}(h:k∈ks):(wayAt ws k).a∈lyRooms ws (lyRot ks j) m r:=by
 unfold lyRooms
 exact List.mem_append_left _ (List.mem_map.mpr ⟨k,rot_mem h,rfl⟩)
theorem same_len (ws:List Way) (ks:List Int) (m r:Int):(lyRooms ws ks m r).length=(lyParts ks m).length:=by
 unfold lyRooms lyParts
 rw [List.length_append,List.length_append,List.length_map,List.length_map]
 split<;>rfl
structure WkO (ws:List Way) (cs:List Int) (room:Int) (row:List PyData) (rs:List Int) (dn pd:List (List Int×Int)):Prop where
 okT:∀ t∈dn++pd,(∃ a,ShortOk ws cs a t.1)∧1≤t.2
 cover:∀ k∈onW cs,∃ t∈dn++pd,k∈t.1
 hdn:∀ t∈dn,∀ k∈t.1,(wayAt ws k).a∈rs
 hr:room∈rs
 no:noLs row=true
 len:rs.length=row.length+1
 sz:row.length≤13*dn.length
 cnt:dn.length+pd.length≤60
theorem WkO.put {R U:Int}{ws:List Way}{cs:List Int}{room:Int}{row:List PyData}{rs:List Int}{dn lt rest:List (List Int×Int)}{t:List Int×Int}(ok:BookOk R U ws) (W:WkO ws cs room row rs dn (lt++t::rest)) {j:Nat}{k:Int}(hk:t.1[j]? = some k) (hr:(wayAt ws k).a∈rs) :
 WkO ws cs room (lyIn row (lyParts (lyRot t.1 j) t.2) (rs.idxOf (wayAt ws k).a)) (lyIn rs (lyRooms ws (lyRot t.1 j) t.2 (wayAt ws k).a) (rs.idxOf (wayAt ws k).a)) (dn++[t]) (lt++rest):=by
 have hix:rs.idxOf (wayAt ws k).a<rs.length:=List.idxOf_lt_length_of_mem hr
 have wl:=W.len
 have mem:∀ x,x∈dn++[t]++(lt++rest)↔x∈dn++(lt++t::rest):=fun x=>by
  simp only [List.mem_append,List.mem_cons,List.mem_singleton,List.not_mem_nil,or_false]
  constructor
  · rintro ((h | h) | h | h)<;>simp [h]
  · rintro (h | h | h | h)<;>simp [h]
 obtain ⟨⟨a,sh⟩,_⟩:=W.okT t (by simp)
 have hkl:t.1.length≤12:=by
  have:=rooms_le (R:=R) sh.nd fun x hx=>by
   obtain ⟨k,hk,rfl⟩:=List.mem_map.mp hx
   obtain ⟨k0,k1⟩:=sh.pth.inW k hk
   have wok:=ok.ways _ (wayAt_mem' k0 k1)
   exact ⟨wok.a0,wok.a1⟩
  rw [List.length_map] at this
  have:=ok.r1
  omega
 have pl:=parts_len (lyRot t.1 j) t.2
 rw [rot_len (α:=Int)] at pl
 refine ⟨fun x hx=>W.okT x ((mem x).mp hx),fun k hk=>?_,fun x hx k2 hk2=>?_,lyIn_old W.hr,lyIn_no W.no (noL_parts _ _),?_,?_,?_⟩
 · obtain ⟨x,hx,h⟩:=W.cover k hk
   exact ⟨x,(mem x).mpr hx,h⟩
 · rcases List.mem_append.mp hx with hx | hx
   · exact lyIn_old (W.hdn x hx k2 hk2)
   · rw [List.mem_singleton.mp hx] at hk2
     exact lyIn_new (rooms_has hk2)
 · rw [lyIn_len (by omega),lyIn_len (by omega),same_len];omega
 · rw [lyIn_len (by omega),List.length_append,List.length_singleton]
   have:=W.sz
   omega
 · have:=W.cnt
   rw [List.length_append,List.length_cons] at this
   rw [List.length_append,List.length_append,List.length_singleton]
   omega
noncomputable def Clo (ws:List Way) (p:Int×List Int):Prop:=1≤p.1∧InW ws p.2∧(p.2=[]∨∃ a,Pth ws a p.2 a)
structure CntOk (R:Int) (ws:List Way) (cs:List Int) (wk:List (Int×List Int)):Prop where
 ro:RoundOk R ws cs
 cov:∀ i:Nat,0<cs.getD i 0→∃ p∈wk,(i:Int)∈p.2
 pos:∀ p∈wk,∀ k∈p.2,0<cs.getD k.toNat 0
theorem cnt0_D (m i:Nat):(cntI m []).getD i 0=0:=by
 by_cases h:i<m
 · rw [cnt_D h];rfl
 · rw [List.getD_eq_getElem?_getD,List.getElem?_eq_none (by rw [cnt_len];omega)];rfl
theorem cnt_zero {R:Int}{ws:List Way}:CntOk R ws (cntI ws.length []) []:=by
 refine ⟨⟨cnt_len,fun c hc=>?_,fun r hr=>?_⟩,fun i h=>?_,fun p hp=>by cases hp⟩
 · obtain ⟨i,hi,rfl⟩:=List.mem_iff_getElem.mp hc
   rw [← getD_el hi,cnt0_D];exact Int.le_refl _
 · rw [more_sum]
   exact sum_zero fun i hi=>by rw [cnt0_D];exact Int.zero_mul _
 · rw [cnt0_D] at h;cases h
theorem cnt_bal {R:Int}{ws:List Way}{ls ks:List Int}{m:Int}(ro:RoundOk R ws ls) (hin:InW ws ks) (hc:ks=[]∨∃ a,Pth ws a ks a):∀ r:Nat,r<R.toNat→moreI ws (lsub ls ks m) ws.length (r:Nat)=0:=fun r hr=>by
 have h1:=ro.bal r hr
 rw [more_sum] at h1 ⊢
 have e1:((List.range ws.length).map fun j=>(lsub ls ks m).getD j 0*(oneI (wayAt ws (j:Nat)).b (r:Nat)-oneI (wayAt ws (j:Nat)).a (r:Nat))).sum=((List.range ws.length).map fun j=>(ls.getD j 0-m*(cntI ls.length ks).getD j 0)*(oneI (wayAt ws (j:Nat)).b (r:Nat)-oneI (wayAt ws (j:Nat)).a (r:Nat))).sum:=sum_congr fun j hj=>by rw [lsub_D (by rw [ro.len];exact hj)]
 rw [e1,sum_less,h1,ro.len,cnt_sum (f:=fun j=>oneI (wayAt ws (j:Nat)).b (r:Nat)-oneI (wayAt ws (j:Nat)).a (r:Nat)) hin]
 rcases hc with rfl | ⟨a,hp⟩
 · simp
 · rw [pth_flow hp];simp
theorem lsub_neg {ls ks:List Int}{m:Int}{i:Nat}(hm:1≤m) (hi:i<ls.length):ls.getD i 0≤(lsub ls ks (-m)).getD i 0∧((i:Int)∉ks→(lsub ls ks (-m)).getD i 0=ls.getD i 0)∧((i:Int)∈ks→ls.getD i 0<(lsub ls ks (-m)).getD i 0):=by
 rw [lsub_D hi,cnt_D hi]
 have hc:(0:Int)≤((ks.countP fun k=>decide (k=(i:Int)):Nat):Int):=Int.natCast_nonneg _
 have hmul:=Int.mul_nonneg (show (0:Int)≤m by omega) hc
 rw [Int.neg_mul]
 refine ⟨by omega,fun h=>?_,fun h=>?_⟩
 · have:ks.countP (fun k=>decide (k=(i:Int)))=0:=List.countP_eq_zero.mpr fun k hk z=>h (by rw [← of_decide_eq_true z];exact hk)
   rw [this];simp
 · have h1:0<ks.countP (fun k=>decide (k=(i:Int))):=List.countP_pos_iff.mpr ⟨_,h,decide_eq_true rfl⟩
   have:=Int.mul_pos (show (0:Int)<m by omega) (show (0:Int)<((ks.countP fun k=>decide (k=(i:Int)):Nat):Int) by omega)
   omega
theorem cnt_add {R:Int}{ws:List Way}{cs:List Int}{wk:List (Int×List Int)}{p:Int×List Int}(h:CntOk R ws cs wk) (c:Clo ws p):CntOk R ws (lsub cs p.2 (-p.1)) (wk++[p]):=by
 obtain ⟨hm,hin,hc⟩:=c
 have hl:=h.ro.len
 refine ⟨⟨by rw [lsub_len];exact hl,fun x hx=>?_,cnt_bal h.ro hin hc⟩,fun i hp=>?_,fun q hq k hk=>?_⟩
 · obtain ⟨i,hi,rfl⟩:=List.mem_iff_getElem.mp hx
   rw [← getD_el hi]
   rw [lsub_len] at hi
   have:=(lsub_neg (ks:=p.2) hm hi).1
   have:=getD_all h.ro.nn i
   omega
 · by_cases hi:i<cs.length
   · by_cases hk:(i:Int)∈p.2
     · exact ⟨p,by simp,hk⟩
     · rw [(lsub_neg (ks:=p.2) hm hi).2.1 hk] at hp
       obtain ⟨q,hq,hk⟩:=h.cov i hp
       exact ⟨q,List.mem_append_left _ hq,hk⟩
   · rw [List.getD_eq_getElem?_getD,List.getElem?_eq_none (by rw [lsub_len];omega)] at hp
     cases hp
 · rcases List.mem_append.mp hq with hq | hq
   · have h0:=h.pos q hq k hk
     have hi:k.toNat<cs.length:=by
      rcases Nat.lt_or_ge k.toNat cs.length with g | g
      · exact g
      · rw [List.getD_eq_getElem?_getD,List.getElem?_eq_none g] at h0;cases h0
     have:=(lsub_neg (ks:=p.2) hm hi).1
     omega
   · rw [List.mem_singleton.mp hq] at hk
     obtain ⟨k0,k1⟩:=hin k hk
     have hi:k.toNat<cs.length:=by omega
     have:=(lsub_neg (ks:=p.2) hm hi).2.2 (by rw [Int.toNat_of_nonneg k0];exact hk)
     have:=getD_all h.ro.nn k.toNat
     omega
noncomputable def fIntB:G1:=fun ds Q=>match ds with
 | [.int i]=>Q (.int i)
 | [.bool b]=>Q (.int (if b=true then 1 else 0))
 | _=>False
noncomputable instance cs_intB:CS (fun xs H Q=>(∃ i,xs=[V.int i]∧Q (V.int i) H)∨∃ k,xs=[V.bl k]∧Q (V.int (if k=true then 1 else 0)) H) fIntB:=⟨fun {H xs ds Q P} r h k=>by
 unfold fIntB at h
 split at h
 · cases r with
   | cons r1 t=>
    cases t
    cases r1
    exact .inl ⟨_,rfl,k _ _ h fun ex=>.int _⟩
 · cases r with
   | cons r1 t=>
    cases t
    cases r1
    exact .inr ⟨_,rfl,k _ _ h fun ex=>.int _⟩
 · exact h.elim⟩
theorem on_pos {ws:List Way}{cs:List Int}(hl:cs.length=ws.length) (hne:onW cs≠[]):∃ i,i<ws.length∧0<cs.getD i 0:=by
 obtain ⟨k,rest,e⟩:∃ k rest,onW cs=k::rest:=by
  cases e:onW cs with
  | nil=>exact absurd e hne
  | cons k r=>exact ⟨k,r,rfl⟩
 obtain ⟨k0,k1,kp⟩:=onW_mem.mp (show k∈onW cs by rw [e];exact List.mem_cons_self)
 exact ⟨k.toNat,by omega,kp⟩
inductive Prt where
 | way (k:Int)
 | tms (m:Int) (ks:List Int)
noncomputable def Prt.pd:Prt→PyData
 | .way k=>lyWay k
 | .tms m ks=>.tuple [.str "times",.int m,.tuple [.str "row",.tuple (ks.map lyWay)]]
noncomputable def Prt.ld (ws:List Way):Prt→Int→Int→Prop
 | .way k,a,b=>(0≤k∧k<ws.length)∧(wayAt ws k).a=a∧(wayAt ws k).b=b
 | .tms m ks,a,b=>a=b∧(1≤m∧m≤10^100-1)∧ks≠[]∧ks.length≤12∧Pth ws a ks a
noncomputable def cntK (ks:List Int) (i:Nat):Int:=((ks.countP fun k=>decide (k=(i:Int)):Nat):Int)
noncomputable def Prt.cn:Prt→Nat→Int
 | .way k,i=>cntK [k] i
 | .tms m ks,i=>m*cntK ks i
noncomputable def cnP (ps:List Prt) (i:Nat):Int:=(ps.map fun p=>p.cn i).sum
noncomputable def prts (ks:List Int) (m:Int):List Prt:=ks.map .way++if 1<m then [.tms (m-1) ks] else []
theorem prts_pd (ks:List Int) (m:Int):lyParts ks m=(prts ks m).map Prt.pd:=by
 unfold lyParts prts
 rw [List.map_append,List.map_map]
 congr 1
 by_cases h:1<m
 · rw [if_pos h,if_pos h];rfl
 · rw [if_neg h,if_neg h];rfl
theorem cntK_app (xs ys:List Int) (i:Nat):cntK (xs++ys) i=cntK xs i+cntK ys i:=by
 unfold cntK
 rw [List.countP_append];omega
theorem cntK_rot (ks:List Int) (j i:Nat):cntK (lyRot ks j) i=cntK ks i:=by
 unfold lyRot
 rw [cntK_app]
 have:=cntK_app (ks.take j) (ks.drop j) i
 rw [List.take_append_drop] at this
 omega
theorem cntK_cons (k:Int) (ks:List Int) (i:Nat):cntK (k::ks) i=cntK [k] i+cntK ks i:=cntK_app [k] ks i
theorem cnP_app (xs ys:List Prt) (i:Nat):cnP (xs++ys) i=cnP xs i+cnP ys i:=by
 unfold cnP
 rw [List.map_append,List.sum_append]
theorem cnP_ways (i:Nat):∀ ks:List Int,cnP (ks.map .way) i=cntK ks i
 | []=>rfl
 | k::ks=>by
  rw [cntK_cons,← cnP_ways i ks]
  unfold cnP
  rw [List.map_cons,List.map_cons,List.sum_cons];rfl
theorem cnP_prts {ks:List Int}{m:Int}(hm:1≤m) (i:Nat):cnP (prts ks m) i=m*cntK ks i:=by
 unfold prts
 rw [cnP_app,cnP_ways]
 by_cases h:1<m
 · rw [if_pos h]
   show cntK ks i+((m-1)*cntK ks i+0)=_
   rw [Int.sub_mul,Int.one_mul];omega
 · rw [if_neg h]
   have:m=1:=by omega
   rw [this]
   show cntK ks i+0=_
   omega
theorem cnP_in (xs ys:List Prt) (p i:Nat):cnP (lyIn xs ys p) i=cnP xs i+cnP ys i:=by
 unfold lyIn
 rw [cnP_app,cnP_app]
 have:=cnP_app (xs.take p) (xs.drop p) i
 rw [List.take_append_drop] at this
 omega
theorem pth_cut {ws:List Way}{b:Int}:∀ {ks:List Int}{a:Int}{p:Nat}{k:Int},Pth ws a ks b→ks[p]? = some k→Pth ws a (ks.take p) (wayAt ws k).a∧Pth ws (wayAt ws k).a (ks.drop p) b
 | [],_,_,_,_,e=>by cases e
 | x::ks,a,0,k,h,e=>by
  cases e
  refine ⟨h.2.1.symm,?_⟩
  rw [h.2.1];exact h
 | x::ks,a,p+1,k,h,e=>by
  obtain ⟨h1,h2⟩:=pth_cut h.2.2 (p:=p) (by simpa using e)
  exact ⟨⟨h.1,h.2.1,h1⟩,h2⟩
theorem rot_pth {ws:List Way}{a:Int}{ks:List Int}{j:Nat}{k:Int}(h:Pth ws a ks a) (hk:ks[j]? = some k):Pth ws (wayAt ws k).a (lyRot ks j) (wayAt ws k).a:=by
 obtain ⟨h1,h2⟩:=pth_cut h hk
 exact h2.app h1
noncomputable def Ldp (ws:List Way):Int→List Prt→List Int→Int→Prop
 | a,[],[],b=>a=b
 | a,p::ps,r::rs,b=>a=r∧∃ c,p.ld ws r c∧Ldp ws c ps rs b
 | _,[],_::_,_=>False
 | _,_::_,[],_=>False
theorem Ldp.app {ws:List Way}:∀ {ps qs:List Prt}{rs ss:List Int}{a b c:Int},Ldp ws a ps rs b→Ldp ws b qs ss c→Ldp ws a (ps++qs) (rs++ss) c
 | [],_,[],_,a,b,c,h,g=>by
  have:a=b:=h
  subst this;exact g
 | p::ps,qs,r::rs,ss,a,b,c,h,g=>by
  obtain ⟨e,d,h1,h2⟩:=h
  exact ⟨e,d,h1,h2.app g⟩
 | [],_,_::_,_,_,_,_,h,_=>h.elim
 | _::_,_,[],_,_,_,_,h,_=>h.elim
theorem Ldp.cut {ws:List Way}:∀ {ps:List Prt}{rs:List Int}{a b r:Int}{p:Nat},Ldp ws a ps rs b→(rs++[b])[p]? = some r→Ldp ws a (ps.take p) (rs.take p) r∧Ldp ws r (ps.drop p) (rs.drop p) b
 | [],[],a,b,r,p,h,e=>by
  have hab:a=b:=h
  cases p with
  | zero=>
   simp at e
   subst e
   exact ⟨hab,rfl⟩
  | succ p=>simp at e
 | x::ps,y::rs,a,b,r,0,h,e=>by
  have e1:=h.1
  simp at e
  subst e
  exact ⟨e1,⟨rfl,h.2⟩⟩
 | x::ps,y::rs,a,b,r,p+1,h,e=>by
  obtain ⟨e1,c,h1,h2⟩:=h
  obtain ⟨g1,g2⟩:=h2.cut (p:=p) (r:=r) (by simpa using e)
  exact ⟨⟨e1,c,h1,g1⟩,g2⟩
 | [],_::_,_,_,_,_,h,_=>h.elim
 | _::_,[],_,_,_,_,h,_=>h.elim
theorem ldp_ways {ws:List Way}{b:Int}:∀ {ks:List Int}{a:Int},Pth ws a ks b→Ldp ws a (ks.map .way) (ks.map fun k=>(wayAt ws k).a) b
 | [],_,h=>h
 | k::ks,a,h=>⟨h.2.1.symm,_,⟨h.1,rfl,rfl⟩,ldp_ways h.2.2⟩
theorem ldp_prts {ws:List Way}{ks:List Int}{r m:Int}(h:Pth ws r ks r) (hne:ks≠[]) (hl:ks.length≤12) (hm:m≤10^100):Ldp ws r (prts ks m) (lyRooms ws ks m r) r:=by
 unfold prts lyRooms
 refine (ldp_ways h).app ?_
 by_cases c:1<m
 · rw [if_pos c,if_pos c]
   exact ⟨rfl,r,⟨rfl,⟨by omega,by omega⟩,hne,hl,h⟩,rfl⟩
 · rw [if_neg c,if_neg c];exact rfl
theorem sumT_cons (t:List Int×Int) (ts:List (List Int×Int)) (i:Nat):sumT (t::ts) i=t.2*cntK t.1 i+sumT ts i:=by
 unfold sumT cntK
 rw [List.map_cons,List.sum_cons]
theorem sumT_app (ts us:List (List Int×Int)) (i:Nat):sumT (ts++us) i=sumT ts i+sumT us i:=by
 unfold sumT
 rw [List.map_append,List.sum_append]
structure WkT (ws:List Way) (cs:List Int) (room:Int) (row:List PyData) (rs:List Int) (dn pd:List (List Int×Int)):Prop where
 o:WkO ws cs room row rs dn pd
 t:∃ (ps:List Prt) (st:List Int),row=ps.map Prt.pd∧rs=st++[room]∧Ldp ws room ps st room∧∀ i:Nat,i<ws.length→cs.getD i 0=cnP ps i+sumT pd i
theorem WkT.put {R U:Int}{ws:List Way}{cs:List Int}{room:Int}{row:List PyData}{rs:List Int}{dn lt rest:List (List Int×Int)}{t:List Int×Int}(ok:BookOk R U ws) (W:WkT ws cs room row rs dn (lt++t::rest)) (hb:t.2≤10^100) {j:Nat}{k:Int}(hk:t.1[j]? = some k) (hr:(wayAt ws k).a∈rs) :
 WkT ws cs room (lyIn row (lyParts (lyRot t.1 j) t.2) (rs.idxOf (wayAt ws k).a)) (lyIn rs (lyRooms ws (lyRot t.1 j) t.2 (wayAt ws k).a) (rs.idxOf (wayAt ws k).a)) (dn++[t]) (lt++rest):=by
 refine ⟨W.o.put ok hk hr,?_⟩
 obtain ⟨ps,st,rfl,rfl,hl,hc⟩:=W.t
 obtain ⟨⟨a,sh⟩,hm⟩:=W.o.okT t (by simp)
 have hkl:t.1.length≤12:=by
  have:=rooms_le (R:=R) sh.nd fun x hx=>by
   obtain ⟨k,hk,rfl⟩:=List.mem_map.mp hx
   obtain ⟨k0,k1⟩:=sh.pth.inW k hk
   have wok:=ok.ways _ (wayAt_mem' k0 k1)
   exact ⟨wok.a0,wok.a1⟩
  rw [List.length_map] at this
  have:=ok.r1
  omega
 have hix:(st++[room]).idxOf (wayAt ws k).a<(st++[room]).length:=List.idxOf_lt_length_of_mem hr
 have hget:=idx_get hr
 generalize (st++[room]).idxOf (wayAt ws k).a=p at hix hget
 rw [List.length_append,List.length_singleton] at hix
 obtain ⟨g1,g2⟩:=hl.cut (p:=p) hget
 have rp:=rot_pth sh.pth hk
 have rl:(lyRot t.1 j).length=t.1.length:=rot_len (α:=Int) t.1 j
 have rne:lyRot t.1 j≠[]:=fun z=>by
  rw [z] at rl
  exact sh.ne (List.length_eq_zero_iff.mp rl.symm)
 refine ⟨lyIn ps (prts (lyRot t.1 j) t.2) p,lyIn st (lyRooms ws (lyRot t.1 j) t.2 (wayAt ws k).a) p,?_,?_,?_,fun i hi=>?_⟩
 · unfold lyIn
   rw [List.map_append,List.map_append,prts_pd,List.map_take,List.map_drop]
 · unfold lyIn
   rw [List.take_append_of_le_length (by omega),List.drop_append_of_le_length (by omega),List.append_assoc,List.append_assoc,List.append_assoc]
 · unfold lyIn
   exact (g1.app (ldp_prts rp rne (by omega) hb)).app g2
 · rw [hc i hi,cnP_in,cnP_prts hm,cntK_rot,sumT_app,sumT_app,sumT_cons];omega
theorem wkT_nil {ws:List Way}{cs ls:List Int}{room:Int}{ts:List (List Int×Int)}(tk:TurnsOk ws cs ls ts) (lt:∀ i:Nat,ls.getD i 0=0) (W:WkO ws cs room [] [room] [] ts):WkT ws cs room [] [room] [] ts:=
 ⟨W,[],[],rfl,rfl,rfl,fun i hi=>by
  rw [tk.sum i hi,lt];rfl⟩
theorem sumT_nn {i:Nat}:∀ {ts:List (List Int×Int)},(∀ t∈ts,1≤t.2)→0≤sumT ts i
 | [],_=>Int.le_refl _
 | t::ts,h=>by
  rw [sumT_cons]
  have:=sumT_nn (i:=i) fun u hu=>h u (List.mem_cons_of_mem _ hu)
  have:=Int.mul_nonneg (show 0≤t.2 by have:=h t List.mem_cons_self;omega) (show 0≤cntK t.1 i from Int.natCast_nonneg _)
  omega
theorem sumT_ge {i:Nat}{t:List Int×Int}:∀ {ts:List (List Int×Int)},(∀ t∈ts,1≤t.2)→t∈ts→(i:Int)∈t.1→t.2≤sumT ts i
 | [],_,h,_=>by cases h
 | u::ts,h,hm,hi=>by
  rw [sumT_cons]
  have h1:=sumT_nn (i:=i) fun u hu=>h u (List.mem_cons_of_mem _ hu)
  have h0:0≤u.2:=by have:=h u List.mem_cons_self;omega
  rcases List.mem_cons.mp hm with rfl | hm
  · have c1:1≤cntK t.1 i:=by
     unfold cntK
     have:0<t.1.countP (fun k=>decide (k=(i:Int))):=List.countP_pos_iff.mpr ⟨_,hi,decide_eq_true rfl⟩
     omega
    have:=Int.mul_le_mul_of_nonneg_left c1 h0
    omega
  · have:=sumT_ge (fun u hu=>h u (List.mem_cons_of_mem _ hu)) hm hi
    have:=Int.mul_nonneg h0 (show 0≤cntK u.1 i from Int.natCast_nonneg _)
    omega
theorem turn_le {ws:List Way}{cs ls:List Int}{ts:List (List Int×Int)}(hl:cs.length=ws.length) (tk:TurnsOk ws cs ls ts) (lt:∀ i:Nat,ls.getD i 0=0) {B:Int}(hB:∀ i:Nat,i<ws.length→cs.getD i 0≤B):∀ t∈ts,t.2≤B:=fun t ht=>by
 obtain ⟨⟨a,sh⟩,_⟩:=tk.ok t ht
 obtain ⟨k,rest,e⟩:∃ k rest,t.1=k::rest:=by
  cases h:t.1 with
  | nil=>exact absurd h sh.ne
  | cons k r=>exact ⟨k,r,rfl⟩
 have hk:k∈t.1:=by rw [e];exact List.mem_cons_self
 obtain ⟨k0,k1⟩:=sh.pth.inW k hk
 have h1:=sumT_ge (i:=k.toNat) (fun u hu=>(tk.ok u hu).2) ht (by rw [Int.toNat_of_nonneg k0];exact hk)
 have h2:=tk.sum k.toNat (by omega)
 rw [lt] at h2
 have:=hB k.toNat (by omega)
 omega
structure RowOk (ws:List Way) (cs:List Int) (room:Int) (ps:List Prt):Prop where
 ne:ps≠[]
 len:ps.length≤1000
 ld:∃ st,Ldp ws room ps st room
 cn:∀ i:Nat,i<ws.length→cs.getD i 0=cnP ps i
theorem WkT.done {ws:List Way}{cs:List Int}{room:Int}{row:List PyData}{rs:List Int}{dn:List (List Int×Int)}(W:WkT ws cs room row rs dn []) (hp:∃ i,i<ws.length∧0<cs.getD i 0):∃ ps,row=ps.map Prt.pd∧RowOk ws cs room ps:=by
 obtain ⟨ps,st,rfl,_,hl,hc⟩:=W.t
 have hsz:=W.o.sz
 have hct:=W.o.cnt
 rw [List.length_map] at hsz
 rw [List.length_nil] at hct
 refine ⟨ps,rfl,fun z=>?_,by omega,⟨st,hl⟩,fun i hi=>?_⟩
 · obtain ⟨i,hi,h⟩:=hp
   rw [hc i hi,z] at h
   cases h
 · rw [hc i hi]
   show _+0=_
   omega
noncomputable def gsWalkT:GSp:=fun as n Q=>∃ (R U:Int) (ws:List Way) (cs:List Int) (room:Int),as=[.d (bookPD R U ws),.d (.tuple (cs.map .int)),.d (.int room)]∧BookOk R U ws∧RoundOk R ws cs∧(∃ i,i<ws.length∧0<cs.getD i 0)∧(∀ i:Nat,i<ws.length→cs.getD i 0≤10^100) ∧
 (ringsI R.toNat ws (onW cs)).length=1∧(∃ k∈onW cs,(wayAt ws k).a=room)∧∀ ps:List Prt,RowOk ws cs room ps→Q (.tuple [.str "row",.tuple (ps.map Prt.pd)]) n
noncomputable def Prt.fa (ws:List Way):Prt→Fa
 | .way k=>faWay (wayAt ws k)
 | .tms m ks=>(rowF (pathF ws ks)).pw m
theorem rowFrom_g (i:Nat):∀ (fs:List Fa) (f:Fa),(rowFrom f fs).g i=f.g i+(fs.map (fun x=>x.g i)).sum
 | [],f=>by simp [rowFrom]
 | y::ys,f=>by
  show (rowFrom (f.then y) ys).g i=_
  rw [rowFrom_g i ys]
  simp only [Fa.then,List.map_cons,List.sum_cons]
  omega
theorem rowF_g {fs:List Fa}{i:Nat}:(rowF fs).g i=(fs.map (fun x=>x.g i)).sum:=by
 cases fs with
 | nil=>rfl
 | cons x xs=>simp only [rowF,List.map_cons,List.sum_cons];rw [rowFrom_g]
theorem pth_ab {ws:List Way}{ks:List Int}{a b:Int}(h:Pth ws a ks b) (hne:ks≠[]):(rowF (pathF ws ks)).a=a∧(rowF (pathF ws ks)).b=b∧Leads (pathF ws ks):=by
 cases ks with
 | nil=>exact absurd rfl hne
 | cons k r=>
  refine ⟨?_,?_,?_⟩
  · show (rowFrom (faWay (wayAt ws k)) (pathF ws r)).a=a
    rw [rowFrom_a];exact h.2.1
  · exact pth_b (bs:=r) (f:=faWay (wayAt ws k)) h.2.2
  · exact pth_leads (bs:=r) (f:=faWay (wayAt ws k)) h.2.2
theorem prt_ab {ws:List Way}{p:Prt}{a b:Int}(h:p.ld ws a b):(p.fa ws).a=a∧(p.fa ws).b=b:=by
 cases p with
 | way k=>exact ⟨h.2.1,h.2.2⟩
 | tms m ks=>
  obtain ⟨e,_,hne,_,hp⟩:=h
  obtain ⟨h1,h2,_⟩:=pth_ab hp hne
  exact ⟨h1,h2.trans e⟩
theorem prt_td {ws:List Way}{p:Prt}{a b:Int}(h:p.ld ws a b):TD ws 2 p.pd (p.fa ws):=by
 cases p with
 | way k=>exact Td.way h.1.1 h.1.2 2
 | tms m ks=>
  obtain ⟨e,hm,hne,hl,hp⟩:=h
  obtain ⟨h1,h2,h3⟩:=pth_ab hp hne
  refine .inr (.inr ⟨m,rowT (ks.map wayT),rowF (pathF ws ks),rfl,rfl,hm.1,hm.2,.inr (h1.trans h2.symm),?_⟩)
  exact .inr (.inl ⟨_,_,rfl,rfl,fun z=>hne (List.map_eq_nil_iff.mp z),by rw [List.length_map];omega,path_td hp.inW,h3⟩)
theorem ldp_td {ws:List Way}:∀ {ps:List Prt}{rs:List Int}{a b:Int},Ldp ws a ps rs b→All2 (TD ws 2) (ps.map Prt.pd) (ps.map (Prt.fa ws))∧Leads (ps.map (Prt.fa ws))∧(ps≠[]→(rowF (ps.map (Prt.fa ws))).a=a∧(rowF (ps.map (Prt.fa ws))).b=b)
 | [],[],_,_,_=>⟨trivial,trivial,fun z=>absurd rfl z⟩
 | p::ps,r::rs,a,b,h=>by
  obtain ⟨e,c,h1,h2⟩:=h
  obtain ⟨g1,g2,g3⟩:=ldp_td h2
  obtain ⟨pa,pb⟩:=prt_ab h1
  cases ps with
  | nil=>
   cases rs with
   | nil=>
    have hc:c=b:=h2
    exact ⟨⟨prt_td h1,trivial⟩,trivial,fun _=>⟨by rw [e];exact pa,pb.trans hc⟩⟩
   | cons _ _=>exact h2.elim
  | cons q qs=>
   obtain ⟨ga,gb⟩:=g3 (by simp)
   refine ⟨⟨prt_td h1,g1⟩,⟨?_,g2⟩,fun _=>⟨?_,?_⟩⟩
   · show (p.fa ws).b=(q.fa ws).a
     have:(rowF ((q::qs).map (Prt.fa ws))).a=(q.fa ws).a:=rowF_a
     rw [pb,← this,ga]
   · have:(rowF ((p::q::qs).map (Prt.fa ws))).a=(p.fa ws).a:=rowF_a
     rw [this,pa,e]
   · have h5:(rowF ((p::q::qs).map (Prt.fa ws))).b=(((q::qs).map (Prt.fa ws)).getLastD (p.fa ws)).b:=rowF_b
     have h6:(rowF ((q::qs).map (Prt.fa ws))).b=((qs.map (Prt.fa ws)).getLastD (q.fa ws)).b:=rowF_b
     rw [h5,← gb,h6]
     cases qs<;>rfl
 | [],_::_,_,_,h=>h.elim
 | _::_,[],_,_,h=>h.elim
theorem row_td {ws:List Way}{cs:List Int}{room:Int}{ps:List Prt}(h:RowOk ws cs room ps):TD ws 3 (rowT (ps.map Prt.pd)) (rowF (ps.map (Prt.fa ws)))∧(rowF (ps.map (Prt.fa ws))).a=room∧(rowF (ps.map (Prt.fa ws))).b=room:=by
 obtain ⟨st,hl⟩:=h.ld
 obtain ⟨g1,g2,g3⟩:=ldp_td hl
 refine ⟨.inr (.inl ⟨_,_,rfl,rfl,fun z=>h.ne (List.map_eq_nil_iff.mp z),by rw [List.length_map];have:=h.len;omega,g1,g2⟩),g3 h.ne⟩
noncomputable def Prt.lin (φ:Nat→Int):Prt→Int
 | .way k=>φ k.toNat
 | .tms m ks=>m*(ks.map fun k=>φ k.toNat).sum
theorem sum_scale {n:Nat}{m:Int}{f:Nat→Int}:((List.range n).map fun i=>m*f i).sum=m*((List.range n).map f).sum:=by
 induction n with
 | zero=>simp
 | succ n ih=>simp only [List.range_succ,List.map_append,List.sum_append,List.map_singleton,List.sum_singleton];rw [ih,Int.mul_add]
theorem cntK_sum {n:Nat}{f:Nat→Int}{ns:List Int}(h:∀ k∈ns,0≤k∧k<n):((List.range n).map fun i=>cntK ns i*f i).sum=(ns.map fun k=>f k.toNat).sum:=by
 rw [← cnt_sum (m:=n) h]
 exact sum_congr fun i hi=>by rw [cnt_D hi];rfl
theorem lin_one {ws:List Way}{φ:Nat→Int}{p:Prt}{a b:Int}(h:p.ld ws a b):p.lin φ = ((List.range ws.length).map fun i=>p.cn i * φ i).sum:=by
 cases p with
 | way k=>
  rw [show (fun i=>Prt.cn (.way k) i * φ i)=fun i=>cntK [k] i * φ i from rfl,cntK_sum fun x hx=>by rw [List.mem_singleton.mp hx];exact h.1]
  show φ k.toNat = φ k.toNat+0
  omega
 | tms m ks=>
  obtain ⟨_,_,_,_,hp⟩:=h
  rw [show (fun i=>Prt.cn (.tms m ks) i * φ i)=fun i=>m*(cntK ks i * φ i) from funext fun i=>Int.mul_assoc _ _ _,sum_scale,cntK_sum hp.inW]
  rfl
theorem lin_all {ws:List Way}{φ:Nat→Int}:∀ {ps:List Prt}{rs:List Int}{a b:Int},Ldp ws a ps rs b→(ps.map (Prt.lin φ)).sum=((List.range ws.length).map fun i=>cnP ps i * φ i).sum
 | [],[],_,_,_=>by
  rw [sum_zero (f:=fun i=>cnP [] i * φ i) fun i _=>Int.zero_mul _];rfl
 | p::ps,r::rs,a,b,h=>by
  obtain ⟨e,c,h1,h2⟩:=h
  rw [List.map_cons,List.sum_cons,lin_all h2,lin_one h1,← sum_add]
  refine sum_congr fun i _=>?_
  rw [← Int.add_mul];rfl
 | [],_::_,_,_,h=>h.elim
 | _::_,[],_,_,h=>h.elim
theorem fa_g {ws:List Way}(q:Nat) {p:Prt}{a b:Int}(h:p.ld ws a b):(p.fa ws).g q=p.lin fun i=>(wayAt ws ((i:Nat):Int)).g.getD q 0:=by
 cases p with
 | way k=>
  show (wayAt ws k).g.getD q 0=(wayAt ws ((k.toNat:Nat):Int)).g.getD q 0
  rw [Int.toNat_of_nonneg h.1.1]
 | tms m ks=>
  obtain ⟨_,_,_,_,hp⟩:=h
  show m*(rowF (pathF ws ks)).g q=m*_
  rw [rowF_g]
  unfold pathF
  rw [List.map_map]
  refine congrArg (fun x=>m*List.sum x) ?_
  exact List.map_congr_left fun k hk=>by
   show (wayAt ws k).g.getD q 0=(wayAt ws ((k.toNat:Nat):Int)).g.getD q 0
   rw [Int.toNat_of_nonneg (hp.inW k hk).1]
theorem ldp_gs {ws:List Way}(q:Nat):∀ {ps:List Prt}{rs:List Int}{a b:Int},Ldp ws a ps rs b→((ps.map (Prt.fa ws)).map fun x=>x.g q)=ps.map (Prt.lin fun i=>(wayAt ws ((i:Nat):Int)).g.getD q 0)
 | [],[],_,_,_=>rfl
 | p::ps,r::rs,a,b,h=>by
  obtain ⟨e,c,h1,h2⟩:=h
  rw [List.map_cons,List.map_cons,List.map_cons,ldp_gs q h2,fa_g q h1]
 | [],_::_,_,_,h=>h.elim
 | _::_,[],_,_,h=>h.elim
theorem row_g {ws:List Way}{cs:List Int}{room:Int}{ps:List Prt}(h:RowOk ws cs room ps) (q:Nat):(rowF (ps.map (Prt.fa ws))).g q=((List.range ws.length).map fun i=>cs.getD i 0*(wayAt ws ((i:Nat):Int)).g.getD q 0).sum:=by
 obtain ⟨st,hl⟩:=h.ld
 rw [rowF_g,ldp_gs q hl,lin_all hl]
 exact sum_congr fun i hi=>by rw [h.cn i hi]
noncomputable def unitW (ws:List Way):List Way:=(List.range ws.length).map fun (i:Nat)=>{ wayAt ws (i:Int) with g:=(List.range ws.length).map fun j=>if i=j then 1 else 0 }
theorem unit_len (ws:List Way):(unitW ws).length=ws.length:=by unfold unitW;rw [List.length_map,List.length_range]
theorem unit_at {ws:List Way}{k:Int}(h0:0≤k) (h1:k<ws.length):wayAt (unitW ws) k = { wayAt ws k with g:=(List.range ws.length).map fun j=>if k.toNat=j then 1 else 0 }:=by
 unfold unitW
 conv=>lhs;unfold wayAt
 rw [List.getD_eq_getElem?_getD,List.getElem?_map,List.getElem?_range (by omega)]
 show ({ wayAt ws ((k.toNat:Nat):Int) with g:=_ }:Way)=_
 rw [Int.toNat_of_nonneg h0]
theorem unit_pth {ws:List Way}{b:Int}:∀ {ks:List Int}{a:Int},Pth ws a ks b→Pth (unitW ws) a ks b
 | [],_,h=>h
 | k::ks,a,h=>by
  obtain ⟨⟨h0,h1⟩,e,t⟩:=h
  refine ⟨⟨h0,by rw [unit_len];exact h1⟩,?_,?_⟩
  · rw [unit_at h0 h1];exact e
  · rw [unit_at h0 h1];exact unit_pth t
theorem unit_ld {ws:List Way}{p:Prt}{a b:Int}(h:p.ld ws a b):p.ld (unitW ws) a b:=by
 cases p with
 | way k=>
  obtain ⟨⟨h0,h1⟩,e1,e2⟩:=h
  refine ⟨⟨h0,by rw [unit_len];exact h1⟩,?_,?_⟩
  · rw [unit_at h0 h1];exact e1
  · rw [unit_at h0 h1];exact e2
 | tms m ks=>
  obtain ⟨e,hm,hne,hl,hp⟩:=h
  exact ⟨e,hm,hne,hl,unit_pth hp⟩
theorem unit_ldp {ws:List Way}:∀ {ps:List Prt}{rs:List Int}{a b:Int},Ldp ws a ps rs b→Ldp (unitW ws) a ps rs b
 | [],[],_,_,h=>h
 | p::ps,r::rs,a,b,h=>by
  obtain ⟨e,c,h1,h2⟩:=h
  exact ⟨e,c,unit_ld h1,unit_ldp h2⟩
 | [],_::_,_,_,h=>h.elim
 | _::_,[],_,_,h=>h.elim
theorem unit_row {ws:List Way}{cs:List Int}{room:Int}{ps:List Prt}(h:RowOk ws cs room ps):RowOk (unitW ws) cs room ps:=
 ⟨h.ne,h.len,let ⟨st,hl⟩:=h.ld;⟨st,unit_ldp hl⟩,fun i hi=>h.cn i (by rw [unit_len] at hi;exact hi)⟩
theorem unit_g {ws:List Way}{cs:List Int}{room:Int}{ps:List Prt}(h:RowOk ws cs room ps) {q:Nat}(hq:q<ws.length):(rowF (ps.map (Prt.fa (unitW ws)))).g q=cs.getD q 0:=by
 rw [row_g (unit_row h),unit_len,← sum_one (m:=ws.length) (k:=q) (f:=fun i=>cs.getD i 0) hq]
 refine sum_congr fun i hi=>?_
 rw [unit_at (Int.natCast_nonneg i) (by omega),Int.toNat_natCast,Int.mul_comm]
 show ((List.range ws.length).map fun j=>if i=j then (1:Int) else 0).getD q 0*_=_
 rw [List.getD_eq_getElem?_getD (l:=(List.range ws.length).map fun j=>if i=j then (1:Int) else 0),List.getElem?_map,List.getElem?_range hq]
 show (if i=q then 1 else 0)*_=(if q=i then 1 else 0)*_
 by_cases e:i=q
 · rw [if_pos e,if_pos e.symm]
 · rw [if_neg e,if_neg fun z=>e z.symm]
theorem faU_lt {ws:List Way}{k:Int}(h0:0≤k) (h1:k<(unitW ws).length):(faWay (wayAt (unitW ws) k)).Lt 99:=by
 rw [unit_len] at h1
 rw [unit_at h0 h1]
 have key:∀ i,-1≤((List.range ws.length).map fun j=>if k.toNat=j then (1:Int) else 0).getD i 0∧((List.range ws.length).map fun j=>if k.toNat=j then (1:Int) else 0).getD i 0≤1:=fun i=>by
  rw [List.getD_eq_getElem?_getD]
  cases e:((List.range ws.length).map fun j=>if k.toNat=j then (1:Int) else 0)[i]? with
  | none=>simp
  | some x=>
   obtain ⟨j,_,rfl⟩:=List.mem_map.mp (List.mem_of_getElem? e)
   show -1≤(if k.toNat=j then (1:Int) else 0)∧(if k.toNat=j then (1:Int) else 0)≤1
   split<;>omega
 refine ⟨by simp only [faWay];omega,fun i=>?_,fun i=>?_,fun i=>?_⟩
 · have:=key i;simp only [faWay];omega
 · have:=key i;simp only [faWay];omega
 · have:=key i;simp only [faWay];omega
theorem tdW_lt {ws:List Way}(hw:∀ k:Int,0≤k→k<ws.length→(faWay (wayAt ws k)).Lt 99):∀ {n:Nat}{d:PyData}{f:Fa},TD ws n d f→f.Lt (XB n)
 | 0,_,_,⟨k,h0,h1,_,e⟩=>e▸hw k h0 h1
 | n+1,d,f,h=>by
  have hX:=XB_pos n
  have hbig:XB n≤XB (n+1):=by
   have:0≤(10^100-1)*XB n:=Int.mul_nonneg (by decide +kernel) hX
   rw [Int.sub_mul,Int.one_mul] at this
   show XB n≤10^100*XB n
   omega
  rcases h with ⟨k,h0,h1,_,rfl⟩ | ⟨ds,fs,h1,rfl,h3,h4,h5,h6⟩ | ⟨m,e,g,h1,rfl,h3,h4,h5,h6⟩
  · refine (hw k h0 h1).mono (Int.le_trans ?_ hbig)
    clear hbig hX
    induction n with
    | zero=>decide
    | succ n ih=>
     have:0≤(10^100-1)*XB n:=Int.mul_nonneg (by decide +kernel) (XB_pos n)
     rw [Int.sub_mul,Int.one_mul] at this
     show 99≤10^100*XB n
     omega
  · have hx:=h5.right (S:=fun f=>f.Lt (XB n)) fun _ _ q=>tdW_lt hw q
    have hl:=h5.length
    cases fs with
    | nil=>cases ds with
     | nil=>exact absurd rfl h3
     | cons _ _=>exact h5.elim
    | cons x xs=>
     refine (rowFrom_lt hX (hx x List.mem_cons_self) fun y hy=>hx y (List.mem_cons_of_mem _ hy)).mono ?_
     show XB n+(xs.length:Int)*XB n≤10^100*XB n
     rw [List.length_cons] at hl
     have e:XB n+(xs.length:Int)*XB n=(1+(xs.length:Int))*XB n:=by rw [Int.add_mul,Int.one_mul]
     rw [e]
     exact Int.mul_le_mul_of_nonneg_right (by have:(2000:Int)≤10^100:=by decide +kernel
                                              omega) hX
  · refine ((tdW_lt hw h6).pw h6.ok h3 hX).mono ?_
    show m*XB n≤10^100*XB n
    exact Int.mul_le_mul_of_nonneg_right (by omega) hX
noncomputable abbrev cntT (ws:List Way) (f:Fa):PyData:=.tuple [.tuple (fl ws.length f.g),.tuple [.int f.a,.int f.b]]
noncomputable def gsToldC (m:Nat):GSp:=fun as n Q=>∃ (R U:Int) (ws:List Way) (d:PyData) (f:Fa),as=[.d (bookPD R U ws),.d d]∧BookOk R U ws∧TD (unitW ws) m d f∧m≤20∧Q (cntT ws f) n
noncomputable def gsShaped (m:Nat):GSp:=fun as n Q=>∃ (R U:Int) (ws:List Way) (d:PyData) (f:Fa),as=[.d (bookPD R U ws),.d d]∧BookOk R U ws∧TD ws m d f∧Q (.bool true) n
noncomputable def cntsI (ws:List Way) (wk:List (Int×List Int)):List Int:=wk.foldl (fun cs p=>lsub cs p.2 (-p.1)) (cntI ws.length [])
noncomputable def gsCountsE:GSp:=fun as n Q=>∃ (R U:Int) (ws:List Way) (wk:List (Int×List Int)),as=[.d (bookPD R U ws),.d (.list (wk.map wkD))]∧BookOk R U ws∧(∀ p∈wk,InW ws p.2)∧Q (.tuple ((cntsI ws wk).map .int)) n
theorem cnts_snoc (ws:List Way) (wk:List (Int×List Int)) (p:Int×List Int):cntsI ws (wk++[p])=lsub (cntsI ws wk) p.2 (-p.1):=by
 unfold cntsI
 rw [List.foldl_append];rfl
theorem foldl_len {ls:List Int}:∀ (wk:List (Int×List Int)) (ls:List Int),(wk.foldl (fun cs p=>lsub cs p.2 (-p.1)) ls).length=ls.length
 | [],_=>rfl
 | p::wk,ls=>by rw [List.foldl_cons,foldl_len (ls:=ls) wk,lsub_len]
theorem cnts_len (ws:List Way) (wk:List (Int×List Int)):(cntsI ws wk).length=ws.length:=by
 unfold cntsI
 rw [foldl_len (ls:=[]),cnt_len]
theorem foldl_ok {R:Int}{ws:List Way}:∀ (wk dn:List (Int×List Int)) (ls:List Int),CntOk R ws ls dn→(∀ p∈wk,Clo ws p)→CntOk R ws (wk.foldl (fun cs p=>lsub cs p.2 (-p.1)) ls) (dn++wk)
 | [],dn,ls,h,_=>by rw [List.append_nil];exact h
 | p::wk,dn,ls,h,hc=>by
  rw [List.foldl_cons]
  have:=foldl_ok wk (dn++[p]) _ (cnt_add h (hc p List.mem_cons_self)) fun q hq=>hc q (List.mem_cons_of_mem _ hq)
  rw [List.append_assoc] at this
  exact this
theorem cnts_ok {R:Int}{ws:List Way}{wk:List (Int×List Int)}(h:∀ p∈wk,Clo ws p):CntOk R ws (cntsI ws wk) wk:=foldl_ok wk [] _ cnt_zero h
theorem foldl_le {B:Int}{i:Nat}:∀ (wk:List (Int×List Int)) (ls:List Int),(∀ p∈wk,0≤p.1∧p.1*p.2.length≤B)→0≤B→i<ls.length→(wk.foldl (fun cs p=>lsub cs p.2 (-p.1)) ls).getD i 0≤ls.getD i 0+wk.length*B
 | [],ls,_,_,_=>by simp
 | p::wk,ls,h,hB,hi=>by
  rw [List.foldl_cons]
  have ih:=foldl_le (B:=B) wk (lsub ls p.2 (-p.1)) (fun q hq=>h q (List.mem_cons_of_mem _ hq)) hB (by rw [lsub_len];exact hi)
  obtain ⟨h0,h1⟩:=h p List.mem_cons_self
  rw [lsub_D hi,cnt_D hi,Int.neg_mul] at ih
  have:p.1*((p.2.countP fun k=>decide (k=(i:Int)):Nat):Int)≤p.1*(p.2.length:Int):=Int.mul_le_mul_of_nonneg_left (by have:=List.countP_le_length (p:=fun k=>decide (k=(i:Int))) (l:=p.2);omega) h0
  rw [List.length_cons,Int.natCast_add,Int.add_mul]
  simp only [Int.natCast_one,Int.one_mul]
  omega
theorem cnts_le {ws:List Way}{wk:List (Int×List Int)}{B:Int}{i:Nat}(h:∀ p∈wk,0≤p.1∧p.1*p.2.length≤B) (hB:0≤B) (hi:i<ws.length):(cntsI ws wk).getD i 0≤wk.length*B:=by
 have:=foldl_le (B:=B) (i:=i) wk (cntI ws.length []) h hB (by rw [cnt_len];exact hi)
 rw [cnt0_D] at this
 unfold cntsI
 omega
theorem cnts_one {ws:List Way}{k:Int}(h0:0≤k) (h1:k<ws.length):(cntsI ws [(1,[k])]).map PyData.int=fl ws.length (faWay (wayAt (unitW ws) k)).g:=by
 rw [fl_ints,cnts_len]
 refine fl_ext fun i hi=>?_
 show (lsub (cntI ws.length []) [k] (-1)).getD i 0=_
 rw [lsub_D (by rw [cnt_len];exact hi),cnt0_D,cnt_len,cnt_D hi,unit_at h0 h1]
 show _=((List.range ws.length).map fun j=>if k.toNat=j then (1:Int) else 0).getD i 0
 rw [List.getD_eq_getElem?_getD,List.getElem?_map,List.getElem?_range hi]
 show _=if k.toNat=i then (1:Int) else 0
 by_cases e:k.toNat=i
 · rw [if_pos e,List.countP_cons_of_pos (p:=fun k=>decide (k=(i:Int))) (decide_eq_true (by omega))];rfl
 · rw [if_neg e,List.countP_cons_of_neg (p:=fun k=>decide (k=(i:Int))) (fun z=>e (by have:=of_decide_eq_true z;omega))];rfl
noncomputable def allK (wk:List (Int×List Int)):List Int:=(wk.map (·.2)).flatten
theorem allK_mem {wk:List (Int×List Int)}{k:Int}:k∈allK wk↔∃ p∈wk,k∈p.2:=by
 unfold allK
 rw [List.mem_flatten]
 constructor
 · rintro ⟨l,hl,hk⟩
   obtain ⟨p,hp,rfl⟩:=List.mem_map.mp hl
   exact ⟨p,hp,hk⟩
 · rintro ⟨p,hp,hk⟩
   exact ⟨_,List.mem_map.mpr ⟨p,hp,rfl⟩,hk⟩
theorem Rt.sub {es es':List (Nat×Nat)}(h:∀ e∈es,e∈es') {a b:Nat}(r:Rt es a b):Rt es' a b:=by
 induction r with
 | refl=>exact .refl _
 | step _ e ih=>exact ih.step (h _ e)
structure HungI (ws:List Way) (B:Int) (wk:List (Int×List Int)):Prop where
 clo:∀ p∈wk,Clo ws p
 bd:∀ p∈wk,p.1≤B∧p.2.length≤20
 con:∀ k∈allK wk,∀ j∈allK wk,Rt (esOf ws (allK wk)) (wayAt ws k).b.toNat (wayAt ws j).a.toNat
theorem hung_one {ws:List Way}{B m:Int}{ns:List Int}(hm:1≤m∧m≤B) (hin:InW ws ns) (hc:ns=[]∨∃ a,Pth ws a ns a) (hl:ns.length≤20):HungI ws B [(m,ns)]:=by
 have key:∀ {p:Int×List Int},p∈[(m,ns)]→p=(m,ns):=fun h=>List.mem_singleton.mp h
 have ha:allK [(m,ns)]=ns:=by unfold allK;simp
 refine ⟨fun p hp=>by rw [key hp];exact ⟨hm.1,hin,hc⟩,fun p hp=>by rw [key hp];exact ⟨hm.2,hl⟩,fun k hk j hj=>?_⟩
 rw [ha] at hk hj ⊢
 rcases hc with rfl | ⟨a,hp⟩
 · cases hk
 obtain ⟨_,e2⟩:=pth_rt (es:=esOf ws ns) hp fun k hk=>List.mem_map.mpr ⟨k,hk,rfl⟩
 exact (e2 k hk).2.trans (e2 j hj).1
theorem HungI.add {ws:List Way}{B m:Int}{wk:List (Int×List Int)}{ns:List Int}{k0:Int}(I:HungI ws B wk) (hm:1≤m∧m≤B) (h0:k0∈allK wk) (hp:Pth ws (wayAt ws k0).a ns (wayAt ws k0).a) (hl:ns.length≤20):HungI ws B (wk++[(m,ns)]):=by
 have ha:allK (wk++[(m,ns)])=allK wk++ns:=by unfold allK;simp
 refine ⟨fun p hp'=>?_,fun p hp'=>?_,fun k hk j hj=>?_⟩
 · rcases List.mem_append.mp hp' with h | h
   · exact I.clo p h
   · rw [List.mem_singleton.mp h];exact ⟨hm.1,hp.inW,.inr ⟨_,hp⟩⟩
 · rcases List.mem_append.mp hp' with h | h
   · exact I.bd p h
   · rw [List.mem_singleton.mp h];exact ⟨hm.2,hl⟩
 rw [ha] at hk hj ⊢
 have sub:∀ e∈esOf ws (allK wk),e∈esOf ws (allK wk++ns):=fun e he=>by
  unfold esOf at he ⊢
  rw [List.map_append]
  exact List.mem_append_left _ he
 have old:∀ k∈allK wk,∀ j∈allK wk,Rt (esOf ws (allK wk++ns)) (wayAt ws k).b.toNat (wayAt ws j).a.toNat:=fun k hk j hj=>(I.con k hk j hj).sub sub
 obtain ⟨_,e2⟩:=pth_rt (es:=esOf ws (allK wk++ns)) hp fun k hk=>List.mem_map.mpr ⟨k,List.mem_append_right _ hk,rfl⟩
 have st:Rt (esOf ws (allK wk++ns)) (wayAt ws k0).a.toNat (wayAt ws k0).b.toNat:=.step (.refl _) (List.mem_map.mpr ⟨k0,List.mem_append_left _ h0,rfl⟩)
 have to0:Rt (esOf ws (allK wk++ns)) (wayAt ws k).b.toNat (wayAt ws k0).a.toNat:=by
  rcases List.mem_append.mp hk with h | h
  · exact old k h k0 h0
  · exact (e2 k h).2
 rcases List.mem_append.mp hj with h | h
 · exact to0.trans (st.trans (old k0 h0 j h))
 · exact to0.trans (e2 j h).1
structure HungC (R:Int) (ws:List Way) (cs:List Int):Prop where
 ro:RoundOk R ws cs
 le:∀ i:Nat,i<ws.length→cs.getD i 0≤10^99
 one:onW cs≠[]→ringsI R.toNat ws (onW cs)=[onW cs]
theorem HungI.done {R U:Int}{ws:List Way}{wk:List (Int×List Int)}(ok:BookOk R U ws) (I:HungI ws (10^97) wk) (hl:wk.length≤4):HungC R ws (cntsI ws wk):=by
 have C:CntOk R ws (cntsI ws wk) wk:=cnts_ok I.clo
 have mem:∀ k,k∈onW (cntsI ws wk)↔k∈allK wk:=fun k=>by
  rw [onW_mem,allK_mem]
  constructor
  · rintro ⟨h0,_,h2⟩
    obtain ⟨p,hp,hk⟩:=C.cov k.toNat h2
    rw [Int.toNat_of_nonneg h0] at hk
    exact ⟨p,hp,hk⟩
  · rintro ⟨p,hp,hk⟩
    obtain ⟨h0,h1⟩:=(I.clo p hp).2.1 k hk
    exact ⟨h0,by rw [C.ro.len];exact h1,C.pos p hp k hk⟩
 refine ⟨C.ro,fun i hi=>?_,fun hne=>?_⟩
 · have:=cnts_le (ws:=ws) (wk:=wk) (B:=10^97*20) (i:=i) (fun p hp=>?_) (by decide +kernel) hi
   · have h4:(wk.length:Int)*(10^97*20)≤4*(10^97*20):=Int.mul_le_mul_of_nonneg_right (by omega) (by decide +kernel)
     have h5:(4:Int)*(10^97*20)≤10^99:=by decide +kernel
     exact Int.le_trans this (Int.le_trans h4 h5)
   · have h1:=(I.clo p hp).1
     obtain ⟨h2,h3⟩:=I.bd p hp
     exact ⟨by omega,Int.mul_le_mul h2 (by omega) (by omega) (by decide +kernel)⟩
 · have conn:∀ k∈onW (cntsI ws wk),∀ j∈onW (cntsI ws wk),Rt (esOf ws (onW (cntsI ws wk))) (wayAt ws k).b.toNat (wayAt ws j).a.toNat:=fun k hk j hj=>(I.con k ((mem k).mp hk) j ((mem j).mp hj)).sub fun e he=>by
    obtain ⟨x,hx,rfl⟩:=List.mem_map.mp he
    exact List.mem_map.mpr ⟨x,(mem x).mpr hx,rfl⟩
   refine one_ring hne (fun e he=>?_) conn
   obtain ⟨k,hk,rfl⟩:=List.mem_map.mp he
   obtain ⟨h0,h1,_⟩:=onW_mem.mp hk
   rw [C.ro.len] at h1
   have wok:=ok.ways _ (wayAt_mem' h0 h1)
   have:=wok.a0
   have:=wok.a1
   have:=wok.b0
   have:=wok.b1
   exact ⟨by omega,by omega⟩
noncomputable def gsHung:GSp:=fun as n Q=>∃ (R U:Int) (ws:List Way) (often:Int),as=[.jar,.d (bookPD R U ws),.d (.int 8),.d (.int often)]∧BookOk R U ws∧(1≤often∧often≤10^97)∧∀ cs:List Int,HungC R ws cs→Q (.tuple (cs.map .int)) n
noncomputable abbrev gForN (i j:Nat) (ks:List Nat) (bd:GG) (gn:GN):GS:=fun G env n=>match env[i]? with
 | some (.own items)=>i≠j∧i∉ks∧∃ W:Nat→List Vl→Nat→Prop,W 0 env n∧(∀ k env n,W k env n→env[i]? = some (.own items)) ∧
  (∀ k x env n,items[k]? = some x→W k env n→bd x env fun env1=>gn env1 n fun ds n1=>W (k+1) (env1.set j (.own ds)) n1)∧∀ env n,W items.length env n→G.nx env n
 | some (.d (.list items))=>∃ W:Nat→List Vl→Nat→Prop,W 0 env n ∧
  (∀ k x env n,items[k]? = some x→W k env n→bd x env fun env1=>gn env1 n fun ds n1=>W (k+1) (env1.set j (.own ds)) n1)∧∀ env n,W items.length env n→G.nx env n
 | _=>False
noncomputable instance (priority:=high) sv_forN {K:PySem.W.Frag}{i j:Nat}{g:TG}{bd:GG}{ks:List Nat}{te:TE}{gn:GN} [B:GV g bd ks] [N:NV te gn]:SV (tFor (iList K (tVar i)) g (tAsg te (gName j))) (gForN i j ks bd gn):=⟨fun {C G D} O {ex env σ H n} A h=>by
 unfold gForN at h
 split at h
 · rename_i items e
   obtain ⟨hij,hik,W,w0,wi,wt,wd⟩:=h
   obtain ⟨a,vs,ev,h1,h2,h3,h4,h5⟩:=A.ev.sl i _ e
   refine ⟨_,join_some ev,_,rfl,⟨_,SqL.of h1⟩,?_⟩
   refine ⟨fun k m σ2 H2=>k≤items.length∧m=items.length-k∧(σ2[i]?).join=some (.ref a)∧∃ ex2 env2 n2,At C ex2 env2 σ2 H2 n2∧W k env2 n2,⟨_,Nat.zero_le _,rfl,ev,ex,env,n,A,w0⟩,?_⟩
   rintro k m σ2 H2 ⟨hk,rfl,ea,ex2,env2,n2,A2,w2⟩
   have e2:=wi k env2 n2 w2
   obtain ⟨a',vs',ev',g1,g2,g3,g4,g5⟩:=A2.ev.sl i _ e2
   rw [ea] at ev'
   cases ev'
   have IT:ItAt ex2 (Itl K a) items H2:=it_list g1 g3
   rcases Nat.lt_or_ge k items.length with hlt | hge
   · refine .inr ⟨(IT.2 k items[k] (List.getElem?_eq_getElem hlt)).1,fun σ' H'=>(σ'[i]?).join=some (.ref a)∧∃ ex3 env3 n3,At C ex3 env3 σ' H' n3∧W (k+1) env3 n3,fun σ' H' h=>⟨items.length-(k+1),by omega,hlt,rfl,h⟩,fun x H3 y=>?_⟩
     obtain ⟨kp3,rx⟩:=(IT.2 k items[k] (List.getElem?_eq_getElem hlt)).2 x H3 y
     have A3:=A2.step (Step.new A2.ev.inv kp3)
     refine B.gv A3.ev rx (wt k _ env2 n2 (List.getElem?_eq_getElem hlt) w2) fun env' σ' p E' o hne _=>?_
     have A4:=A3.bind E' o
     refine N.nv A4.ev p fun ds n1 b us H1 q1 s1 ha hl hz r=>?_
     refine ⟨?_,_,_,_,A4.own s1 ha hl hz r,q1⟩
     rw [List.getElem?_set_ne hij.symm,hne i hik]
     exact ea
   · have ee:k=items.length:=by omega
     subst ee
     exact .inl ⟨IT.1,O.nx A2 (wd _ _ w2)⟩
 · rename_i items e
   obtain ⟨W,w0,wt,wd⟩:=h
   refine (sv_for (wi:=iList K (tVar i)) (g:=g) (tb:=tAsg te (gName j))).sv O A ?_
   unfold gFor gIter gVar
   rw [e]
   exact ⟨W,w0,wt,wd⟩
 · exact h.elim⟩
theorem allK_len {wk:List (Int×List Int)}(h:∀ p∈wk,p.2.length≤20):(allK wk).length≤20*wk.length:=by
 induction wk with
 | nil=>exact Nat.zero_le _
 | cons p wk ih=>
  have e:allK (p::wk)=p.2++allK wk:=rfl
  have h1:=h p List.mem_cons_self
  have h2:=ih fun q hq=>h q (List.mem_cons_of_mem _ hq)
  rw [e,List.length_append,List.length_cons]
  omega
theorem allK_take {wk:List (Int×List Int)}{i:Nat}{p:Int×List Int}(h:wk[i]? = some p):allK (wk.take (i+1))=allK (wk.take i)++p.2:=by
 have hi:=(List.getElem?_eq_some_iff.mp h).1
 have he:wk[i]=p:=(List.getElem?_eq_some_iff.mp h).2
 rw [List.take_succ_eq_append_getElem hi,he]
 unfold allK
 rw [List.map_append,List.flatten_append]
 simp
theorem nsl2 {x y z:PyData}:¬ (HT.sIx [x,y,z].length 0 none=0∧HT.sIx [x,y,z].length [x,y,z].length (some 2)=[x,y,z].length):=fun h=>absurd (show HT.sIx 3 3 (some 2)=3 from h.2) (by decide)
theorem chain_le {i j:Int}{Q:PyData→Prop}(h:i≤j) (q:Q (.bool true)):fI0 (fun i j=>V.bl (decide (i≤j))) (.int i) (.int j) Q:=by
 show Q (.bool (decide (i≤j)))
 rw [decide_eq_true h];exact q
theorem cnt_sh {cs:List Int}(hl:cs.length≤60) (h:∀ c∈cs,0≤c∧c<10^100):ShOk (.tuple (cs.map .int)):=by
 have h1:=SD.tup (SDs.all (h:=1) (n:=340) (ds:=cs.map .int) fun d hd=>by
  obtain ⟨c,hc,rfl⟩:=List.mem_map.mp hd
  obtain ⟨c0,c1⟩:=h c hc
  have hm:c.natAbs<10^100:=by
   have:(c.natAbs:Int)<((10^100:Nat):Int):=by rw [Int.natAbs_of_nonneg c0];exact_mod_cast c1
   exact_mod_cast this
  exact SD.int hm (by decide))
 exact (h1.mono (h':=2) (n':=30000) (by decide) (by rw [List.length_map];omega)).show (by decide) (by decide)
theorem cnt_eq {ws:List Way}{cs:List Int}{room:Int}{ps:List Prt}(hl:cs.length=ws.length) (h:RowOk ws cs room ps):cntT ws (rowF (ps.map (Prt.fa (unitW ws)))) = .tuple [.tuple (cs.map .int),.tuple [.int room,.int room]]:=by
 obtain ⟨_,ea,eb⟩:=row_td (unit_row h)
 unfold cntT
 rw [ea,eb,fl_ints,hl,fl_ext fun i hi=>unit_g h hi]
theorem cnt_ne {cs:List Int}{r:Int}{Q:PyData→Prop}(q:Q (.bool false)):fEqD true (.tuple [.tuple (cs.map .int),.tuple [.int r,.int r]]) (.tuple [.tuple (cs.map .int),.tuple [.int r,.int r]]) Q:=by
 refine neSelf ?_ ?_ q
 · rw [PyData.canLay0,PyData.canLayAll0,PyData.canLay0,lay_is];rfl
 · rw [PyData.depth,PyData.depthAll,PyData.depth,dep_is];show max (0+1) (max (0+1) 0)+1≤50;decide
end My
set_option synthInstance.maxSize 100000
set_option synthInstance.maxHeartbeats 4000000
namespace My
open PySem PySem.Spec PyProof.Rows L2
noncomputable def top (i:Nat):Stmt:=PySem.Challenge.pw_fallsum_k23_told_walks_of_rounds.main.body.getD i (.Pass ⟨0,0,0,0⟩)
noncomputable abbrev s_is_whole:Stmt:=top 4
noncomputable abbrev s_rooms_reached:Stmt:=top 6
noncomputable abbrev s_rings_of:Stmt:=top 7
noncomputable abbrev s_parts_of:Stmt:=top 9
noncomputable abbrev s_short_turn:Stmt:=top 10
noncomputable abbrev s_turns_of:Stmt:=top 11
noncomputable abbrev s_lay_turn:Stmt:=top 12
noncomputable abbrev s_walk_of:Stmt:=top 13
noncomputable abbrev s_law_mix:Stmt:=top 15
noncomputable abbrev s_law_jar:Stmt:=top 16
noncomputable abbrev s_law_pick:Stmt:=top 17
noncomputable abbrev s_law_gain:Stmt:=top 18
noncomputable abbrev s_law_book:Stmt:=top 19
noncomputable abbrev s_law_from:Stmt:=top 20
noncomputable abbrev s_law_walk:Stmt:=top 21
noncomputable abbrev s_law_back:Stmt:=top 22
noncomputable abbrev s_law_closed:Stmt:=top 23
noncomputable abbrev s_law_counts:Stmt:=top 24
noncomputable abbrev s_law_hung:Stmt:=top 26
noncomputable abbrev s_law_told_counts:Stmt:=top 27
noncomputable abbrev s_law_is_shaped:Stmt:=top 28
noncomputable abbrev s_law:Stmt:=top 29
structure Txt (mg:Str→Option Value):Prop where
 b_isinstance:mg "isinstance" = none
 b_int:mg "int" = none
 b_bool:mg "bool" = none
 b_str:mg "str" = none
 b_tuple:mg "tuple" = none
 b_len:mg "len" = none
 b_all:mg "all" = none
 b_sum:mg "sum" = none
 b_range:mg "range" = none
 b_list:mg "list" = none
 b_zip:mg "zip" = none
 b_enumerate:mg "enumerate" = none
 b_min:mg "min" = none
 b_any:mg "any" = none
 b_repr:mg "repr" = none
section
variable {P:Program}{w:World}{K:PySem.W.Frag}{mg:Str→Option Value}{base:Heap}
theorem sc_law_mix:FnScope ["one"] ["one"] (defScope s_law_mix):=⟨rfl,rfl,rfl,by decide +kernel,rfl,by decide +kernel,by decide +kernel⟩
theorem ok_law_mix (T:Txt mg) (D:Def K mg "_law_mix" s_law_mix ["one"]):Cal P w K mg base "_law_mix" 1 ["one"] spMix:=by
 refine D.cal fun f fd F=>F.ok sc_law_mix (fun vs H Q E h=>?_) (fun cdv A outer s H vs Q E hr h=>?_)
 · obtain ⟨n,rfl,_⟩:=h
   rfl
 obtain ⟨n,rfl,h0,h1,q⟩:=h
 refine ⟨_,(@pss_cons _ _ _ _ _ (ps_set (i:=0) sc_law_mix.nd rfl (Or.inl rfl) (pe_op op_mod (pe_op op_mul (pe_op op_xor (pv 0) (pe_op op_fdivB (pv 0) pe_int)) pe_int) pe_int))
  (@pss_cons _ _ _ _ _ (ps_set (i:=0) sc_law_mix.nd rfl (Or.inl rfl) (pe_op op_mod (pe_op op_mul (pe_op op_xor (pv 0) (pe_op op_fdivB (pv 0) pe_int)) pe_int) pe_int))
  (@pss_one _ _ _ (@ps_ret _ _ _ _ (pe_op op_xor (pv 0) (pe_op op_fdivB (pv 0) pe_int)))))),?_⟩
 have m:∀ z:Int,0≤z%18446744073709551616∧z%18446744073709551616<18446744073709551616:=fun z=>⟨Int.emod_nonneg _ (by decide),Int.emod_lt_of_pos _ (by decide)⟩
 have xb:∀ z:Int,(0≤z∧z<18446744073709551616)→0≤Builtin.bitXor z (z/2147483648)∧Builtin.bitXor z (z/2147483648)<2^64:=fun z hz=>xor_bound (by omega) (by omega) (by omega) (by omega)
 refine ⟨_,rfl,_,rfl,_,_,rfl,rfl,cdivB_of (by decide) (by decide +kernel),_,_,rfl,rfl,_,_,rfl,rfl,.inr ⟨by decide,by decide⟩,_,_,rfl,rfl,(show (0:Int)<18446744073709551616 by decide),?_⟩
 refine ⟨_,rfl,_,rfl,_,_,rfl,rfl,cdivB_of (by decide) (by decide +kernel),_,_,rfl,rfl,_,_,rfl,rfl,.inr ⟨by decide,by decide⟩,_,_,rfl,rfl,(show (0:Int)<18446744073709551616 by decide),?_⟩
 refine ⟨_,rfl,_,rfl,_,_,rfl,rfl,cdivB_of (by decide) (by decide +kernel),_,_,rfl,rfl,?_⟩
 exact q _ (xb _ (m _)).1 (xb _ (m _)).2
theorem sc_law_jar:FnScope ["script","seed","cell"] ["script"] (defScope s_law_jar):=⟨rfl,rfl,rfl,by decide +kernel,rfl,by decide +kernel,by decide +kernel⟩
theorem ok_law_jar (T:Txt mg) (D:Def K mg "_law_jar" s_law_jar ["script"]) (c__law_mix:Cal P w K mg base "_law_mix" 1 ["one"] spMix):Cal P w K mg base "_law_jar" 2 ["script"] (spJar K):=by
 refine D.cal fun f fd F=>F.ok sc_law_jar (fun vs H Q E h=>?_) (fun cdv A outer s H vs Q E hr h=>?_)
 · obtain ⟨a,ns,rfl,_⟩:=h
   rfl
 obtain ⟨a,ns,rfl,hS,hlen,q⟩:=h
 refine ⟨_,(@pss_cons _ _ _ _ _ (ps_set (i:=1) sc_law_jar.nd rfl (Or.inl rfl) pe_int)
  (@pss_cons _ _ _ _ _ (ps_for PassesOwn.never rfl (pi_list (pe_slice sl_list (pv 0) po_none (po_some pe_int))) (pg_name (i:=2) sc_law_jar.nd rfl (Or.inl rfl) (Or.inl rfl))
  (@pss_one _ _ _ (ps_set (i:=1) sc_law_jar.nd rfl (Or.inl rfl) (pe_c c__law_mix (hr.mono (by decide)) rfl (pa_binop (pe_op op_mod (pe_op op_add (pe_op op_mul (pv 1) pe_int) (pv 2)) pe_int) pa_nil)))))
  (@pss_one _ _ _ (@ps_ret _ _ _ _ (pe_disp (pps_cons pe_str (pe_callTy call_list_of rfl T.b_list boot_list (pa_sub (pe_slice sl_list (pv 0) po_none (po_some pe_int)) pa_nil)) (pps_cons pe_str pe_int (pps_cons pe_str (pv 1) (pps_cons pe_str pe_int pps_nil)))) rfl rfl (by simp) (by simp)))))),?_⟩
 obtain ⟨ms,ems,lms⟩:=cutV_ints ns none (some 63)
 refine seq_by (fun σ' H'=>∃ (x:Option V) (sd:Int),σ'=[some (.ref a),some (.int sd),x]∧Kp [] H H'∧0≤sd∧sd<2^64) (fun N hN=>hN _ _ ⟨none,2545678901234567,rfl,.refl,by decide,by decide⟩) ?_
 rintro σ1 H1 ⟨x1,sd1,rfl,k1,b1,b2⟩
 have hS1:SqL K H1 a (ns.map V.int):=(show Same H H1 from fun b o e=>k1 b o e (by simp)).seq hS
 refine seq_by (fun σ' H'=>∃ (x:Option V) (sd:Int),σ'=[some (.ref a),some (.int sd),x]∧Kp [] H H'∧0≤sd∧sd<2^64) (fun N hN=>?_) ?_
 · refine ⟨_,rfl,_,rfl,a,_,rfl,hS1,fun p hp=>?_⟩
   rw [ems]
   refine ⟨p,rfl,⟨_,SqL.of upd_same⟩,for_list (K:=K) (a:=p) (xs:=ms.map V.int) (fun i σ H2=>∃ (x:Option V) (sd:Int),σ = [some (.ref a),some (.int sd),x]∧Kp [] (upd H1 p (.lst (ms.map V.int))) H2∧0≤sd∧sd<2^64)
    ⟨x1,sd1,rfl,.refl,b1,b2⟩ (fun i σ H2 _ ⟨_,_,_,k2,_⟩=>SqL.of (k2 _ _ upd_same (by simp))) ?_ ?_⟩
   · rintro i y σ H2 hi ⟨x2,sd2,rfl,k2,c1,c2⟩
     obtain ⟨z,rfl⟩:∃ z,y=V.int z:=by
      rw [List.getElem?_map] at hi
      cases e:ms[i]? with
      | none=>rw [e] at hi;cases hi
      | some z=>rw [e] at hi;exact ⟨z,(Option.some.inj hi).symm⟩
     refine ⟨_,rfl,_,_,rfl,rfl,.inr ⟨by decide,by decide⟩,_,rfl,_,_,rfl,rfl,_,_,rfl,rfl,(show (0:Int)<18446744073709551616 by decide),_,rfl,Int.emod_nonneg _ (by decide),Int.emod_lt_of_pos _ (by decide),fun r r0 r1=>?_⟩
     exact ⟨_,r,rfl,k2,r0,r1⟩
   · rintro σ H2 ⟨x2,sd2,rfl,k2,c1,c2⟩
     exact hN _ _ ⟨x2,sd2,rfl,k1.trans ((Kp.new hp _).trans k2),c1,c2⟩
 · rintro σ2 H2 ⟨x2,sd2,rfl,k2,c1,c2⟩
   have hS2:SqL K H2 a (ns.map V.int):=(show Same H H2 from fun b o e=>k2 b o e (by simp)).seq hS
   intro p hp
   have kp:Kp [] H2 (upd H2 p (.dK [])):=Kp.new hp _
   refine ⟨_,rfl,_,rfl,a,_,rfl,(show Same H2 _ from fun b o e=>kp b o e (by simp)).seq hS2,fun l1 hl1=>?_⟩
   rw [ems]
   refine ⟨l1,_,rfl,.inl (SqL.of upd_same),fun l2 hl2=>?_⟩
   have n1:l1≠p:=fun z=>by rw [z,upd_same] at hl1;cases hl1
   have n2:l2≠p:=fun z=>by rw [z,upd_ne (Ne.symm n1),upd_same] at hl2;cases hl2
   refine ⟨_,rfl,?_⟩
   refine ⟨by rw [upd_ne (Ne.symm n2),upd_ne (Ne.symm n1),upd_same],[(Sum.inr "cells",V.ref l2),(Sum.inr "rest",V.int 0),(Sum.inr "seed",V.int sd2),(Sum.inr "turn",V.int 0)],rfl,(show 4≤15 by decide),?_⟩
   have k3:Kp [] H2 (upd (upd (upd H2 p (.dK [])) l1 (.lst (ms.map V.int))) l2 (.lst (ms.map V.int))):=kp.trans ((Kp.new hl1 _).trans (Kp.new hl2 _))
   have hl2':H2 l2=none:=by
    rw [upd_ne (fun z=>by rw [z,upd_same] at hl2;cases hl2),upd_ne n2] at hl2;exact hl2
   refine q p l2 _ (k2.trans (fun b o e _=>?_)) ?_ ?_ ⟨ms,0,sd2,(0,none),?_,?_,by omega,c1,c2⟩
   · rw [upd_ne (ne_of_none e hp)];exact k3 b o e (by simp)
   · exact (show Same H H2 from fun b o e=>k2 b o e (by simp)).free hp
   · exact (show Same H H2 from fun b o e=>k2 b o e (by simp)).free hl2'
   · rw [upd_same,← jar_made]
   · rw [upd_ne n2,upd_same]
theorem sc_law_pick:FnScope ["jar","many","cell","one","found"] ["jar","many"] (defScope s_law_pick):=⟨rfl,rfl,rfl,by decide +kernel,rfl,by decide +kernel,by decide +kernel⟩
theorem ok_law_pickE (T:Txt mg) (D:Def K mg "_law_pick" s_law_pick ["jar","many"]) (c__law_mix:Cal P w K mg base "_law_mix" 1 ["one"] spMix):Cal P w K mg base "_law_pick" 2 ["jar","many"] spPickE:=by
 refine D.cal fun f fd F=>F.ok sc_law_pick (fun vs H Q E h=>?_) (fun cdv A outer s H vs Q E hr h=>?_)
 · obtain ⟨p,c,n,e,rfl,_⟩:=h
   rfl
 obtain ⟨p,c,n,e,rfl,J,h0,h1,q⟩:=h
 refine ⟨_,(@pss_cons _ _ _ _ _ (ps_if (pt_cmpR op_lt (pe_dget (hu_of hr) (pv 0) pe_str (fun _ _=>rfl)) (pv 1) (nomark _)) (@pss_cons _ _ _ _ _ (ps_dput (hu_of hr) (pv 0) pe_str (pe_op op_add (pe_dget (hu_of hr) (pv 0) pe_str (fun _ _=>rfl)) pe_int) rfl)
  (@pss_one _ _ _ (ps_if (pt_cmpR (op_neD hr.units) (pe_dget (hu_of hr) (pv 0) pe_str (fun _ _=>rfl)) (@PEs.out _ _ _ (pes_lst pas_nil)) (nomark _)) (@pss_cons _ _ _ _ _ (ps_set (i:=2) sc_law_pick.nd rfl (Or.inl rfl) (pe_bm PySem.F.plainAttrs_list PySem.F.slot_list_pop PySem.F.type_list_pop mt_popAt (pe_dget (hu_of hr) (pv 0) pe_str (fun _ _=>rfl)) (pa_const pe_int pa_nil)))
  (@pss_cons _ _ _ _ _ (ps_dput (hu_of hr) (pv 0) pe_str (pv 2) rfl)
  (@pss_one _ _ _ (ps_if (pt_cmpR op_lt (pv 2) (pe_op op_pow pe_int pe_int) (nomark _)) (@pss_cons _ _ _ _ _ (ps_set (i:=3) sc_law_pick.nd rfl (Or.inl rfl) (pe_c c__law_mix (hr.mono (by decide)) rfl (pa_binop (pe_op op_mod (pe_op op_add (pe_op op_mul (pv 2) pe_int) (pe_dget (hu_of hr) (pv 0) pe_str (fun _ _=>rfl))) pe_int) pa_nil)))
  (@pss_one _ _ _ (ps_dput (hu_of hr) (pv 0) pe_str (pe_op op_add (pe_op op_mul (pv 3) pe_int) (pe_c c__law_mix (hr.mono (by decide)) rfl (pa_binop (pe_op op_xor (pv 3) pe_int) pa_nil))) rfl))) pss_nil)))) (@pss_cons _ _ _ _ _ (ps_dput (hu_of hr) (pv 0) pe_str (pe_c c__law_mix (hr.mono (by decide)) rfl (pa_binop (pe_op op_mod (pe_op op_add (pe_dget (hu_of hr) (pv 0) pe_str (fun _ _=>rfl)) pe_int) pe_int) pa_nil)) rfl)
  (@pss_one _ _ _ (ps_dput (hu_of hr) (pv 0) pe_str (pe_dget (hu_of hr) (pv 0) pe_str (fun _ _=>rfl)) rfl)))))) pss_nil)
  (@pss_cons _ _ _ _ _ (ps_set (i:=4) sc_law_pick.nd rfl (Or.inl rfl) (pe_op op_mod (pe_dget (hu_of hr) (pv 0) pe_str (fun _ _=>rfl)) (pv 1)))
  (@pss_cons _ _ _ _ _ (ps_dput (hu_of hr) (pv 0) pe_str (pe_op op_fdivB (pe_dget (hu_of hr) (pv 0) pe_str (fun _ _=>rfl)) (pv 1)) rfl)
  (@pss_one _ _ _ (@ps_ret _ _ _ _ (pv 4)))))),?_⟩
 refine seq_by (fun σ' H'=>∃ x y:Option V,σ'=[some (.ref p),some (.int n),x,y,none]∧JarE H' p c e∧Kp [p,c] H H') (fun N hN=>?_) ?_
 · obtain ⟨ns,r,sd,tn,X,hl,s0,s1⟩:=J
   refine ⟨_,rfl,p,_,rfl,X.rest,_,rfl,_,_,rfl,rfl,_,rfl,?_⟩
   refine ite_b (fun cc=>?_) (fun cc=>hN _ _ ⟨none,none,rfl,⟨ns,r,sd,tn,X,hl,s0,s1⟩,.refl⟩)
   -- turn
   refine ⟨_,rfl,p,_,rfl,X.turn,_,_,rfl,rfl,_,rfl,p,_,rfl,X.pTurn _,?_⟩
   have X1:=X.put r sd (tn+1,e)
   have k1:Kp [p,c] H (upd H p (.dK (jarKV c r sd (tn+1,e)))):=Kp.at (by simp) _
   generalize upd H p (.dK (jarKV c r sd (tn+1,e)))=H1 at X1 k1 ⊢
   refine ⟨_,rfl,p,_,rfl,X1.cells,(by decide),fun l hl1=>?_⟩
   have X2:JarX (upd H1 l (.lst [])) p c ns r sd (tn+1,e):=X1.new hl1
   have k2:Kp [p,c] H (upd H1 l (.lst [])):=k1.trans (Kp.new hl1 _)
   refine ⟨[],.list (ns.map PyData.int),.list [],.list X2.l (by simp) (by rw [List.length_map];exact Nat.le_trans hl (by decide)) (Reps.ints ns),.list upd_same (by simp) (by simp) .nil,canLay_ints ns,rfl,Nat.le_trans (Nat.min_le_right _ _) (by decide),_,rfl,?_⟩
   rw [eqv_nil]
   generalize upd H1 l (.lst [])=H2 at X2 k2 ⊢
   cases ns with
   | nil=>
    refine iteF ?_
    refine ⟨_,rfl,p,_,rfl,X2.seed,_,_,rfl,rfl,_,_,rfl,rfl,(show (0:Int)<18446744073709551616 by decide),_,rfl,Int.emod_nonneg _ (by decide),Int.emod_lt_of_pos _ (by decide),fun m m0 m1=>?_⟩
    refine ⟨_,rfl,p,_,rfl,X2.pSeed m,?_⟩
    have X3:=X2.put r m (tn+1,e)
    refine ⟨_,rfl,p,_,rfl,X3.seed,_,rfl,p,_,rfl,X3.pRest m,?_⟩
    exact hN _ _ ⟨none,none,rfl,(X3.put m m (tn+1,e)).jarE hl m0 m1,k2.trans ((Kp.at (by simp) _).trans (Kp.at (by simp) _))⟩
   | cons n0 ns=>
    refine iteT ?_
    refine ⟨_,rfl,p,_,rfl,X2.cells,.inl ⟨rfl,_,SqL.of X2.l⟩,c,_,0,0,V.int n0,rfl,rfl,X2.l,by decide,by decide,by rw [List.length_map];exact seqIndex_0 _,rfl,?_⟩
    have X3:JarX (upd H2 c (.lst (List.eraseIdx ((n0::ns).map V.int) 0))) p c ns r sd (tn+1,e):=X2.cut ns
    have k3:Kp [p,c] H (upd H2 c (.lst (List.eraseIdx ((n0::ns).map V.int) 0))):=k2.trans (Kp.at (by simp) _)
    generalize upd H2 c (.lst (List.eraseIdx ((n0::ns).map V.int) 0))=H3 at X3 k3 ⊢
    have hl':ns.length≤63:=by rw [List.length_cons] at hl;omega
    refine ⟨_,rfl,_,rfl,p,_,rfl,X3.pRest n0,?_⟩
    have X4:=X3.put n0 sd (tn+1,e)
    have k4:Kp [p,c] H (upd H3 p (.dK (jarKV c n0 sd (tn+1,e)))):=k3.trans (Kp.at (by simp) _)
    generalize upd H3 p (.dK (jarKV c n0 sd (tn+1,e)))=H4 at X4 k4 ⊢
    refine ⟨_,rfl,_,_,rfl,rfl,⟨by decide,by decide,by decide⟩,_,_,rfl,rfl,_,rfl,?_⟩
    refine ite_b (fun cc=>?_) (fun cc=>hN _ _ ⟨_,none,rfl,X4.jarE hl' s0 s1,k4⟩)
    refine ⟨_,rfl,_,_,rfl,rfl,.inr ⟨by decide,by decide⟩,_,rfl,p,_,rfl,X4.turn,_,_,rfl,rfl,_,_,rfl,rfl,(show (0:Int)<18446744073709551616 by decide),_,rfl,Int.emod_nonneg _ (by decide),Int.emod_lt_of_pos _ (by decide),fun m m0 m1=>?_⟩
    refine ⟨_,rfl,_,_,rfl,rfl,.inl ⟨by omega,by omega⟩,_,rfl,_,_,rfl,rfl,_,rfl,(xor_bound m0 m1 (by decide) (by decide)).1,(xor_bound m0 m1 (by decide) (by decide)).2,fun m' m'0 m'1=>?_⟩
    refine ⟨_,_,rfl,rfl,_,rfl,p,_,rfl,X4.pRest _,?_⟩
    exact hN _ _ ⟨_,_,rfl,(X4.put _ sd (tn+1,e)).jarE hl' s0 s1,k4.trans (Kp.at (by simp) _)⟩
 · rintro σ1 H1 ⟨x,y,rfl,J1,k1⟩
   obtain ⟨ns,r,sd,tn,X,hl,s0,s1⟩:=J1
   refine ⟨_,rfl,p,_,rfl,X.rest,_,rfl,_,_,rfl,rfl,h0,?_⟩
   refine ⟨_,rfl,p,_,rfl,X.rest,_,rfl,_,_,rfl,rfl,cdivB_of h0 h1,_,rfl,p,_,rfl,X.pRest _,?_⟩
   refine ⟨_,rfl,?_⟩
   exact q _ _ (Int.emod_nonneg _ (by omega)) (Int.emod_lt_of_pos _ h0) ((X.put _ sd (tn,e)).jarE hl s0 s1) (k1.trans (Kp.at (by simp) _))
theorem sc_law_gain:FnScope ["jar","way"] ["jar"] (defScope s_law_gain):=⟨rfl,rfl,rfl,by decide +kernel,rfl,by decide +kernel,by decide +kernel⟩
theorem ok_law_gain (T:Txt mg) (D:Def K mg "_law_gain" s_law_gain ["jar"]) (c__law_pick:Cal P w K mg base "_law_pick" 2 ["jar","many"] (liftV gsPick)):Cal P w K mg base "_law_gain" 3 ["jar"] (liftV gsGain):=by
 refine D.cal fun f fd F=>F.ok sc_law_gain (lift_len ?_) (fun cdv A outer s H vs Q E hr h=>?_)
 · rintro as n P ⟨rfl,_⟩
   rfl
 refine ⟨_,(@pss_cons _ _ _ _ _ (ps_set (i:=1) sc_law_gain.nd rfl (Or.inl rfl) (pe_c c__law_pick (hr.mono (by decide)) rfl (pa_name (pv 0) (pa_const pe_int pa_nil))))
  (@pss_cons _ _ _ _ _ (ps_if (pt_cmpR op_lt (pv 1) pe_int (nomark _)) (@pss_one _ _ _ (@ps_ret _ _ _ _ (pe_ix ix_list (@PEs.out _ _ _ (pes_lst (pas_const pes_int (pas_const pes_int (pas_unary (pes_of (pe_un un_neg pe_int)) (pas_const pes_int (pas_unary (pes_of (pe_un un_neg pe_int)) pas_nil))))))) (pv 1) (fun _ _=>rfl)))) pss_nil)
  (@pss_one _ _ _ (@ps_ret _ _ _ _ (pe_ifExp (pt_cmpR op_eq (pv 1) pe_int (nomark _)) (pe_op op_sub (pe_c c__law_pick (hr.mono (by decide)) rfl (pa_name (pv 0) (pa_const pe_int pa_nil))) pe_int) (pe_op op_sub (pe_c c__law_pick (hr.mono (by decide)) rfl (pa_name (pv 0) (pa_const pe_int pa_nil))) pe_int)))))),lift_body h ?_⟩
 rintro as n P ⟨rfl,q⟩
 refine ⟨rfl,7,rfl,by decide,by decide +kernel,fun r r0 r1=>⟨[.jar,.d (.int r)],.eq rfl,?_⟩⟩
 refine ite_b (fun c=>?_) (fun c=>⟨_,.refl,?_⟩)
 · have hr5:r<5:=of_decide_eq_true c
   refine ⟨by decide,?_⟩
   have:r=0∨r=1∨r=2∨r=3∨r=4:=by omega
   rcases this with rfl | rfl | rfl | rfl | rfl
   · exact ⟨_,rfl,q 0 (by decide) (by decide)⟩
   · exact ⟨_,rfl,q 1 (by decide) (by decide)⟩
   · exact ⟨_,rfl,q (-1) (by decide) (by decide)⟩
   · exact ⟨_,rfl,q 2 (by decide) (by decide)⟩
   · exact ⟨_,rfl,q (-2) (by decide) (by decide)⟩
 · refine ite_b (fun c=>?_) (fun c=>?_)
   · exact ⟨7,rfl,by decide,by decide +kernel,fun z z0 z1=>q _ (by omega) (by omega)⟩
   · exact ⟨199,rfl,by decide,by decide +kernel,fun z z0 z1=>q _ (by omega) (by omega)⟩
theorem sc_law_book:FnScope ["jar","most_rooms","most_ways","rooms","purses","ways","k","first","last"] ["jar","most_rooms","most_ways"] (defScope s_law_book):=⟨rfl,rfl,rfl,by decide +kernel,rfl,by decide +kernel,by decide +kernel⟩
theorem ok_law_book (T:Txt mg) (D:Def K mg "_law_book" s_law_book ["jar","most_rooms","most_ways"]) (c__law_pick:Cal P w K mg base "_law_pick" 2 ["jar","many"] (liftV gsPick)) (c__law_gain:Cal P w K mg base "_law_gain" 3 ["jar"] (liftV gsGain)):Cal P w K mg base "_law_book" 4 ["jar","most_rooms","most_ways"] (liftV gsBook):=by
 refine D.cal fun f fd F=>F.ok sc_law_book (lift_len ?_) (fun cdv A outer s H vs Q E hr h=>?_)
 · rintro as n P ⟨mr,mw,rfl,_⟩
   rfl
 refine ⟨_,(@pss_cons _ _ _ _ _ (ps_set (i:=3) sc_law_book.nd rfl (Or.inl rfl) (pe_op op_add pe_int (pe_c c__law_pick (hr.mono (by decide)) rfl (pa_name (pv 0) (pa_name (pv 1) pa_nil)))))
  (@pss_cons _ _ _ _ _ (ps_set (i:=4) sc_law_book.nd rfl (Or.inl rfl) (pe_ix ix_list (@PEs.out _ _ _ (pes_lst (pas_const pes_int (pas_const pes_int (pas_const pes_int (pas_const pes_int (pas_const pes_int (pas_const pes_int pas_nil)))))))) (pe_c c__law_pick (hr.mono (by decide)) rfl (pa_name (pv 0) (pa_const pe_int pa_nil))) (fun _ _=>rfl)))
  (@pss_cons _ _ _ _ _ (@ps_setD _ _ 5 _ _ _ _ sc_law_book.nd rfl (Or.inl rfl) (pes_lst pas_nil) rfl (Or.inl rfl))
  (@pss_cons _ _ _ _ _ (ps_for PassesOwn.never rfl (pi_range1 rfl T.b_range (pa_call (pe_c c__law_pick (hr.mono (by decide)) rfl (pa_name (pv 0) (pa_binop (pe_op op_add (pv 2) pe_int) pa_nil))) pa_nil)) (pg_name (i:=6) sc_law_book.nd rfl (Or.inl rfl) (Or.inl rfl))
  (@pss_cons _ _ _ _ _ (ps_set (i:=7) sc_law_book.nd rfl (Or.inl rfl) (pe_c c__law_pick (hr.mono (by decide)) rfl (pa_name (pv 0) (pa_name (pv 3) pa_nil))))
  (@pss_cons _ _ _ _ _ (ps_set (i:=8) sc_law_book.nd rfl (Or.inl rfl) (pe_c c__law_pick (hr.mono (by decide)) rfl (pa_name (pv 0) (pa_name (pv 3) pa_nil))))
  (@pss_one _ _ _ (ps_expr (pe_bm PySem.F.plainAttrs_list PySem.F.slot_list_append PySem.F.type_list_append mt_append (pv 5) (pa_tuple (@PEs.out _ _ _ (pes_tup (pas_name (pes_of (pv 7)) (pas_name (pes_of (pv 8)) (pas_call (pes_of (pe_callTy call_tuple_of rfl T.b_tuple boot_tuple (pa_comp (pe_comp (sc:=(defScope s_law_book)) (N:=["jar","most_rooms","most_ways","rooms","purses","ways","k","first","last"]) (N':=["p","jar"]) (k:=1) (idx:=[0]) rfl (by exact ⟨rfl,by decide +kernel,by decide +kernel,by decide +kernel,by decide +kernel,by decide +kernel,rfl,rfl⟩) rfl rfl (pi_range1 rfl T.b_range (pa_name (pv 4) pa_nil)) (fun _ _ _ _=>(pg_name (i:=0) (show (["p","jar"]:List Str).Nodup by decide +kernel) rfl (Or.inl rfl) (Or.inr rfl))) (fun _ _ _ _=>pts_nil) (fun _ _ _ _=>(pe_c c__law_gain (hr.mono (by decide)) rfl (pa_name (pv 1) pa_nil)))) pa_nil))) pas_nil))))) pa_nil)))))))
  (@pss_one _ _ _ (@ps_ret _ _ _ _ (@PEs.out _ _ _ (pes_tup (pas_name (pes_of (pv 3)) (pas_name (pes_of (pv 4)) (pas_call (pes_of (pe_callTy call_tuple_of rfl T.b_tuple boot_tuple (pa_name (pv 5) pa_nil))) pas_nil))))))))))),lift_body h ?_⟩
 rintro as n P ⟨mr,mw,rfl,hr,hw,q⟩
 have hs:sizeLine=16777216:=sizeLine_eq
 refine ⟨rfl,mr,rfl,by omega,small9000 (by omega),fun r r0 r1=>⟨[.jar,.d (.int mr),.d (.int mw),.d (.int (1+r)),.jnk,.jnk,.jnk,.jnk,.jnk],.eq rfl,?_⟩⟩
 refine ⟨by decide,6,rfl,by decide,by decide +kernel,fun u u0 u1=>?_⟩
 obtain ⟨U,hU,hUm⟩:=at_ok (xs:=[PyData.int 1,.int 2,.int 2,.int 3,.int 4,.int 6]) u0 u1
 obtain ⟨U,rfl,hU0,hU1⟩:∃ k:Int,U = .int k∧1≤k∧k≤6:=by
  simp only [List.mem_cons,List.not_mem_nil,or_false] at hUm
  rcases hUm with rfl | rfl | rfl | rfl | rfl | rfl<;>exact ⟨_,rfl,by decide,by decide⟩
 refine ⟨_,hU,⟨[.jar,.d (.int mr),.d (.int mw),.d (.int (1+r)),.d (.int U),.jnk,.jnk,.jnk,.jnk],.eq rfl,?_⟩⟩
 refine ⟨by decide,⟨[.jar,.d (.int mr),.d (.int mw),.d (.int (1+r)),.d (.int U),.own [],.jnk,.jnk,.jnk],.eq rfl,?_⟩⟩
 refine ⟨mw+1,rfl,by omega,small9000 (by omega),fun m m0 m1=>⟨m,rfl,⟨by omega,by omega⟩,?_⟩⟩
 refine ⟨fun i env n'=>n'=n∧∃ (ws:List Way) (x y z:Vl),env=[.jar,.d (.int mr),.d (.int mw),.d (.int (1+r)),.d (.int U),.own (ws.map wayPD),x,y,z]∧ws.length=i∧∀ w∈ws,WayOk (1+r) U w,⟨rfl,[],_,_,_,rfl,rfl,fun w hw=>by cases hw⟩,?_,?_⟩
 · rintro i x env n' hx ⟨rfl,ws,_,_,_,rfl,hl,hws⟩
   have hi:=(List.getElem?_eq_some_iff.mp hx).1
   rw [rngD_len] at hi
   refine ⟨1+r,rfl,by omega,small9000 (by omega),fun a a0 a1=>⟨_,.refl,?_⟩⟩
   refine ⟨1+r,rfl,by omega,small9000 (by omega),fun b b0 b1=>⟨_,.refl,?_⟩⟩
   refine ⟨U,rfl,⟨by omega,by omega⟩,⟨rfl,by rw [rngD_len];omega⟩,?_⟩
   refine cmpW_inv (fun y=>∃ g:Int,y = .int g∧-99≤g∧g≤99) (fun k=>k=n') (fun x _ k K hk h=>?_) rfl (fun ys k hy hg hk=>?_)
   · exact ⟨rfl,fun g g0 g1=>h _ _ ⟨g,rfl,g0,g1⟩ hk⟩
   · subst hk
     obtain ⟨gs,rfl,hgs⟩:=ints_map hg
     rw [rngD_len,List.length_map] at hy
     refine ⟨three_line,by rw [List.length_map];omega,rfl,ws++[⟨a,b,gs⟩],_,_,_,by rw [List.map_append];rfl,by simp [hl],fun w hw=>?_⟩
     rcases List.mem_append.mp hw with hw | hw
     · exact hws w hw
     · rw [List.mem_singleton.mp hw]
       exact ⟨a0,a1,b0,b1,(show (gs.length:Int)=U by omega),hgs⟩
 · rintro env n' ⟨rfl,ws,_,_,_,rfl,hl,hws⟩
   rw [rngD_len] at hl
   refine ⟨_,.fz 5 _ rfl .refl,?_⟩
   exact ⟨three_line,q (1+r) U ws ⟨by omega,by omega,hU0,hU1,by omega,hws⟩ (by omega)⟩
theorem sc_law_from:FnScope ["book","room"] ["book","room"] (defScope s_law_from):=⟨rfl,rfl,rfl,by decide +kernel,rfl,by decide +kernel,by decide +kernel⟩
theorem ok_law_from (T:Txt mg) (D:Def K mg "_law_from" s_law_from ["book","room"]):Cal P w K mg base "_law_from" 1 ["book","room"] spFrom:=by
 refine D.cal fun f fd F=>F.ok sc_law_from (fun vs H Q E h=>?_) (fun cdv A outer s H vs Q E hr h=>?_)
 · obtain ⟨ex,R,U,ws,bv,room,rfl,_⟩:=h
   rfl
 obtain ⟨ex,R,U,ws,bv,room,rfl,rb,q⟩:=h
 refine ⟨_,(@pss_one _ _ _ (@ps_ret _ _ _ _ (pe_comp (sc:=(defScope s_law_from)) (N:=["book","room"]) (N':=["k","way","room"]) (k:=2) (idx:=[1]) rfl (by exact ⟨rfl,by decide +kernel,by decide +kernel,by decide +kernel,by decide +kernel,by decide +kernel,rfl,rfl⟩) rfl rfl (pi_enum rfl T.b_enumerate (pa_sub (pe_ix ix_tup (pv 0) pe_int (fun _ _=>rfl)) pa_nil)) (fun _ _ _ _=>(pg_pair (K':=K) (i:=0) (j:=1) rfl (show (["k","way","room"]:List Str).Nodup by decide +kernel) ⟨rfl,(Or.inl rfl),(Or.inr rfl)⟩ ⟨rfl,(Or.inl rfl),(Or.inr rfl)⟩ rfl)) (fun _ _ _ _=>pts_one (pt_cmpR op_eq (pe_ix (ix_tupK (K':=K) rfl) (pv 1) pe_int (fun _ _=>rfl)) (pv 2) (nomark _))) (fun _ _ _ _=>(pv 0))))),?_⟩
 obtain ⟨ba,wa,vs,B⟩:=rep_book rb
 have eb:=B.e
 subst eb
 refine ⟨_,rfl,ba,_,_,_,rfl,rfl,SqT.of B.b,at2 _ _ _,true,wa,vs,rfl,SqT.of B.w,fun l hl=>?_⟩
 refine comp2_enum (fun i=>decide ((wayAt ws (i:Nat)).a=room)) (fun i=>.int (i:Nat)) (SqT.of B.w) B.z hl ?_ ?_ ?_
 · intro i x H1 M hx k1 hM
   obtain ⟨t,g,rfl,ht,hg,_,_⟩:=way_ix B.r hx
   refine ⟨_,rfl,t,_,_,_,rfl,rfl,SqT.of (k1 _ _ ht (by simp)),at0 _ _ _,_,rfl,rfl,_,rfl,?_⟩
   have:=hM H1 .refl
   have e:decide (V.int (wayAt ws (i:Nat)).a=V.int room)=decide ((wayAt ws (i:Nat)).a=room):=by simp
   rw [e];exact this
 · intro i x H1 M hi hx k1 hM
   exact ⟨_,rfl,hM H1 .refl⟩
 · intro H1 k1 hl1
   refine q l H1 k1 hl ?_
   rw [hl1,B.len]
   unfold fromI
   rw [List.map_map]
   rfl
theorem sc_law_back:FnScope ["book","first","last","known","waiting","here","k","there"] ["book","first","last"] (defScope s_law_back):=⟨rfl,rfl,rfl,by decide +kernel,rfl,by decide +kernel,by decide +kernel⟩
theorem ok_law_back (T:Txt mg) (D:Def K mg "_law_back" s_law_back ["book","first","last"]) (c__law_from:Cal P w K mg base "_law_from" 1 ["book","room"] spFrom):Cal P w K mg base "_law_back" 2 ["book","first","last"] spBack:=by
 refine D.cal fun f fd F=>F.ok sc_law_back (fun vs H Q E h=>?_) (fun cdv A outer s H vs Q E hr h=>?_)
 · obtain ⟨ex,R,U,ws,bv,first,last,rfl,_⟩:=h
   rfl
 obtain ⟨ex,R,U,ws,bv,first,last,rfl,rb,ok,hfi,q0,q1⟩:=h
 refine ⟨_,(@pss_cons _ _ _ _ _ (ps_set (i:=3) sc_law_back.nd rfl (Or.inl rfl) (pe_disp (pps_cons (pv 1) (@PEs.out _ _ _ (pes_lst pas_nil)) pps_nil) rfl rfl (by simp) (by simp)))
  (@pss_cons _ _ _ _ _ (@ps_setD _ _ 4 _ _ _ _ sc_law_back.nd rfl (Or.inl rfl) (pes_lst (pas_name (pes_of (pv 1)) pas_nil)) rfl (Or.inl rfl))
  (@pss_cons _ _ _ _ _ (ps_while PassesOwn.never (pt_cmpR (op_neD hr.units) (pv 4) (@PEs.out _ _ _ (pes_lst pas_nil)) (nomark _))
  (@pss_cons _ _ _ _ _ (ps_set (i:=5) sc_law_back.nd rfl (Or.inl rfl) (pe_bm PySem.F.plainAttrs_list PySem.F.slot_list_pop PySem.F.type_list_pop mt_popAt (pv 4) (pa_const pe_int pa_nil)))
  (@pss_one _ _ _ (ps_for PassesOwn.never rfl (pi_list (pe_c c__law_from (hr.mono (by decide)) rfl (pa_name (pv 0) (pa_name (pv 5) pa_nil)))) (pg_name (i:=6) sc_law_back.nd rfl (Or.inl rfl) (Or.inl rfl))
  (@pss_cons _ _ _ _ _ (ps_set (i:=7) sc_law_back.nd rfl (Or.inl rfl) (pe_ix ix_tup (pe_ix ix_tup (pe_ix ix_tup (pv 0) pe_int (fun _ _=>rfl)) (pv 6) (fun _ _=>rfl)) pe_int (fun _ _=>rfl)))
  (@pss_one _ _ _ (ps_if (pt_cmp (pc_dnotin (hu_of hr) (pv 7) (pv 3))) (@pss_cons _ _ _ _ _ (ps_dput (hu_of hr) (pv 3) (pv 7) (pe_op op_cat (pe_dget (hu_of hr) (pv 3) (pv 5) (fun _ _=>rfl)) (@PEs.out _ _ _ (pes_lst (pas_name (pes_of (pv 6)) pas_nil)))) rfl)
  (@pss_one _ _ _ (ps_expr (pe_bm PySem.F.plainAttrs_list PySem.F.slot_list_append PySem.F.type_list_append mt_append (pv 4) (pa_name (pv 7) pa_nil))))) pss_nil)))))))
  (@pss_one _ _ _ (@ps_ret _ _ _ _ (pe_dget2 (hu_of hr) (pv 3) (pv 2) pe_non ⟨rfl,rfl,rfl,rfl⟩)))))),?_⟩
 have hs:sizeLine=16777216:=sizeLine_eq
 have r0:=ok.r0
 have r1:=ok.r1
 have wz:=ok.len
 obtain ⟨ba,wa,vs,B⟩:=rep_book rb
 have eb:=B.e
 subst eb
 refine seq_by (fun σ' H'=>∃ (kd l0:Addr),σ'=[some (.ref ba),some (.int first),some (.int last),some (.ref kd),none,none,none,none]∧Kp [] H H'∧H kd=none∧H l0=none∧l0≠kd∧H' l0=some (.lst [])∧H' kd=some (.dK [(Sum.inl first,V.ref l0)])) (fun N hN=>?_) ?_
 · refine fun p hp=>⟨_,rfl,small4 (Nat.le_of_ble_eq_true rfl),fun l hl=>⟨(by rw [upd_ne (ne_of_none upd_same hl)];exact upd_same),[(Sum.inl first,V.ref l)],rfl,by simp,?_⟩⟩
   have hne:l≠p:=fun z=>by rw [z,upd_same] at hl;cases hl
   have hH:H l=none:=by rw [upd_ne hne] at hl;exact hl
   refine hN _ _ ⟨p,l,rfl,?_,hp,hH,hne,by rw [upd_ne hne,upd_same],by rw [upd_same];rfl⟩
   exact fun b o e n=>by rw [upd_ne (ne_of_none e hp),upd_ne (ne_of_none e hH),upd_ne (ne_of_none e hp)];exact e
 rintro _ H1 ⟨kd,l0,rfl,k1,fkd,fl0,ne0,hl0,hkd⟩
 refine seq_by (fun σ' H'=>∃ (wl:Addr),σ'=[some (.ref ba),some (.int first),some (.int last),some (.ref kd),some (.ref wl),none,none,none]∧BkI R ws first kd wl H H' [(first,l0,[])] [first]) (fun N hN=>?_) ?_
 · refine ⟨_,rfl,small4 (Nat.le_of_ble_eq_true rfl),fun l hl=>hN _ _ ⟨l,rfl,?_⟩⟩
   have hH:H l=none:=Kp.free k1 hl (by simp)
   have n1:kd≠l:=ne_of_none hkd hl
   have n2:l0≠l:=ne_of_none hl0 hl
   refine ⟨k1.trans (Kp.new hl _),fkd,hH,n1,by rw [upd_ne n1];exact hkd,upd_same,?_,by simp,by simp⟩
   intro e he
   obtain rfl:=List.mem_singleton.mp he
   exact ⟨by rw [upd_ne n2];exact hl0,fl0,ne0,n2,rfl,by simp,hfi⟩
 rintro _ H2 ⟨wl,rfl,I2⟩
 refine seq_by (fun σ' H'=>∃ (ks:List KE) (ms:List Int) (o1 o2 o3:Option V),σ'=[some (.ref ba),some (.int first),some (.int last),some (.ref kd),some (.ref wl),o1,o2,o3]∧BkI R ws first kd wl H H' ks ms) (fun N hN=>?_) ?_
 · refine ⟨fun m σ H'=>∃ (ks:List KE) (ms:List Int) (o1 o2 o3:Option V),σ = [some (.ref ba),some (.int first),some (.int last),some (.ref kd),some (.ref wl),o1,o2,o3]∧BkI R ws first kd wl H H' ks ms∧m=2*(R.toNat-ks.length)+ms.length∧m≤40,⟨_,_,_,_,_,_,rfl,I2,rfl,by simp;omega⟩,?_⟩
   rintro m σ H3 ⟨ks,ms,o1,o2,o3,rfl,I,rfl,mz⟩
   have lz:=I.len (by omega)
   refine ⟨_,rfl,small4 (Nat.le_of_ble_eq_true rfl),fun t ht=>?_⟩
   have I4:=I.kp (Kp.new ht (.lst []))
   refine ⟨[],.list (ms.map PyData.int),.list [],Rep.lints I4.w (by simp) (by omega),.list upd_same (by simp) (by simp) .nil,by rw [PyData.canLay0];exact canLay_ints ms,rfl,Nat.le_trans (Nat.min_le_right _ _) (by decide),_,rfl,ite_b (fun cc=>?_) (fun cc=>?_)⟩
   · rw [eqv_ints_nil] at cc
     cases hms:ms with
     | nil=>rw [hms] at cc;simp at cc
     | cons here rest=>
      subst hms
      clear cc
      generalize upd H3 t (.lst [])=H4 at I4
      have hk4:=I4.wk here List.mem_cons_self
      obtain ⟨eh,heh,rfl,hvh⟩:=ke_some hk4
      refine ⟨_,fun σ' H' h=>h,?_⟩
      refine seq_by (fun σ' H'=>σ'=[some (.ref ba),some (.int first),some (.int last),some (.ref kd),some (.ref wl),some (.int eh.1),o2,o3]∧BkI R ws first kd wl H H' ks rest) (fun N' hN'=>?_) ?_
      · exact ⟨_,rfl,.inl ⟨rfl,_,SqL.of I4.w⟩,wl,_,0,0,.int eh.1,rfl,rfl,I4.w,by omega,by omega,by simp [seqIndex?],rfl,hN' _ _ ⟨rfl,I4.setw rfl fun m hm=>I4.wk m (List.mem_cons_of_mem _ hm)⟩⟩
      rintro _ H5 ⟨rfl,I5⟩
      have B5:=B.keep I5.k.of
      refine ⟨_,rfl,_,rfl,ex,R,U,ws,_,_,rfl,B5.rep,fun l5 H6 k6 hl5 h5=>⟨l5,rfl,⟨_,SqL.of h5⟩,?_⟩⟩
      have I6:=I5.kp k6
      have n5k:l5≠kd:=(ne_of_none I5.d hl5).symm
      have n5w:l5≠wl:=(ne_of_none I5.w hl5).symm
      rw [List.length_cons] at mz
      refine for_list (K:=K) (xs:=(fromI ws eh.1).map V.int) (fun j σ H'=>∃ (kt:List KE) (mt:List Int) (o2 o3:Option V),σ = [some (.ref ba),some (.int first),some (.int last),some (.ref kd),some (.ref wl),some (.int eh.1),o2,o3]∧BkI R ws first kd wl H H' kt mt∧eh.1∈kt.map (·.1)∧2*(R.toNat-kt.length)+mt.length≤2*(R.toNat-ks.length)+rest.length∧H' l5=some (.lst ((fromI ws eh.1).map V.int)))
       ⟨ks,rest,_,_,rfl,I6,hk4,Nat.le_refl _,h5⟩ (fun j σ H' _ ⟨_,_,_,_,_,_,_,_,h⟩=>SqL.of h) ?_ (fun σ H' ⟨kt,mt,_,_,e,I',_,z',_⟩=>⟨_,by rw [List.length_cons];exact Nat.lt_succ_of_le z',kt,mt,_,_,_,e,I',rfl,by omega⟩)
      rintro j x σ H7 hx ⟨kt,mt,o2,o3,rfl,I7,hkt,zt,h57⟩
      rw [List.getElem?_map] at hx
      cases hn:(fromI ws eh.1)[j]? with
      | none=>rw [hn] at hx;cases hx
      | some k=>
       rw [hn] at hx
       obtain rfl:V.int k=x:=Option.some.inj hx
       have ik:=fromI_mem (List.mem_of_getElem? hn)
       have B7:=B.keep (I7.k.of (ex:=ex))
       have z7:=I7.len (by omega)
       obtain ⟨t1,g1,e1,ht1,hg1,hm⟩:=way_at B7.r ik.1 ik.2.1
       have wok:=ok.ways _ hm
       refine seq_by (fun σ' H'=>σ'=[some (.ref ba),some (.int first),some (.int last),some (.ref kd),some (.ref wl),some (.int eh.1),some (.int k),some (.int (wayAt ws k).b)]∧H'=H7) (fun N' hN'=>⟨_,rfl,ba,_,_,_,rfl,rfl,SqT.of B7.b,at2 _ _ _,_,rfl,wa,_,_,_,rfl,rfl,SqT.of B7.w,e1,t1,_,_,_,rfl,rfl,SqT.of ht1,at1 _ _ _,hN' _ _ ⟨rfl,rfl⟩⟩) ?_
       rintro _ H7 ⟨rfl,rfl⟩
       refine ⟨_,rfl,_,rfl,kd,_,rfl,DGet.k (k:=Sum.inl (wayAt ws k).b) I7.d,_,rfl,ite_b (fun cc=>?_) (fun cc=>?_)⟩
       · have hnew:(wayAt ws k).b∉kt.map (·.1):=fun h=>by
          obtain ⟨e,_,_,hv⟩:=ke_some h
          rw [hv] at cc
          simp at cc
         obtain ⟨e7,he7,ee7,hv7⟩:=ke_some hkt
         obtain ⟨p1,p2,p3,p4,p5,p6,p7⟩:=I7.p e7 he7
         refine seq_by (fun σ' H'=>σ'=[some (.ref ba),some (.int first),some (.int last),some (.ref kd),some (.ref wl),some (.int eh.1),some (.int k),some (.int (wayAt ws k).b)]∧(∃ a ns,BkI R ws first kd wl H H' (kt++[((wayAt ws k).b,a,ns)]) mt)∧H' l5=some (.lst ((fromI ws eh.1).map V.int))) (fun N' hN'=>?_) ?_
         · refine ⟨_,rfl,_,rfl,kd,_,rfl,by have:=DGet.k (k:=Sum.inl eh.1) I7.d;rw [hv7] at this;exact this,_,rfl,small4 (Nat.le_of_ble_eq_true rfl),fun t ht=>?_⟩
           have I8:=I7.kp (Kp.new ht (.lst [.int k]))
           obtain ⟨p1',_⟩:=I8.p e7 he7
           refine ⟨_,t,_,_,rfl,rfl,p1',upd_same,by rw [List.length_map];simp only [List.length_singleton];omega,fun a ha=>⟨_,rfl,_,rfl,kd,_,rfl,DPut.k (k:=Sum.inl (wayAt ws k).b) (I8.kp (Kp.new ha _)).d (by rw [List.length_map];omega),hN' _ _ ⟨rfl,⟨a,e7.2.2++[k],?_⟩,?_⟩⟩⟩
           · have I9:=I8.kp (Kp.new ha (.lst (e7.2.2.map V.int++[.int k])))
             refine I9.add hnew (by rw [upd_same,List.map_append];rfl) (Kp.free I8.k ha (by simp)) (ne_of_none I8.d ha).symm (ne_of_none I8.w ha).symm (p5.app ⟨⟨ik.1,ik.2.1⟩,by rw [ik.2.2,ee7],rfl⟩) (by rw [List.length_append];exact p6) ⟨wok.b0,wok.b1⟩
           · have n1:l5≠t:=ne_of_none h57 ht
             have h8:upd H7 t (.lst [.int k]) l5=some (.lst ((fromI ws eh.1).map V.int)):=by rw [upd_ne n1];exact h57
             rw [upd_ne n5k,upd_ne (ne_of_none h8 ha)];exact h8
         · rintro _ H8 ⟨rfl,⟨a,ns,I8⟩,h58⟩
           have z8:=I8.len (by omega)
           rw [List.length_append,List.length_singleton] at z8
           refine ⟨_,rfl,.inl ⟨rfl,_,SqL.of I8.w⟩,_,rfl,wl,_,_,rfl,rfl,I8.w,by rw [List.length_map];omega,kt++[((wayAt ws k).b,a,ns)],mt++[(wayAt ws k).b],_,_,rfl,I8.setw (by rw [List.map_append];rfl) fun m hm=>?_,by rw [List.map_append];exact List.mem_append_left _ hkt,by rw [List.length_append,List.length_append,List.length_singleton,List.length_singleton];omega,by rw [upd_ne n5w];exact h58⟩
           rcases List.mem_append.mp hm with hm | hm
           · exact I8.wk m hm
           · rw [List.mem_singleton.mp hm,List.map_append]
             exact List.mem_append_right _ (List.mem_singleton.mpr rfl)
       · exact ⟨kt,mt,_,_,rfl,I7,hkt,zt,h57⟩
   · exact hN _ _ ⟨ks,ms,_,_,_,rfl,I4⟩
 rintro _ H3 ⟨ks,ms,o1,o2,o3,rfl,I3⟩
 have lz:=I3.len (by omega)
 refine ⟨_,rfl,kd,rfl,.inl ⟨_,.inl I3.d⟩,_,rfl,?_⟩
 by_cases hm:last∈ks.map (·.1)
 · obtain ⟨e,he,rfl,hv⟩:=ke_some hm
   obtain ⟨h1,h2,_,_,h3,h4,_⟩:=I3.p e he
   refine ⟨_,DGet.k (k:=Sum.inl e.1) I3.d,?_⟩
   rw [hv]
   exact q1 _ _ _ I3.k h2 h1 h3 (by omega)
 · refine ⟨_,DGet.k (k:=Sum.inl last) I3.d,?_⟩
   rw [(ke_none hm).1]
   exact q0 _ I3.k
theorem sc_rooms_reached:FnScope ["book","some","rooms","purses","ways","leads","k","a","b","gains","middle","room"] ["book","some"] (defScope s_rooms_reached):=⟨rfl,rfl,rfl,by decide +kernel,rfl,by decide +kernel,by decide +kernel⟩
theorem ok_rooms_reached (T:Txt mg) (D:Def K mg "rooms_reached" s_rooms_reached ["book","some"]):Cal P w K mg base "rooms_reached" 1 ["book","some"] (liftV gsReach):=by
 refine D.cal fun f fd F=>F.ok sc_rooms_reached (lift_len ?_) (fun cdv A outer s H vs Q E hr h=>?_)
 · rintro as n P ⟨R,U,ws,ks,rfl,_⟩
   rfl
 refine ⟨_,(@pss_cons _ _ _ _ _ (ps_asg (pv 0) (pg_trio (K':=K) (i:=2) (j:=3) (m:=4) rfl sc_rooms_reached.nd ⟨rfl,(Or.inr rfl),(Or.inl rfl)⟩ ⟨rfl,(Or.inl rfl),(Or.inl rfl)⟩ ⟨rfl,(Or.inl rfl),(Or.inl rfl)⟩ rfl))
  (@pss_cons _ _ _ _ _ (as_set2 (ps_setcompC (i:=5) (sc:=(defScope s_rooms_reached)) (N:=["book","some","rooms","purses","ways","leads","k","a","b","gains","middle","room"]) (N':=["room","rooms"]) (k:=1) (idx:=[2]) rfl sc_rooms_reached.nd rfl rfl (by exact ⟨rfl,by decide +kernel,by decide +kernel,by decide +kernel,by decide +kernel,by decide +kernel,rfl,rfl⟩) rfl rfl (pi_range1 rfl T.b_range (pa_name (pv 2) pa_nil)) (fun _ _ _ _=>(pg_name (i:=0) (show (["room","rooms"]:List Str).Nodup by decide +kernel) rfl (Or.inr rfl) (Or.inl rfl))) (fun _ _ _ _=>pts_nil) (fun _ _ _ _=>(pe_comp (sc:=relS _ (defScope s_rooms_reached)) (N:=["room","rooms"]) (N':=["other","room"]) (k:=1) (idx:=[0]) rfl (by exact ⟨rfl,by decide +kernel,by decide +kernel,by decide +kernel,by decide +kernel,by decide +kernel,rfl,rfl⟩) (hscC rfl) rfl (by exact (pi_range1 rfl T.b_range (pa_name (pv 1) pa_nil))) (fun _ _ _ _=>(pg_name (i:=0) (show (["other","room"]:List Str).Nodup by decide +kernel) rfl (Or.inl rfl) (Or.inr rfl))) (fun _ _ _ _=>pts_nil) (fun _ _ _ _=>(pe_cmpR op_eq (pv 1) (pv 0) (nomark _)))))))
  (@pss_cons _ _ _ _ _ (ps_for PassesOwn.never rfl (pi_list (pv 1)) (pg_name (i:=6) sc_rooms_reached.nd rfl (Or.inl rfl) (Or.inl rfl))
  (@pss_cons _ _ _ _ _ (ps_asg (pe_ix ix_tup (pv 4) (pv 6) (fun _ _=>rfl)) (pg_trio (K':=K) (i:=7) (j:=8) (m:=9) rfl sc_rooms_reached.nd ⟨rfl,(Or.inl rfl),(Or.inl rfl)⟩ ⟨rfl,(Or.inl rfl),(Or.inl rfl)⟩ ⟨rfl,(Or.inl rfl),(Or.inl rfl)⟩ rfl))
  (@pss_one _ _ _ (ps_asg pe_bl (pg_sub (pe_ix ix_list (pv 5) (pv 7) (fun _ _=>rfl)) (pv 8) set_list (fun v=>assign_sub_name _ _ _ _ _ v))))))
  (@pss_cons _ _ _ _ _ (ps_for PassesOwn.never rfl (pi_range1 rfl T.b_range (pa_name (pv 2) pa_nil)) (pg_name (i:=10) sc_rooms_reached.nd rfl (Or.inl rfl) (Or.inl rfl))
  (@pss_one _ _ _ (ps_for PassesOwn.never rfl (pi_range1 rfl T.b_range (pa_name (pv 2) pa_nil)) (pg_name (i:=11) sc_rooms_reached.nd rfl (Or.inl rfl) (Or.inl rfl))
  (@pss_one _ _ _ (ps_if (pt_val (pe_ix ix_list (pe_ix ix_list (pv 5) (pv 11) (fun _ _=>rfl)) (pv 10) (fun _ _=>rfl))) (@pss_one _ _ _ (as_row2 (ps_asg (pe_comp (sc:=(defScope s_rooms_reached)) (N:=["book","some","rooms","purses","ways","leads","k","a","b","gains","middle","room"]) (N':=["now","then"]) (k:=2) (idx:=[]) rfl (by exact ⟨rfl,by decide +kernel,by decide +kernel,by decide +kernel,by decide +kernel,by decide +kernel,rfl,rfl⟩) rfl rfl (as_zip2 (pi_zipK (K':=K) rfl rfl T.b_zip (pa_sub (pe_ix ix_list (pv 5) (pv 11) (fun _ _=>rfl)) (pa_sub (pe_ix ix_list (pv 5) (pv 10) (fun _ _=>rfl)) pa_nil)))) (fun _ _ _ _=>(pg_pair (K':=K) (i:=0) (j:=1) rfl (show (["now","then"]:List Str).Nodup by decide +kernel) ⟨rfl,(Or.inl rfl),(Or.inr rfl)⟩ ⟨rfl,(Or.inl rfl),(Or.inr rfl)⟩ rfl)) (fun _ _ _ _=>pts_nil) (fun _ _ _ _=>(pe_or (pv 0) (pe_one (pv 1))))) (pg_sub (pv 5) (pv 11) set_list (fun v=>assign_sub_name _ _ _ _ _ v))))) pss_nil)))))
  (@pss_one _ _ _ (@ps_ret _ _ _ _ (pv 5))))))),lift_body h ?_⟩
 rintro as n P ⟨R,U,ws,ks,rfl,ok,hk,q⟩
 have r0:=ok.r0
 have r1:=ok.r1
 have hs:sizeLine=16777216:=sizeLine_eq
 have hR:((R.toNat:Nat):Int)=R:=Int.toNat_of_nonneg (by omega)
 refine ⟨rfl,rfl,rfl,⟨_,.refl,?_⟩⟩
 refine ⟨R,rfl,⟨by omega,by omega⟩,⟨rfl,by rw [rngD_len];omega,?_⟩,?_⟩
 · unfold rngD
   rw [List.all_eq_true]
   intro x hx
   obtain ⟨b,_,rfl⟩:=List.mem_map.mp hx
   rfl
 refine cmp2_rng (fun a=>rowB R.toNat (pw0 []) a) (List.range R.toNat) (fun i hi K hK=>?_) ?_
 · refine ⟨R,rfl,⟨by omega,by omega⟩,⟨rfl,by rw [rngD_len];omega⟩,?_⟩
   refine cmpW_mapR (fun j=>.bool (pw0 [] i j)) (fun j hj n K hK=>iteT (fEq_i ?_)) hK
   have:decide ((0+(i:Int))=0+(j:Int))=pw0 [] i j:=by
    unfold pw0
    rw [decide_eq_false (p:=(i,j)∈[]) (by simp),Bool.or_false]
    exact decide_eq_decide.mpr (by omega)
   rw [this]
   exact hK
 intro ps hps
 refine ⟨_,.refl,?_⟩
 refine ⟨fun i env n'=>n'=n∧∃ (ps:List (Addr×List PyData)) (x6 x7 x8 x9:Vl),env=[.d (bookPD R U ws),.d (.list (ks.map .int)),.d (.int R),.d (.int U),.d (.tuple (ws.map wayPD)),.own2 none ps,x6,x7,x8,x9,.jnk,.jnk]∧ps.map (·.2)=matB R.toNat (pw0 (esOf ws (ks.take i))),⟨rfl,ps,_,_,_,_,rfl,hps⟩,?_,?_⟩
 · rintro i x env n' hx ⟨rfl,ps,x6,x7,x8,x9,rfl,hps⟩
   rw [List.getElem?_map] at hx
   obtain ⟨k,hki,rfl⟩:=Option.map_eq_some_iff.mp hx
   obtain ⟨k0,k1⟩:=hk k (List.mem_of_getElem? hki)
   have wok:=ok.ways _ (wayAt_mem' k0 k1)
   have a0:=wok.a0
   have a1:=wok.a1
   have b0:=wok.b0
   have b1:=wok.b1
   have ha:(wayAt ws k).a.toNat<R.toNat:=by omega
   have hb:(wayAt ws k).b.toNat<R.toNat:=by omega
   obtain ⟨p,hp,ep⟩:=rows_get hps (matB_get (f:=pw0 (esOf ws (ks.take i))) ha)
   refine ⟨_,at_way k0 k1,rfl,rfl,⟨_,.refl,?_⟩⟩
   refine ⟨_,p,ixN_of a0 (by rw [rows_len hps,matB_len];omega),hp,_,ixN_of b0 (by rw [ep,rowB_len];omega),rfl,_,_,_,_,_,rfl,?_⟩
   rw [esOf_take hki,ep]
   exact rows_set hps (mat_add ha hb)
 · rintro env _ ⟨rfl,ps,x6,x7,x8,x9,rfl,hps⟩
   rw [List.length_map,List.take_length,pw0_Pw] at hps
   refine ⟨_,.refl,R,rfl,⟨by omega,by omega⟩,fun m env k=>k=_∧∃ (ps:List (Addr×List PyData)) (x6 x7 x8 x9 x10 x11:Vl),env=[.d (bookPD R U ws),.d (.list (ks.map .int)),.d (.int R),.d (.int U),.d (.tuple (ws.map wayPD)),.own2 none ps,x6,x7,x8,x9,x10,x11]∧ps.map (·.2)=matB R.toNat (Pw (esOf ws ks) m),⟨rfl,ps,_,_,_,_,_,_,rfl,hps⟩,?_,?_⟩
   · rintro m x env _ hx ⟨rfl,ps,x6,x7,x8,x9,x10,x11,rfl,hps⟩
     obtain ⟨hm,rfl⟩:=rng_at0 hx
     refine ⟨R,rfl,⟨by omega,by omega⟩,fun r env k=>k=_∧∃ (ps:List (Addr×List PyData)) (x11:Vl),env=[.d (bookPD R U ws),.d (.list (ks.map .int)),.d (.int R),.d (.int U),.d (.tuple (ws.map wayPD)),.own2 none ps,x6,x7,x8,x9,.d (.int m),x11]∧ps.map (·.2)=matB R.toNat (pwR (esOf ws ks) m r),⟨rfl,ps,_,rfl,by rw [pwR_0];exact hps⟩,?_,?_⟩
     · rintro r x env _ hx ⟨rfl,ps,x11,rfl,hps⟩
       obtain ⟨hr',rfl⟩:=rng_at0 hx
       refine ⟨_,rows_at hps (Int.natCast_nonneg r) (by omega),_,row_at (Int.natCast_nonneg m) (by omega),ite_b (fun c=>?_) (fun c=>?_)⟩
       · rw [Int.toNat_natCast,Int.toNat_natCast,pwR_self] at c
         refine ⟨_,rows_at hps (Int.natCast_nonneg r) (by omega),_,rows_at hps (Int.natCast_nonneg m) (by omega),_,_,_,_,rfl,rfl,rfl,⟨rowB_scal,rowB_scal⟩,⟨rfl,?_⟩,?_⟩
         · rw [rowB_or,List.length_map,List.length_range];omega
         rw [Int.toNat_natCast,Int.toNat_natCast,rowB_or]
         refine cmpW_mapR (fun b=>.bool (pwR (esOf ws ks) m r r b||pwR (esOf ws ks) m r m b)) (fun j hj n K hK=>⟨rfl,rfl,iteT (ite_b (fun e=>?_) (fun e=>?_))⟩) ?_
         · rw [e,Bool.true_or] at hK;exact hK
         · rw [e,Bool.false_or] at hK;exact hK
         · exact ⟨r,by rw [ixN_of (Int.natCast_nonneg r) (by rw [rows_len hps,matB_len];omega),Int.toNat_natCast],fun b=>⟨rfl,_,_,rfl,rows_set hps (mat_row hr' c)⟩⟩
       · rw [Int.toNat_natCast,Int.toNat_natCast,pwR_self] at c
         exact ⟨rfl,ps,_,rfl,by rw [hps];exact mat_no c⟩
     · rintro env _ ⟨rfl,ps,x11,rfl,hps⟩
       rw [rngD_len,pwR_all] at hps
       exact ⟨rfl,ps,_,_,_,_,_,_,rfl,hps⟩
   · rintro env _ ⟨rfl,ps,x6,x7,x8,x9,x10,x11,rfl,hps⟩
     rw [rngD_len] at hps
     refine ⟨_,.fz2 5 ps rfl .refl,?_⟩
     show P _ _
     rw [leads_of hps]
     exact q
theorem sc_rings_of:FnScope ["book","some","rooms","purses","ways","leads","rings","k","a","b","gains","least"] ["book","some"] (defScope s_rings_of):=⟨rfl,rfl,rfl,by decide +kernel,rfl,by decide +kernel,by decide +kernel⟩
theorem ok_rings_of (T:Txt mg) (D:Def K mg "rings_of" s_rings_of ["book","some"]) (c_rooms_reached:Cal P w K mg base "rooms_reached" 1 ["book","some"] (liftV gsReach)):Cal P w K mg base "rings_of" 2 ["book","some"] (liftV gsRings):=by
 refine D.cal fun f fd F=>F.ok sc_rings_of (lift_len ?_) (fun cdv A outer s H vs Q E hr h=>?_)
 · rintro as n P ⟨R,U,ws,ks,rfl,_⟩
   rfl
 refine ⟨_,(@pss_cons _ _ _ _ _ (ps_asg (pv 0) (pg_trio (K':=K) (i:=2) (j:=3) (m:=4) rfl sc_rings_of.nd ⟨rfl,(Or.inl rfl),(Or.inl rfl)⟩ ⟨rfl,(Or.inl rfl),(Or.inl rfl)⟩ ⟨rfl,(Or.inl rfl),(Or.inl rfl)⟩ rfl))
  (@pss_cons _ _ _ _ _ (ps_set (i:=5) sc_rings_of.nd rfl (Or.inr rfl) (pe_c c_rooms_reached (hr.mono (by decide)) rfl (pa_name (pv 0) (pa_name (pv 1) pa_nil))))
  (@pss_cons _ _ _ _ _ (as_dnew2 (ps_set (i:=6) sc_rings_of.nd rfl (Or.inl rfl) pe_dnewK))
  (@pss_cons _ _ _ _ _ (ps_for PassesOwn.never rfl (pi_list (pv 1)) (pg_name (i:=7) sc_rings_of.nd rfl (Or.inl rfl) (Or.inl rfl))
  (@pss_cons _ _ _ _ _ (ps_asg (pe_ix ix_tup (pv 4) (pv 7) (fun _ _=>rfl)) (pg_trio (K':=K) (i:=8) (j:=9) (m:=10) rfl sc_rings_of.nd ⟨rfl,(Or.inr rfl),(Or.inl rfl)⟩ ⟨rfl,(Or.inl rfl),(Or.inl rfl)⟩ ⟨rfl,(Or.inl rfl),(Or.inl rfl)⟩ rfl))
  (@pss_one _ _ _ (ps_if (pt_val (pe_ix ix_list (pe_ix ix_list (pv 5) (pv 9) (fun _ _=>rfl)) (pv 8) (fun _ _=>rfl))) (@pss_cons _ _ _ _ _ (ps_set (i:=11) sc_rings_of.nd rfl (Or.inl rfl) (pe_callB (call_minL rfl) rfl T.b_min boot_min (pa_comp (pe_comp (sc:=(defScope s_rings_of)) (N:=["book","some","rooms","purses","ways","leads","rings","k","a","b","gains","least"]) (N':=["room","leads","a"]) (k:=1) (idx:=[5,8]) rfl (by exact ⟨rfl,by decide +kernel,by decide +kernel,by decide +kernel,by decide +kernel,by decide +kernel,rfl,rfl⟩) rfl rfl (pi_range1 rfl T.b_range (pa_name (pv 2) pa_nil)) (fun _ _ _ _=>(pg_name (i:=0) (show (["room","leads","a"]:List Str).Nodup by decide +kernel) rfl (Or.inl rfl) (Or.inr rfl))) (fun _ _ _ _=>pts_one (PW.pt (pw_and (pt_val (pe_ix (ix_listK (K':=K) rfl) (pe_ix (ix_listK (K':=K) rfl) (pv 1) (pv 2) (fun _ _=>rfl)) (pv 0) (fun _ _=>rfl))) (pw_and1 (pt_val (pe_ix (ix_listK (K':=K) rfl) (pe_ix (ix_listK (K':=K) rfl) (pv 1) (pv 0) (fun _ _=>rfl)) (pv 2) (fun _ _=>rfl))))))) (fun _ _ _ _=>(pv 0))) pa_nil)))
  (@pss_one _ _ _ (ps_expr (pe_bm PySem.F.plainAttrs_list PySem.F.slot_list_append PySem.F.type_list_append mt_append (pe_dsetd (pv 6) (pv 11) (@PEs.out _ _ _ (pes_lst pas_nil)) ⟨rfl,rfl,rfl,rfl⟩) (pa_name (pv 7) pa_nil))))) pss_nil))))
  (@pss_one _ _ _ (@ps_ret _ _ _ _ (pe_dvals hr.hd rfl T.b_list (pv 6)))))))),lift_body h ?_⟩
 rintro as n P ⟨R,U,ws,ks,rfl,ok,hk,hl,q⟩
 have r0:=ok.r0
 have r1:=ok.r1
 have hs:sizeLine=16777216:=sizeLine_eq
 have hR:((R.toNat:Nat):Int)=R:=Int.toNat_of_nonneg (by omega)
 refine ⟨rfl,rfl,rfl,⟨_,.refl,?_⟩⟩
 refine ⟨R,U,ws,ks,rfl,ok,hk,⟨_,.refl,⟨_,.refl,?_⟩⟩⟩
 refine ⟨fun i env n'=>n'=n∧∃ (keys:List Key) (ps:List (Addr×List PyData)) (x7 x8 x9 x10 x11:Vl),env=[.d (bookPD R U ws),.d (.list (ks.map .int)),.d (.int R),.d (.int U),.d (.tuple (ws.map wayPD)),.d (leadsD R.toNat (esOf ws ks)),.own2 (some keys) ps,x7,x8,x9,x10,x11]∧RingInv i (ringsGo R.toNat (esOf ws ks) ws (ks.take i)) keys ps,⟨rfl,[],[],_,_,_,_,_,rfl,⟨rfl,rfl,List.nodup_nil,Nat.le_refl _,fun p hp=>by cases hp⟩⟩,?_,?_⟩
 · rintro i x env _ hx ⟨rfl,keys,ps,x7,x8,x9,x10,x11,rfl,hi⟩
   rw [List.getElem?_map] at hx
   obtain ⟨k,hki,rfl⟩:=Option.map_eq_some_iff.mp hx
   obtain ⟨k0,k1⟩:=hk k (List.mem_of_getElem? hki)
   have il:=(List.getElem?_eq_some_iff.mp hki).1
   have wok:=ok.ways _ (wayAt_mem' k0 k1)
   have a0:=wok.a0
   have a1:=wok.a1
   have b0:=wok.b0
   have b1:=wok.b1
   have ha:(wayAt ws k).a.toNat<R.toNat:=by omega
   have hg:=ringsGo_take (R:=R.toNat) (es:=esOf ws ks) (ws:=ws) hki
   refine ⟨_,at_way k0 k1,rfl,rfl,⟨_,.refl,_,leads_at b0 (by omega),_,row_at a0 (by omega),ite_b (fun c=>?_) (fun c=>?_)⟩⟩
   · rw [ringStep,if_pos c] at hg
     refine ⟨R,rfl,⟨by omega,by omega⟩,⟨rfl,by rw [rngD_len];omega⟩,?_⟩
     refine cmpW_filterR (fun x=>Pw (esOf ws ks) R.toNat (wayAt ws k).a.toNat x&&Pw (esOf ws ks) R.toNat x (wayAt ws k).a.toNat) (fun j=>.int (j:Int)) (fun j hj n K h1 h2=>?_) ?_
     · rw [Int.zero_add]
       refine ⟨_,leads_at a0 (by omega),_,row_at (Int.natCast_nonneg j) (by omega),ite_b (fun c1=>⟨_,leads_at (Int.natCast_nonneg j) (by omega),_,row_at a0 (by omega),ite_b (fun c2=>?_) (fun c2=>?_)⟩) (fun c1=>iteF ?_)⟩
       · rw [Int.toNat_natCast] at c1 c2
         exact h1 (by rw [c1,c2];rfl)
       · rw [Int.toNat_natCast] at c1 c2
         exact h2 (by rw [c1,c2];rfl)
       · rw [Int.toNat_natCast] at c1
         exact h2 (by rw [c1];rfl)
     refine ⟨(ringRooms R.toNat (esOf ws ks) (wayAt ws k).a.toNat).map (fun j:Nat=>(j:Int)),?_,?_,fun m hm hmin=>?_⟩
     · rw [List.map_map];rfl
     · exact fun z=>by
        have:=rooms_self (es:=esOf ws ks) ha
        rw [List.map_eq_nil_iff.mp z] at this
        cases this
     rw [least_ok hm hmin]
     have pl:ps.length<1000000:=by
      have e:=congrArg List.length hi.rw
      rw [List.length_map,List.length_map] at e
      have:=hi.gl
      omega
     refine ⟨_,.refl,Nat.zero_le _,rfl,fun hin m p hm hp=>⟨?_,rfl,keys,_,_,_,_,_,_,rfl,by rw [hg];exact (hi.add hm hp).2⟩,fun hout=>⟨pl,fun b=>⟨rfl,_,_,_,_,_,_,_,rfl,by rw [hg];exact hi.new hout b⟩⟩⟩
     have:=(hi.add (k:=k) hm hp).1
     omega
   · rw [ringStep,if_neg (by rw [c];exact Bool.false_ne_true)] at hg
     exact ⟨rfl,_,_,_,_,_,_,_,rfl,by rw [hg];exact hi.up⟩
 · rintro env _ ⟨rfl,keys,ps,x7,x8,x9,x10,x11,rfl,hi⟩
   rw [List.length_map,List.take_length] at hi
   refine ⟨_,.refl,?_⟩
   show P _ _
   rw [ringsD_of hi]
   exact q
theorem sc_parts_of:FnScope ["book","counts"] ["book","counts"] (defScope s_parts_of):=⟨rfl,rfl,rfl,by decide +kernel,rfl,by decide +kernel,by decide +kernel⟩
theorem ok_parts_of (T:Txt mg) (D:Def K mg "parts_of" s_parts_of ["book","counts"]) (c_rings_of:Cal P w K mg base "rings_of" 2 ["book","some"] (liftV gsRings)):Cal P w K mg base "parts_of" 3 ["book","counts"] (liftV gsParts):=by
 refine D.cal fun f fd F=>F.ok sc_parts_of (lift_len ?_) (fun cdv A outer s H vs Q E hr h=>?_)
 · rintro as n P ⟨R,U,ws,cs,rfl,_⟩
   rfl
 refine ⟨_,(@pss_one _ _ _ (@ps_ret _ _ _ _ (pe_c c_rings_of (hr.mono (by decide)) rfl (pa_name (pv 0) (pa_comp (pe_comp (sc:=(defScope s_parts_of)) (N:=["book","counts"]) (N':=["k","count"]) (k:=2) (idx:=[]) rfl (by exact ⟨rfl,by decide +kernel,by decide +kernel,by decide +kernel,by decide +kernel,by decide +kernel,rfl,rfl⟩) rfl rfl (pi_enum rfl T.b_enumerate (pa_name (pv 1) pa_nil)) (fun _ _ _ _=>(pg_pair (K':=K) (i:=0) (j:=1) rfl (show (["k","count"]:List Str).Nodup by decide +kernel) ⟨rfl,(Or.inl rfl),(Or.inr rfl)⟩ ⟨rfl,(Or.inl rfl),(Or.inr rfl)⟩ rfl)) (fun _ _ _ _=>pts_one (pt_cmpR op_gt (pv 1) pe_int (nomark _))) (fun _ _ _ _=>(pv 0))) pa_nil))))),lift_body h ?_⟩
 rintro as n P ⟨R,U,ws,cs,rfl,ok,hl,q⟩
 have hs:sizeLine=16777216:=sizeLine_eq
 have wz:=ok.len
 refine ⟨rfl,_,_,rfl,rfl,⟨rfl,by rw [enum_c,List.length_map,List.length_range];omega⟩,?_⟩
 rw [enum_c]
 refine cmpW_filterR (fun i=>decide (0<cs.getD i 0)) (fun i=>.int (i:Int)) (fun i hi n K h1 h2=>⟨rfl,rfl,ite_b h1 h2⟩) ?_
 refine ⟨R,U,ws,onW cs,?_,ok,fun k hk=>?_,?_,q⟩
 · unfold onW
   rw [List.map_map];rfl
 · obtain ⟨i,hi,rfl⟩:=List.mem_map.mp hk
   have:=List.mem_range.mp (List.mem_filter.mp hi).1
   omega
 · unfold onW
   rw [List.length_map]
   have:=List.length_filter_le (fun i=>decide (0<cs.getD i 0)) (List.range cs.length)
   rw [List.length_range] at this
   omega
theorem sc_is_whole:FnScope ["thing"] ["thing"] (defScope s_is_whole):=⟨rfl,rfl,rfl,by decide +kernel,rfl,by decide +kernel,by decide +kernel⟩
theorem ok_is_whole (T:Txt mg) (D:Def K mg "is_whole" s_is_whole ["thing"]):Cal P w K mg base "is_whole" 1 ["thing"] (liftV gsWhole):=by
 refine D.cal fun f fd F=>F.ok sc_is_whole (lift_len ?_) (fun cdv A outer s H vs Q E hr h=>?_)
 · rintro as n P ⟨x,rfl,_⟩
   rfl
 refine ⟨_,(@pss_one _ _ _ (@ps_ret _ _ _ _ (pe_and (pe_callB call_isD rfl T.b_isinstance boot_isinstance (pa_name (pv 0) (pa_name (pe_bltn rfl T.b_int boot_int (v:=.ty "int") rfl) pa_nil))) (pe_one (pe_not (pe_callB call_isD rfl T.b_isinstance boot_isinstance (pa_name (pv 0) (pa_name (pe_bltn rfl T.b_bool boot_bool (v:=.ty "bool") rfl) pa_nil)))))))),lift_body h ?_⟩
 rintro as n P ⟨x,rfl,q⟩
 exact ⟨rfl,q⟩
theorem sc_short_turn:FnScope ["book","counts","ways","onward","room","places","walk"] ["book","counts"] (defScope s_short_turn):=⟨rfl,rfl,rfl,by decide +kernel,rfl,by decide +kernel,by decide +kernel⟩
theorem ok_short_turn (T:Txt mg) (D:Def K mg "short_turn" s_short_turn ["book","counts"]):Cal P w K mg base "short_turn" 1 ["book","counts"] (liftN gsShort):=by
 refine D.cal fun f fd F=>F.ok sc_short_turn (lift_lenN ?_) (fun cdv A outer s H vs Q E hr h=>?_)
 · rintro as n P ⟨R,U,ws,cs,rfl,_⟩
   rfl
 refine ⟨_,(@pss_cons _ _ _ _ _ (ps_set (i:=2) sc_short_turn.nd rfl (Or.inr rfl) (pe_ix ix_tup (pv 0) pe_int (fun _ _=>rfl)))
  (@pss_cons _ _ _ _ _ (ps_setcompD (i:=3) (sc:=(defScope s_short_turn)) (N:=["book","counts","ways","onward","room","places","walk"]) (N':=["k","count","ways"]) (k:=2) (idx:=[2]) rfl sc_short_turn.nd rfl rfl (by exact ⟨rfl,by decide +kernel,by decide +kernel,by decide +kernel,by decide +kernel,by decide +kernel,rfl,rfl⟩) rfl rfl (pi_enum rfl T.b_enumerate (pa_name (pv 1) pa_nil)) (fun _ _ _ _=>(pg_pair (K':=K) (i:=0) (j:=1) rfl (show (["k","count","ways"]:List Str).Nodup by decide +kernel) ⟨rfl,(Or.inl rfl),(Or.inr rfl)⟩ ⟨rfl,(Or.inl rfl),(Or.inr rfl)⟩ rfl)) (fun _ _ _ _=>pts_one (pt_cmpR op_gt (pv 1) pe_int (nomark _))) (fun _ _ _ _=>(pe_ix (ix_tupK (K':=K) rfl) (pe_ix (ix_tupK (K':=K) rfl) (pv 2) (pv 0) (fun _ _=>rfl)) pe_int (fun _ _=>rfl))) (fun _ _ _ _=>(pv 0)))
  (@pss_cons _ _ _ _ _ (ps_set (i:=4) sc_short_turn.nd rfl (Or.inl rfl) (pe_callB (call_minQ rfl) rfl T.b_min boot_min (pa_name (pv 3) pa_nil)))
  (@pss_cons _ _ _ _ _ (ps_set (i:=5) sc_short_turn.nd rfl (Or.inl rfl) pe_dnewK)
  (@pss_cons _ _ _ _ _ (@ps_setD _ _ 6 _ _ _ _ sc_short_turn.nd rfl (Or.inl rfl) (pes_lst pas_nil) rfl (Or.inl rfl))
  (@pss_cons _ _ _ _ _ (ps_while PassesOwn.never (pt_cmp (pc_dnotin (hu_of hr) (pv 4) (pv 5)))
  (@pss_cons _ _ _ _ _ (ps_dput (hu_of hr) (pv 5) (pv 4) (pe_callB call_len_seq rfl T.b_len PySem.boot_len (pa_name (pv 6) pa_nil)) rfl)
  (@pss_cons _ _ _ _ _ (ps_expr (pe_bm PySem.F.plainAttrs_list PySem.F.slot_list_append PySem.F.type_list_append mt_append (pv 6) (pa_sub (pe_dget (hu_of hr) (pv 3) (pv 4) (fun _ _=>rfl)) pa_nil)))
  (@pss_one _ _ _ (ps_set (i:=4) sc_short_turn.nd rfl (Or.inl rfl) (pe_ix ix_tup (pe_ix ix_tup (pv 2) (pe_dget (hu_of hr) (pv 3) (pv 4) (fun _ _=>rfl)) (fun _ _=>rfl)) pe_int (fun _ _=>rfl)))))))
  (@pss_one _ _ _ (@ps_ret _ _ _ _ (pe_slice sl_list (pv 6) (po_some (pe_dget (hu_of hr) (pv 5) (pv 4) (fun _ _=>rfl))) po_none))))))))),lift_bodyN h ?_⟩
 rintro as n P ⟨R,U,ws,cs,rfl,ok,ro,⟨i0,hi0,hp0⟩,q⟩
 have hs:sizeLine=16777216:=sizeLine_eq
 have r0:=ok.r0
 have r1:=ok.r1
 have wz:=ok.len
 have hl:=ro.len
 refine ⟨rfl,_,rfl,_,.refl,?_⟩
 refine ⟨_,_,rfl,rfl,⟨rfl,by rw [enum_c,List.length_map,List.length_range];omega⟩,?_⟩
 refine cmpDW_fold (f:=onwF ws cs) (enumD (cs.map .int)) 0 (fun j x Q' hx hq=>?_) ?_
 · rw [enum_c] at hx
   by_cases hj:j<cs.length
   · rw [rmap_get hj] at hx
     injection hx with hx
     subst hx
     rw [Nat.zero_add] at hq
     unfold onwF at hq
     refine ⟨rfl,rfl,?_⟩
     refine ite_b (fun c=>?_) (fun c=>?_)
     · rw [if_pos (of_decide_eq_true c)] at hq
       exact ⟨_,at_way (Int.natCast_nonneg j) (by omega),_,rfl,hq⟩
     · rw [if_neg (of_decide_eq_false c)] at hq
       exact hq
   · rw [rmap_none hj] at hx
     cases hx
 rw [Nat.zero_add,enum_c,List.length_map,List.length_range,hl]
 refine ⟨_,.refl,?_⟩
 obtain ⟨ns,e1,hns⟩:=fold_keys (f:=onwF ws cs) (m:=ws.length)
 refine ⟨ns,e1,fun z=>?_,fun r hr _=>?_⟩
 · obtain ⟨d,hd⟩:=onw_has (ws:=ws) hi0 hp0
   rw [z] at e1
   rw [List.map_eq_nil_iff.mp e1] at hd
   cases hd
 refine ⟨_,.refl,?_⟩
 refine ⟨_,.refl,?_⟩
 refine ⟨Nat.zero_le _,?_⟩
 refine ⟨_,.refl,?_⟩
 refine ⟨fun m env n'=>n'=n∧∃ (ks:List Int) (r':Int) (pl:List (Key×PyData)),env=[.d (bookPD R U ws),.d (.list (cs.map .int)),.d (.tuple (ws.map wayPD)),.dct (foldD (onwF ws cs) ws.length),.d (.int r'),.dct pl,.own (ks.map .int)]∧Pth ws r ks r'∧(ks.map fun k=>(wayAt ws k).a).Nodup∧(∀ k∈ks,0<cs.getD k.toNat 0)∧placesOk (ks.map fun k=>(wayAt ws k).a) pl∧pl.length=ks.length∧(∃ d,valD (foldD (onwF ws cs) ws.length) (Sum.inl r')=some d)∧m=R.toNat-ks.length,⟨_,rfl,[],r,[],rfl,rfl,.nil,(fun k hk=>by cases hk),places_nil,rfl,hns r hr,rfl⟩,?_⟩
 rintro m env _ ⟨rfl,ks,r',pl,rfl,pth,nd,pos,pok,hpl,⟨d,hd⟩,rfl⟩
 obtain ⟨i,hi,rfl,hpi,hai⟩:=onw_some hd
 have hrs:∀ x∈ks.map (fun k=>(wayAt ws k).a),0≤x∧x<R:=fun x hx=>by
  obtain ⟨k,hk,rfl⟩:=List.mem_map.mp hx
  obtain ⟨k0,k1⟩:=pth.inW k hk
  have wok:=ok.ways _ (wayAt_mem' k0 k1)
  exact ⟨wok.a0,wok.a1⟩
 have hle:=rooms_le nd hrs
 rw [List.length_map] at hle
 refine ite_b (fun c=>?_) (fun c=>?_)
 · have c1:(valD pl (Sum.inl r')).isSome=false:=by simpa using c
   have hnr:r'∉ks.map fun k=>(wayAt ws k).a:=fun z=>by
    rw [pok r',if_pos z] at c1
    cases c1
   have nd2:((ks++[(i:Int)]).map fun k=>(wayAt ws k).a).Nodup:=by
    rw [List.map_append,List.map_singleton,hai]
    exact List.nodup_append.mpr ⟨nd,List.nodup_cons.mpr ⟨by simp,.nil⟩,fun a ha b hb e=>hnr (by rw [← List.mem_singleton.mp hb,← e];exact ha)⟩
   have pth2:=pth_snoc pth ⟨Int.natCast_nonneg i,by omega⟩ hai
   have hrs2:∀ x∈(ks++[(i:Int)]).map (fun k=>(wayAt ws k).a),0≤x∧x<R:=fun x hx=>by
    obtain ⟨k,hk,rfl⟩:=List.mem_map.mp hx
    obtain ⟨k0,k1⟩:=pth2.inW k hk
    have wok:=ok.ways _ (wayAt_mem' k0 k1)
    exact ⟨wok.a0,wok.a1⟩
   have hle2:=rooms_le nd2 hrs2
   rw [List.length_map,List.length_append,List.length_singleton] at hle2
   refine ⟨by omega,_,.refl,_,hd,by rw [List.length_map];omega,_,.refl,_,hd,_,at_way (Int.natCast_nonneg i) (by omega),_,rfl,R.toNat-(ks.length+1),by omega,rfl,ks++[(i:Int)],_,putQ pl (Sum.inl r') (.int (((ks.map PyData.int).length:Nat):Int)),by rw [List.map_append];rfl,pth2,nd2,?_,?_,?_,?_,?_⟩
   · intro k hk
     rcases List.mem_append.mp hk with hk | hk
     · exact pos k hk
     · rw [List.mem_singleton.mp hk,Int.toNat_natCast]
       exact hpi
   · have:=places_snoc pok hnr
     rw [List.length_map] at this ⊢
     rw [List.map_append,List.map_singleton,hai]
     exact this
   · rw [put_len,hpl,List.length_append];rfl
     cases hv:valD pl (Sum.inl r') with
     | none=>rfl
     | some d=>rw [hv] at c1;cases c1
   · obtain ⟨j,hj,hpj,haj⟩:=goes_on ok ro hi hpi
     obtain ⟨d,hd⟩:=onw_has (ws:=ws) hj hpj
     exact ⟨d,by rw [← haj];exact hd⟩
   · rw [List.length_append];rfl
 · have c1:(valD pl (Sum.inl r')).isSome=true:=by simpa using c
   have hr':r'∈ks.map fun k=>(wayAt ws k).a:=by
    by_cases z:r'∈ks.map fun k=>(wayAt ws k).a
    · exact z
    · rw [pok r',if_neg z] at c1
      cases c1
   refine ⟨_,.refl,?_⟩
   have ev:valD pl (Sum.inl r')=some (.int (((ks.map fun k=>(wayAt ws k).a).idxOf r':Nat):Int)):=by rw [pok r',if_pos hr']
   refine ⟨_,ev,?_⟩
   show P _ _
   rw [cutD_drop,← List.map_drop]
   exact q _ _ (turn_of pth rfl nd pos hr')
theorem sc_turns_of:FnScope ["book","counts","left","turns","walk","many","k"] ["book","counts"] (defScope s_turns_of):=⟨rfl,rfl,rfl,by decide +kernel,rfl,by decide +kernel,by decide +kernel⟩
theorem ok_turns_of (T:Txt mg) (D:Def K mg "turns_of" s_turns_of ["book","counts"]) (c_short_turn:Cal P w K mg base "short_turn" 1 ["book","counts"] (liftN gsShort)):Cal P w K mg base "turns_of" 2 ["book","counts"] (liftV gsTurns):=by
 refine D.cal fun f fd F=>F.ok sc_turns_of (lift_len ?_) (fun cdv A outer s H vs Q E hr h=>?_)
 · rintro as n P ⟨R,U,ws,cs,rfl,_⟩
   rfl
 refine ⟨_,(@pss_cons _ _ _ _ _ (ps_set (i:=2) sc_turns_of.nd rfl (Or.inr rfl) (pe_callTy call_list_of rfl T.b_list boot_list (pa_name (pv 1) pa_nil)))
  (@pss_cons _ _ _ _ _ (@ps_setD _ _ 3 _ _ _ _ sc_turns_of.nd rfl (Or.inl rfl) (pes_lst pas_nil) rfl (Or.inl rfl))
  (@pss_cons _ _ _ _ _ (ps_while PassesOwn.never (pt_val (pe_callB (call_anyL rfl) rfl T.b_any boot_any (pa_name (pv 2) pa_nil)))
  (@pss_cons _ _ _ _ _ (ps_set (i:=4) sc_turns_of.nd rfl (Or.inl rfl) (pe_c c_short_turn (hr.mono (by decide)) rfl (pa_name (pv 0) (pa_name (pv 2) pa_nil))))
  (@pss_cons _ _ _ _ _ (ps_set (i:=5) sc_turns_of.nd rfl (Or.inl rfl) (pe_callB (call_minL rfl) rfl T.b_min boot_min (pa_comp (pe_comp (sc:=(defScope s_turns_of)) (N:=["book","counts","left","turns","walk","many","k"]) (N':=["k","left"]) (k:=1) (idx:=[2]) rfl (by exact ⟨rfl,by decide +kernel,by decide +kernel,by decide +kernel,by decide +kernel,by decide +kernel,rfl,rfl⟩) rfl rfl (pi_list (pv 4)) (fun _ _ _ _=>(pg_name (i:=0) (show (["k","left"]:List Str).Nodup by decide +kernel) rfl (Or.inl rfl) (Or.inr rfl))) (fun _ _ _ _=>pts_nil) (fun _ _ _ _=>(pe_ix (ix_listK (K':=K) rfl) (pv 1) (pv 0) (fun _ _=>rfl)))) pa_nil)))
  (@pss_cons _ _ _ _ _ (ps_for PassesOwn.never rfl (pi_list (pv 4)) (pg_name (i:=6) sc_turns_of.nd rfl (Or.inl rfl) (Or.inl rfl))
  (@pss_one _ _ _ (ps_augS (pv 2) (pv 6) get_list (pv 5) ip_sub set_list)))
  (@pss_one _ _ _ (ps_expr (pe_bm PySem.F.plainAttrs_list PySem.F.slot_list_append PySem.F.type_list_append mt_append (pv 3) (pa_tuple (@PEs.out _ _ _ (pes_tup (pas_name (pes_of (pv 4)) (pas_name (pes_of (pv 5)) pas_nil)))) pa_nil))))))))
  (@pss_one _ _ _ (@ps_ret _ _ _ _ (pv 3)))))),lift_body h ?_⟩
 rintro as n P ⟨R,U,ws,cs,rfl,ok,ro,q⟩
 have hs:sizeLine=16777216:=sizeLine_eq
 have wz:=ok.len
 have hl:=ro.len
 refine ⟨rfl,?_⟩
 refine ⟨_,.refl,Nat.zero_le _,_,.refl,?_⟩
 refine ⟨fun m env n'=>n'=n∧∃ (ls:List Int) (ts:List (List Int×Int)) (x4 x5 x6:Vl),env=[.d (bookPD R U ws),.d (.tuple (cs.map .int)),.own (ls.map .int),.own (ts.map turnPD),x4,x5,x6]∧RoundOk R ws ls∧TurnsOk ws cs ls ts∧m=pcI ls,⟨_,rfl,cs,[],_,_,_,rfl,ro,turns_nil hl,rfl⟩,?_⟩
 rintro m env _ ⟨rfl,ls,ts,x4,x5,x6,rfl,rl,tk,rfl⟩
 refine ⟨ls,rfl,ite_b (fun c=>?_) (fun c=>?_)⟩
 · obtain ⟨x,hx,hx0⟩:=List.any_eq_true.mp c
   obtain ⟨i,hi,rfl⟩:=List.mem_iff_getElem.mp hx
   refine ⟨R,U,ws,ls,rfl,ok,rl,⟨i,by rw [← rl.len];exact hi,?_⟩,fun a ks sh=>?_⟩
   · have:=of_decide_eq_true hx0
     have:=rl.nn _ hx
     rw [getD_el hi]
     omega
   refine ⟨_,.fz 4 _ rfl .refl,?_⟩
   have inw:=sh.pth.inW
   have hk60:ks.length≤R.toNat:=by
    have:=rooms_le (R:=R) sh.nd fun x hx=>by
     obtain ⟨k,hk,rfl⟩:=List.mem_map.mp hx
     obtain ⟨k0,k1⟩:=inw k hk
     have wok:=ok.ways _ (wayAt_mem' k0 k1)
     exact ⟨wok.a0,wok.a1⟩
    rw [List.length_map] at this
    exact this
   have r1:=ok.r1
   have ll:=rl.len
   refine ⟨⟨rfl,by rw [List.length_map];omega⟩,?_⟩
   refine cmpW_map (lsAt ls) (fun x hx n K hK=>?_) ?_
   · obtain ⟨k,hk,rfl⟩:=List.mem_map.mp hx
     obtain ⟨k0,k1⟩:=inw k hk
     exact iteT ⟨_,at_ls k0 (by omega),hK⟩
   refine ⟨ks.map fun k=>ls.getD k.toNat 0,by rw [List.map_map,List.map_map];rfl,fun z=>sh.ne (List.map_eq_nil_iff.mp z),fun m hm hle=>?_⟩
   have least:Least ls ks m:=by
    obtain ⟨k,hk,e⟩:=List.mem_map.mp hm
    exact ⟨by rw [← e];exact sh.pos k hk,fun j hj=>hle _ (List.mem_map.mpr ⟨j,hj,rfl⟩),⟨k,hk,e⟩⟩
   refine ⟨_,.refl,?_⟩
   refine ⟨fun i env n'=>n'=_∧∃ x6:Vl,env=[.d (bookPD R U ws),.d (.tuple (cs.map .int)),.own ((lsub ls (ks.take i) m).map .int),.own (ts.map turnPD),.d (.list (ks.map .int)),.d (.int m),x6],⟨rfl,_,by rw [List.take_zero,lsub_nil];rfl⟩,?_,?_⟩
   · rintro i x env _ hx ⟨rfl,x6,rfl⟩
     rw [List.getElem?_map] at hx
     obtain ⟨k,hki,rfl⟩:=Option.map_eq_some_iff.mp hx
     obtain ⟨k0,k1⟩:=inw k (List.mem_of_getElem? hki)
     refine ⟨(lsub ls (ks.take i) m).getD k.toNat 0,k0,int_get (by rw [lsub_len];omega),rfl,.d (.int k),?_⟩
     show [_,_,Vl.own (((lsub ls (ks.take i) m).map PyData.int).set k.toNat (.int ((lsub ls (ks.take i) m).getD k.toNat 0-m))),_,_,_,_]=_
     rw [← List.map_set,lsub_snoc k0 (by omega),← take_snoc hki]
   · rintro env _ ⟨rfl,x6,rfl⟩
     rw [List.length_map,List.take_length]
     refine ⟨_,.refl,?_⟩
     have pl:=pc_less rl.len sh least
     have tn:=turns_snoc rl.len tk sh least
     have tl:=tk.len
     refine ⟨two_line,by rw [List.length_map];omega,_,pl,rfl,_,ts++[(ks,m)],.d (.list (ks.map .int)),.d (.int m),x6,by rw [List.map_append];rfl,lsub_ok rl sh least,tn,rfl⟩
 · refine ⟨_,.refl,?_⟩
   show P _ _
   refine q ls ts rl.len (fun i=>?_) tk
   by_cases hi:i<ls.length
   · rw [getD_el hi]
     by_cases e:ls[i]=0
     · exact e
     · rw [List.any_eq_true.mpr ⟨ls[i],List.getElem_mem hi,decide_eq_true e⟩] at c
       cases c
   · rw [List.getD_eq_getElem?_getD,List.getElem?_eq_none (by omega)];rfl
theorem sc_lay_turn:FnScope ["book","row","rooms","turn","walk","many","starts","common","first","place","parts","begins"] ["book","row","rooms","turn"] (defScope s_lay_turn):=⟨rfl,rfl,rfl,by decide +kernel,rfl,by decide +kernel,by decide +kernel⟩
theorem ok_lay_turn (T:Txt mg) (D:Def K mg "lay_turn" s_lay_turn ["book","row","rooms","turn"]):Cal P w K mg base "lay_turn" 1 ["book","row","rooms","turn"] (liftLay gsLay):=by
 refine D.cal fun f fd F=>F.ok sc_lay_turn lay_len (fun cdv A outer s H vs Q E hr h=>?_)
 refine ⟨_,(@pss_cons _ _ _ _ _ (ps_asg (pv 3) (pg_pair (K':=K) (i:=4) (j:=5) rfl sc_lay_turn.nd ⟨rfl,(Or.inl rfl),(Or.inl rfl)⟩ ⟨rfl,(Or.inl rfl),(Or.inl rfl)⟩ rfl))
  (@pss_cons _ _ _ _ _ (ps_setcomp (i:=6) (sc:=(defScope s_lay_turn)) (N:=["book","row","rooms","turn","walk","many","starts","common","first","place","parts","begins"]) (N':=["k","book"]) (k:=1) (idx:=[0]) rfl sc_lay_turn.nd rfl rfl (by exact ⟨rfl,by decide +kernel,by decide +kernel,by decide +kernel,by decide +kernel,by decide +kernel,rfl,rfl⟩) rfl rfl (pi_list (pv 4)) (fun _ _ _ _=>(pg_name (i:=0) (show (["k","book"]:List Str).Nodup by decide +kernel) rfl (Or.inl rfl) (Or.inr rfl))) (fun _ _ _ _=>pts_nil) (fun _ _ _ _=>(pe_ix (ix_tupK (K':=K) rfl) (pe_ix (ix_tupK (K':=K) rfl) (pe_ix (ix_tupK (K':=K) rfl) (pv 1) pe_int (fun _ _=>rfl)) (pv 0) (fun _ _=>rfl)) pe_int (fun _ _=>rfl))))
  (@pss_cons _ _ _ _ _ (ps_setcomp (i:=7) (sc:=(defScope s_lay_turn)) (N:=["book","row","rooms","turn","walk","many","starts","common","first","place","parts","begins"]) (N':=["at","room","rooms"]) (k:=2) (idx:=[2]) rfl sc_lay_turn.nd rfl rfl (by exact ⟨rfl,by decide +kernel,by decide +kernel,by decide +kernel,by decide +kernel,by decide +kernel,rfl,rfl⟩) rfl rfl (pi_enum rfl T.b_enumerate (pa_name (pv 6) pa_nil)) (fun _ _ _ _=>(pg_pair (K':=K) (i:=0) (j:=1) rfl (show (["at","room","rooms"]:List Str).Nodup by decide +kernel) ⟨rfl,(Or.inl rfl),(Or.inr rfl)⟩ ⟨rfl,(Or.inl rfl),(Or.inr rfl)⟩ rfl)) (fun _ _ _ _=>pts_one (pt_cmpR (op_in_seqK (K':=K) rfl) (pv 1) (pv 2) (by with_unfolding_all rfl))) (fun _ _ _ _=>(pv 0)))
  (@pss_cons _ _ _ _ _ (ps_if (pt_not (pt_tru (pv 7) (fun _=>rfl))) (@pss_one _ _ _ (@ps_ret _ _ _ _ pe_bl)) pss_nil)
  (@pss_cons _ _ _ _ _ (ps_set (i:=8) sc_lay_turn.nd rfl (Or.inl rfl) (pe_ix ix_list (pv 7) pe_int (fun _ _=>rfl)))
  (@pss_cons _ _ _ _ _ (ps_set (i:=9) sc_lay_turn.nd rfl (Or.inl rfl) (pe_bm PySem.F.plainAttrs_list PySem.F.slot_list_index PySem.F.type_list_index mt_indexI (pv 2) (pa_sub (pe_ix ix_list (pv 6) (pv 8) (fun _ _=>rfl)) pa_nil)))
  (@pss_cons _ _ _ _ _ (ps_setcomp (i:=10) (sc:=(defScope s_lay_turn)) (N:=["book","row","rooms","turn","walk","many","starts","common","first","place","parts","begins"]) (N':=["k"]) (k:=1) (idx:=[]) rfl sc_lay_turn.nd rfl rfl (by exact ⟨rfl,by decide +kernel,by decide +kernel,by decide +kernel,by decide +kernel,by decide +kernel,rfl,rfl⟩) rfl rfl (pi_list (pe_op op_cat (pe_slice sl_list (pv 4) (po_some (pv 8)) po_none) (pe_slice sl_list (pv 4) po_none (po_some (pv 8))))) (fun _ _ _ _=>(pg_name (i:=0) (show (["k"]:List Str).Nodup by decide +kernel) rfl (Or.inl rfl) (Or.inr rfl))) (fun _ _ _ _=>pts_nil) (fun _ _ _ _=>(@PEs.out _ _ _ (pes_tup (pas_const pes_str (pas_name (pes_of (pv 0)) pas_nil))))))
  (@pss_cons _ _ _ _ _ (ps_set (i:=11) sc_lay_turn.nd rfl (Or.inl rfl) (pe_op op_cat (pe_slice sl_list (pv 6) (po_some (pv 8)) po_none) (pe_slice sl_list (pv 6) po_none (po_some (pv 8)))))
  (@pss_cons _ _ _ _ _ (ps_if (pt_cmpR op_gt (pv 5) pe_int (nomark _)) (@pss_cons _ _ _ _ _ (ps_expr (pe_bm PySem.F.plainAttrs_list PySem.F.slot_list_append PySem.F.type_list_append mt_append (pv 10) (pa_tuple (@PEs.out _ _ _ (pes_tup (pas_const pes_str (pas_binop (pes_of (pe_op op_sub (pv 5) pe_int)) (pas_tuple (pes_tup (pas_const pes_str (pas_call (pes_of (pe_callTy call_tuple_of rfl T.b_tuple boot_tuple (pa_name (pv 10) pa_nil))) pas_nil))) pas_nil))))) pa_nil)))
  (@pss_one _ _ _ (ps_expr (pe_bm PySem.F.plainAttrs_list PySem.F.slot_list_append PySem.F.type_list_append mt_append (pv 11) (pa_sub (pe_ix ix_list (pv 6) (pv 8) (fun _ _=>rfl)) pa_nil))))) pss_nil)
  (@pss_cons _ _ _ _ _ (ps_asg (pv 10) (pg_lay (pv 1) (po_some (pv 9)) (po_some (pv 9)) (fun v=>assign_sub_gen _ _ _ _ _)))
  (@pss_cons _ _ _ _ _ (ps_asg (pv 11) (pg_lay (pv 2) (po_some (pv 9)) (po_some (pv 9)) (fun v=>assign_sub_gen _ _ _ _ _)))
  (@pss_one _ _ _ (@ps_ret _ _ _ _ pe_bl))))))))))))),lay_body h ?_⟩
 rintro bk row rooms tn P D C a1 a2 σ H ex ⟨R,U,ws,cs,rs,ks,m,a,rfl,rfl,rfl,ok,sh,hm,hn,hrl,hz,q1,q2⟩ hne A hret hlay hS hH0
 have hs:sizeLine=16777216:=sizeLine_eq
 have O:∀ M:List Vl→Nat→Prop,EndsOk C { nx:=fun _ _=>False,rt:=fun d n=>d = .bool false∧P none,rtn:=fun _ _=>False } D:=fun M=>⟨fun _ h=>h.elim,fun _ h=>h.elim,fun _ h=>h.elim,fun {d n v H} R h=>by obtain ⟨rfl,hp⟩:=h;exact hret R hp,fun _ h=>h.elim,fun _ _ h=>h.elim,fun _ h=>h.elim⟩
 have inw:=sh.pth.inW
 have wok:∀ k∈ks,WayOk R U (wayAt ws k):=fun k hk=>ok.ways _ (wayAt_mem' (inw k hk).1 (inw k hk).2)
 have hkl:ks.length≤12:=by
  have:=rooms_le (R:=R) sh.nd fun x hx=>by
   obtain ⟨k,hk,rfl⟩:=List.mem_map.mp hx
   exact ⟨(wok k hk).a0,(wok k hk).a1⟩
  rw [List.length_map] at this
  have:=ok.r1
  omega
 refine seq_step (G:={ nx:=fun env n=>n=0∧env=[.d (bookPD R U ws),.pin (.ref a1) (.list row),.pin (.ref a2) (.list (rs.map .int)),.d (turnPD (ks,m)),.d (.list (ks.map .int)),.d (.int m),.jnk,.jnk,.jnk,.jnk,.jnk,.jnk],rt:=fun d n=>d = .bool false∧P none,rtn:=fun _ _=>False }) (O fun _ _=>False) A ⟨rfl,rfl,rfl,rfl⟩ ?_
 rintro ex env σ H _ A ⟨rfl,rfl⟩
 refine seq_step (G:={ nx:=fun env n=>n=0∧env=[.d (bookPD R U ws),.pin (.ref a1) (.list row),.pin (.ref a2) (.list (rs.map .int)),.d (turnPD (ks,m)),.d (.list (ks.map .int)),.d (.int m),.own ((ks.map fun k=>(wayAt ws k).a).map .int),.jnk,.jnk,.jnk,.jnk,.jnk],rt:=fun d n=>d = .bool false∧P none,rtn:=fun _ _=>False }) (O fun _ _=>False) A ?_ ?_
 · refine ⟨⟨rfl,by rw [List.length_map];omega⟩,?_⟩
   refine cmpW_map (fun d=>match d with | .int k=>.int (wayAt ws k).a | d=>d) (fun x hx n K hK=>?_) ?_
   · obtain ⟨k,hk,rfl⟩:=List.mem_map.mp hx
     obtain ⟨k0,k1⟩:=inw k hk
     exact iteT ⟨_,rfl,_,at_way k0 k1,_,rfl,hK⟩
   · refine ⟨rfl,?_⟩
     rw [List.map_map,List.map_map]
     rfl
 rintro ex env σ H _ A ⟨rfl,rfl⟩
 obtain ⟨ex,A⟩:=A.fz (.fz 6 _ rfl .refl)
 refine seq_step (G:={ nx:=fun env n=>n=0∧env=[.d (bookPD R U ws),.pin (.ref a1) (.list row),.pin (.ref a2) (.list (rs.map .int)),.d (turnPD (ks,m)),.d (.list (ks.map .int)),.d (.int m),.d (.list ((ks.map fun k=>(wayAt ws k).a).map .int)),.own (((List.range ks.length).filter fun j=>decide ((wayAt ws (ks.getD j 0)).a∈rs)).map fun j=>PyData.int ((j:Nat):Int)),.jnk,.jnk,.jnk,.jnk],rt:=fun d n=>d = .bool false∧P none,rtn:=fun _ _=>False }) (O fun _ _=>False) A ?_ ?_
 · refine ⟨_,_,rfl,rfl,⟨rfl,by rw [enum_c,List.length_map,List.length_range,List.length_map];omega⟩,?_⟩
   rw [enum_c,List.length_map]
   refine cmpW_filterR (fun j=>decide ((wayAt ws (ks.getD j 0)).a∈rs)) (fun j=>.int (j:Int)) (fun j hj n K h1 h2=>⟨rfl,rfl,⟨rfl,scal_is rs,?_⟩⟩) ⟨rfl,rfl⟩
   have e:inD (.int ((ks.map fun k=>(wayAt ws k).a).getD j 0)) (rs.map .int)=decide ((wayAt ws (ks.getD j 0)).a∈rs):=by rw [in_is,getD_mapA (by omega)]
   show if inD (.int ((ks.map fun k=>(wayAt ws k).a).getD j 0)) (rs.map .int)=true then _ else _
   rw [e]
   exact ite_b h1 h2
 rintro ex env σ H _ A ⟨rfl,rfl⟩
 refine seq_step (G:={ nx:=fun env n=>n=0∧env=[.d (bookPD R U ws),.pin (.ref a1) (.list row),.pin (.ref a2) (.list (rs.map .int)),.d (turnPD (ks,m)),.d (.list (ks.map .int)),.d (.int m),.d (.list ((ks.map fun k=>(wayAt ws k).a).map .int)),.own (((List.range ks.length).filter fun j=>decide ((wayAt ws (ks.getD j 0)).a∈rs)).map fun j=>PyData.int ((j:Nat):Int)),.jnk,.jnk,.jnk,.jnk]∧((List.range ks.length).filter fun j=>decide ((wayAt ws (ks.getD j 0)).a∈rs))≠[],rt:=fun d n=>d = .bool false∧P none,rtn:=fun _ _=>False }) (O fun _ _=>False) A ?_ ?_
 · cases e:((List.range ks.length).filter fun j=>decide ((wayAt ws (ks.getD j 0)).a∈rs)) with
   | nil=>
    refine iteT ⟨rfl,q1 fun k hk hr=>?_⟩
    obtain ⟨i,hi,rfl⟩:=List.mem_iff_getElem.mp hk
    have:i∈((List.range ks.length).filter fun j=>decide ((wayAt ws (ks.getD j 0)).a∈rs)):=List.mem_filter.mpr ⟨List.mem_range.mpr hi,decide_eq_true (by rw [getD_el hi];exact hr)⟩
    rw [e] at this
    cases this
   | cons j js=>exact iteF ⟨rfl,rfl,by simp⟩
 rintro ex env σ H _ A ⟨rfl,rfl,hcn⟩
 obtain ⟨j,js,ej⟩:∃ j js,((List.range ks.length).filter fun j=>decide ((wayAt ws (ks.getD j 0)).a∈rs))=j::js:=by
  cases e:((List.range ks.length).filter fun j=>decide ((wayAt ws (ks.getD j 0)).a∈rs)) with
  | nil=>exact absurd e hcn
  | cons j js=>exact ⟨j,js,rfl⟩
 have hj:j<ks.length∧(wayAt ws (ks.getD j 0)).a∈rs:=by
  have:j∈((List.range ks.length).filter fun j=>decide ((wayAt ws (ks.getD j 0)).a∈rs)):=by rw [ej];exact List.mem_cons_self
  obtain ⟨h1,h2⟩:=List.mem_filter.mp this
  exact ⟨List.mem_range.mp h1,of_decide_eq_true h2⟩
 rw [ej] at A
 refine seq_step (G:={ nx:=fun env n=>n=0∧env=[.d (bookPD R U ws),.pin (.ref a1) (.list row),.pin (.ref a2) (.list (rs.map .int)),.d (turnPD (ks,m)),.d (.list (ks.map .int)),.d (.int m),.d (.list ((ks.map fun k=>(wayAt ws k).a).map .int)),.own ((j::js).map fun j=>PyData.int ((j:Nat):Int)),.d (.int j),.jnk,.jnk,.jnk],rt:=fun d n=>d = .bool false∧P none,rtn:=fun _ _=>False }) (O fun _ _=>False) A ?_ ?_
 · exact ⟨_,by unfold atI;rw [ixN_of (Int.le_refl _) (by rw [List.length_map,List.length_cons];omega)];rfl,rfl,rfl⟩
 rintro ex env σ H _ A ⟨rfl,rfl⟩
 have hjk:ks[j]? = some (ks.getD j 0):=by rw [getD_el hj.1];exact List.getElem?_eq_getElem hj.1
 refine seq_step (G:={ nx:=fun env n=>n=0∧env=[.d (bookPD R U ws),.pin (.ref a1) (.list row),.pin (.ref a2) (.list (rs.map .int)),.d (turnPD (ks,m)),.d (.list (ks.map .int)),.d (.int m),.d (.list ((ks.map fun k=>(wayAt ws k).a).map .int)),.own ((j::js).map fun j=>PyData.int ((j:Nat):Int)),.d (.int j),.d (.int ((rs.idxOf (wayAt ws (ks.getD j 0)).a:Nat):Int)),.jnk,.jnk],rt:=fun d n=>d = .bool false∧P none,rtn:=fun _ _=>False }) (O fun _ _=>False) A ?_ ?_
 · refine ⟨rs,rfl,_,at_ls (Int.natCast_nonneg j) (by rw [List.length_map];omega),rs.idxOf (wayAt ws (ks.getD j 0)).a,?_,?_,rfl,rfl⟩
   · rw [Int.toNat_natCast,getD_mapA hj.1]
     exact idx_get hj.2
   · intro m hm
     rw [Int.toNat_natCast,getD_mapA hj.1]
     exact idx_no hm
 rintro ex env σ H _ A ⟨rfl,rfl⟩
 refine seq_step (G:={ nx:=fun env n=>n=0∧env=[.d (bookPD R U ws),.pin (.ref a1) (.list row),.pin (.ref a2) (.list (rs.map .int)),.d (turnPD (ks,m)),.d (.list (ks.map .int)),.d (.int m),.d (.list ((ks.map fun k=>(wayAt ws k).a).map .int)),.own ((j::js).map fun j=>PyData.int ((j:Nat):Int)),.d (.int j),.d (.int ((rs.idxOf (wayAt ws (ks.getD j 0)).a:Nat):Int)),.own ((lyRot ks j).map lyWay),.jnk],rt:=fun d n=>d = .bool false∧P none,rtn:=fun _ _=>False }) (O fun _ _=>False) A ?_ ?_
 · refine ⟨by rw [rot_cutL];omega,⟨rfl,by rw [rot_cut,List.length_map,rot_len (α:=Int)];omega⟩,?_⟩
   rw [rot_cut]
   refine cmpW_map (fun d=>.tuple [.str "way",d]) (fun x hx n K hK=>iteT ⟨two_line,hK⟩) ?_
   rw [rot_way]
   exact ⟨rfl,rfl⟩
 rintro ex env σ H _ A ⟨rfl,rfl⟩
 refine seq_step (G:={ nx:=fun env n=>n=0∧env=[.d (bookPD R U ws),.pin (.ref a1) (.list row),.pin (.ref a2) (.list (rs.map .int)),.d (turnPD (ks,m)),.d (.list (ks.map .int)),.d (.int m),.d (.list ((ks.map fun k=>(wayAt ws k).a).map .int)),.own ((j::js).map fun j=>PyData.int ((j:Nat):Int)),.d (.int j),.d (.int ((rs.idxOf (wayAt ws (ks.getD j 0)).a:Nat):Int)),.own ((lyRot ks j).map lyWay),.own (((lyRot ks j).map fun k=>(wayAt ws k).a).map .int)],rt:=fun d n=>d = .bool false∧P none,rtn:=fun _ _=>False }) (O fun _ _=>False) A ?_ ?_
 · refine ⟨by rw [rot_cutL,List.length_map];omega,?_⟩
   rw [rot_cut,rot_map]
   exact ⟨rfl,rfl⟩
 rintro ex env σ H _ A ⟨rfl,rfl⟩
 refine seq_step (G:={ nx:=fun env n=>n=0∧env=[.d (bookPD R U ws),.pin (.ref a1) (.list row),.pin (.ref a2) (.list (rs.map .int)),.d (turnPD (ks,m)),.d (.list (ks.map .int)),.d (.int m),.d (.list ((ks.map fun k=>(wayAt ws k).a).map .int)),.own ((j::js).map fun j=>PyData.int ((j:Nat):Int)),.d (.int j),.d (.int ((rs.idxOf (wayAt ws (ks.getD j 0)).a:Nat):Int)),.own (lyParts (lyRot ks j) m),.own ((lyRooms ws (lyRot ks j) m (wayAt ws (ks.getD j 0)).a).map .int)],rt:=fun d n=>d = .bool false∧P none,rtn:=fun _ _=>False }) (O fun _ _=>False) A ?_ ?_
 · refine ite_b (fun c=>?_) (fun c=>?_)
   · have c1:1<m:=of_decide_eq_true c
     refine ⟨two_line,three_line,by rw [List.length_map,rot_len (α:=Int)];omega,_,.refl,?_⟩
     refine ⟨_,at_ls (Int.natCast_nonneg j) (by rw [List.length_map];omega),by rw [List.length_map,List.length_map,rot_len (α:=Int)];omega,rfl,?_⟩
     unfold lyParts lyRooms
     rw [if_pos c1,if_pos c1,List.map_append,Int.toNat_natCast,getD_mapA hj.1]
     rfl
   · have c1:¬ 1<m:=of_decide_eq_false c
     refine ⟨rfl,?_⟩
     unfold lyParts lyRooms
     rw [if_neg c1,if_neg c1,List.append_nil,List.append_nil]
 rintro ex env σ H _ A ⟨rfl,rfl⟩
 have hix:rs.idxOf (wayAt ws (ks.getD j 0)).a<rs.length:=List.idxOf_lt_length_of_mem hj.2
 have pl:=parts_len (lyRot ks j) m
 have rl:=rooms_len ws (lyRot ks j) m (wayAt ws (ks.getD j 0)).a
 rw [rot_len (α:=Int)] at pl rl
 refine tail_lay A rfl rfl rfl rfl rfl (Int.natCast_nonneg _) ?_ ?_ hne ?_ ?_ hn (noL_ints _) (noL_parts _ _) (noL_ints _) ?_
 · omega
 · rw [List.length_map];omega
 · omega
 · rw [List.length_map,List.length_map];omega
 · intro vs us H' g1 g2 g3 g4 k2
   have kp0:=A.kp
   rw [hS,hH0] at kp0
   rw [Int.toNat_natCast] at g3 g4
   rw [lay_map] at g4
   exact hlay kp0 (q2 j (ks.getD j 0) hjk hj.2) vs us H' g1 g2 g3 g4 k2
theorem sc_walk_of:FnScope ["book","counts","room","row","rooms","pending","later","turn"] ["book","counts","room"] (defScope s_walk_of):=⟨rfl,rfl,rfl,by decide +kernel,rfl,by decide +kernel,by decide +kernel⟩
theorem ok_walk_of (T:Txt mg) (D:Def K mg "walk_of" s_walk_of ["book","counts","room"]) (c_parts_of:Cal P w K mg base "parts_of" 3 ["book","counts"] (liftV gsParts)) (c_is_whole:Cal P w K mg base "is_whole" 1 ["thing"] (liftV gsWhole)) (c_turns_of:Cal P w K mg base "turns_of" 2 ["book","counts"] (liftV gsTurns)) (c_lay_turn:Cal P w K mg base "lay_turn" 1 ["book","row","rooms","turn"] (liftLay gsLay))  :Cal P w K mg base "walk_of" 4 ["book","counts","room"] (liftV gsWalkT):=by
 refine D.cal fun f fd F=>F.ok sc_walk_of (lift_len ?_) (fun cdv A outer s H vs Q E hr h=>?_)
 · rintro as n P ⟨R,U,ws,cs,room,rfl,_⟩
   rfl
 refine ⟨_,(@pss_cons _ _ _ _ _ (ps_if (pt_cmpR op_ne (pe_callB call_len_seq rfl T.b_len PySem.boot_len (pa_call (pe_c c_parts_of (hr.mono (by decide)) rfl (pa_name (pv 0) (pa_name (pv 1) pa_nil))) pa_nil)) pe_int (nomark _)) pss_never pss_nil)
  (@pss_cons _ _ _ _ _ (ps_if (PW.pt (pw_or (pt_not (pt_val (pe_c c_is_whole (hr.mono (by decide)) rfl (pa_name (pv 2) pa_nil)))) (pw_or1 (pt_cmpR op_notIn_seq (pv 2) (pe_comp (sc:=(defScope s_walk_of)) (N:=["book","counts","room","row","rooms","pending","later","turn"]) (N':=["way","count"]) (k:=2) (idx:=[]) rfl (by exact ⟨rfl,by decide +kernel,by decide +kernel,by decide +kernel,by decide +kernel,by decide +kernel,rfl,rfl⟩) rfl rfl (pi_zip rfl T.b_zip (pa_sub (pe_ix ix_tup (pv 0) pe_int (fun _ _=>rfl)) (pa_name (pv 1) pa_nil))) (fun _ _ _ _=>(pg_pair (K':=K) (i:=0) (j:=1) rfl (show (["way","count"]:List Str).Nodup by decide +kernel) ⟨rfl,(Or.inl rfl),(Or.inr rfl)⟩ ⟨rfl,(Or.inl rfl),(Or.inr rfl)⟩ rfl)) (fun _ _ _ _=>pts_one (pt_cmpR op_gt (pv 1) pe_int (nomark _))) (fun _ _ _ _=>(pe_ix (ix_tupK (K':=K) rfl) (pv 0) pe_int (fun _ _=>rfl)))) (by with_unfolding_all rfl))))) pss_never pss_nil)
  (@pss_cons _ _ _ _ _ (@ps_setD _ _ 3 _ _ _ _ sc_walk_of.nd rfl (Or.inl rfl) (pes_lst pas_nil) rfl (Or.inl rfl))
  (@pss_cons _ _ _ _ _ (@ps_setD _ _ 4 _ _ _ _ sc_walk_of.nd rfl (Or.inl rfl) (pes_lst (pas_name (pes_of (pv 2)) pas_nil)) rfl (Or.inl rfl))
  (@pss_cons _ _ _ _ _ (ps_set (i:=5) sc_walk_of.nd rfl (Or.inl rfl) (pe_c c_turns_of (hr.mono (by decide)) rfl (pa_name (pv 0) (pa_name (pv 1) pa_nil))))
  (@pss_cons _ _ _ _ _ (ps_while PassesOwn.never (pt_tru (pv 5) (fun _=>rfl))
  (@pss_cons _ _ _ _ _ (@ps_setD _ _ 6 _ _ _ _ sc_walk_of.nd rfl (Or.inl rfl) (pes_lst pas_nil) rfl (Or.inl rfl))
  (@pss_cons _ _ _ _ _ (ps_for PassesOwn.never rfl (pi_list (pv 5)) (pg_name (i:=7) sc_walk_of.nd rfl (Or.inl rfl) (Or.inl rfl))
  (@pss_one _ _ _ (ps_if (pt_not (pt_val (pe_c c_lay_turn (hr.mono (by decide)) rfl (pa_name (pv 0) (pa_name (pv 3) (pa_name (pv 4) (pa_name (pv 7) pa_nil))))))) (@pss_one _ _ _ (ps_expr (pe_bm PySem.F.plainAttrs_list PySem.F.slot_list_append PySem.F.type_list_append mt_append (pv 6) (pa_name (pv 7) pa_nil)))) pss_nil)))
  (@pss_one _ _ _ (ps_set (i:=5) sc_walk_of.nd rfl (Or.inl rfl) (pv 6))))))
  (@pss_one _ _ _ (@ps_ret _ _ _ _ (@PEs.out _ _ _ (pes_tup (pas_const pes_str (pas_call (pes_of (pe_callTy call_tuple_of rfl T.b_tuple boot_tuple (pa_name (pv 3) pa_nil))) pas_nil)))))))))))),lift_body h ?_⟩
 rintro as n P ⟨R,U,ws,cs,room,rfl,ok,ro,hpos,hbd,one,hrm0,q⟩
 have hs:sizeLine=16777216:=sizeLine_eq
 have wz:=ok.len
 have hl:=ro.len
 refine ⟨rfl,R,U,ws,cs,rfl,ok,hl,?_⟩
 refine fNe_i (ite_b (fun c=>?_) (fun c=>⟨_,.refl,?_⟩))
 · exfalso
   have c1:(!decide (((((ringsI R.toNat ws (onW cs)).map fun r=>PyData.list (r.map .int)).length:Nat):Int)=1))=true:=c
   rw [List.length_map,one] at c1
   cases c1
 have h1:(ringsI R.toNat ws (onW cs)).length=1:=by
  have c1:(!decide (((((ringsI R.toNat ws (onW cs)).map fun r=>PyData.list (r.map .int)).length:Nat):Int)=1))=false:=c
  rw [List.length_map] at c1
  simp at c1
  omega
 refine ⟨room,rfl,?_⟩
 refine ⟨_,rfl,_,_,_,_,rfl,rfl,rfl,⟨rfl,by rw [zipD_len,List.length_map];omega⟩,?_⟩
 rw [zip_wc hl]
 refine cmpW_filterR (fun i=>decide (0<cs.getD i 0)) (fun i=>.int (wayAt ws ((i:Nat):Int)).a) (fun i hi n K h1 h2=>⟨rfl,rfl,ite_b (fun c=>⟨_,rfl,h1 c⟩) h2⟩) ?_
 have em:(((List.range ws.length).filter fun i=>decide (0<cs.getD i 0)).map fun i=>PyData.int (wayAt ws ((i:Nat):Int)).a)=((onW cs).map fun k=>(wayAt ws k).a).map .int:=by
  unfold onW
  rw [hl,List.map_map,List.map_map];rfl
 rw [em]
 refine ⟨rfl,scal_is _,ite_b (fun c=>?_) (fun c=>⟨_,.refl,?_⟩)⟩
 · exfalso
   have c1:(!inD (.int room) (((onW cs).map fun k=>(wayAt ws k).a).map .int))=true:=c
   rw [in_is,decide_eq_true (List.mem_map.mpr hrm0)] at c1
   cases c1
 have hrm:∃ k∈onW cs,(wayAt ws k).a=room:=by
  have c1:(!inD (.int room) (((onW cs).map fun k=>(wayAt ws k).a).map .int))=false:=c
  rw [in_is] at c1
  simp at c1
  exact c1
 refine ⟨Nat.zero_le _,_,.refl,(by show 1≤sizeLine;omega),_,.refl,R,U,ws,cs,rfl,ok,ro,fun ls ts lz lt tk=>⟨_,.refl,?_⟩⟩
 have W0:WkT ws cs room [] [room] [] ts:=wkT_nil tk lt ⟨fun t ht=>tk.ok t ht,fun k hk=>turns_cover hl tk lt hk,(fun t ht=>by cases ht),List.mem_singleton.mpr rfl,noLs_nil,rfl,Nat.zero_le _,by have:=tk.len;rw [List.length_nil];omega⟩
 have hbt:∀ t∈ts,t.2≤10^100:=turn_le hl tk lt hbd
 refine ⟨fun m env n'=>n'=n∧∃ (row:List PyData) (rs:List Int) (dn pd:List (List Int×Int)) (x6 x7:Vl),env=[.d (bookPD R U ws),.d (.tuple (cs.map .int)),.d (.int room),.own row,.own (rs.map .int),.d (.list (pd.map turnPD)),x6,x7]∧WkT ws cs room row rs dn pd∧(∀ t∈pd,t.2≤10^100)∧m=pd.length,⟨_,rfl,[],[room],[],ts,_,_,rfl,W0,hbt,rfl⟩,?_⟩
 rintro m env _ ⟨rfl,row,rs,dn,pd,x6,x7,rfl,W,hpb,rfl⟩
 refine ite_b (fun c=>?_) (fun c=>⟨_,.refl,two_line,?_⟩)
 rotate_left
 · have hpn:pd=[]:=by
    cases pd with
    | nil=>rfl
    | cons _ _=>cases c
   subst hpn
   obtain ⟨ps,rfl,rk⟩:=W.done hpos
   exact q ps rk
 have hpd:pd≠[]:=fun z=>by rw [z] at c;cases c
 obtain ⟨tm,htm,km,hkm,hkr⟩:=meets (R:=R) (U:=U) ok hl h1 W.o.cover (fun t ht=>(W.o.okT t ht).1) W.o.hdn W.o.hr hrm hpd
 refine ⟨Nat.zero_le _,_,.refl,?_⟩
 refine ⟨fun i env n'=>n'=_∧∃ (row':List PyData) (rs':List Int) (dn' lt:List (List Int×Int)) (x7:Vl),env=[.d (bookPD R U ws),.d (.tuple (cs.map .int)),.d (.int room),.own row',.own (rs'.map .int),.d (.list (pd.map turnPD)),.own (lt.map turnPD),x7]∧WkT ws cs room row' rs' dn' (lt++pd.drop i)∧(∀ t∈lt,t.2≤10^100)∧(∀ r∈rs,r∈rs')∧lt.length≤i∧(tm∈pd.take i→lt.length<i),⟨rfl,row,rs,dn,[],x7,rfl,W,(fun t ht=>by cases ht),fun r h=>h,Nat.le_refl _,fun h=>by simp at h⟩,?_,?_⟩
 · rintro i x env _ hx ⟨rfl,row',rs',dn',lt,x7,rfl,W',hlb,hsub,hle,hlt⟩
   rw [List.getElem?_map] at hx
   obtain ⟨t,hti,rfl⟩:=Option.map_eq_some_iff.mp hx
   have hi:=(List.getElem?_eq_some_iff.mp hti).1
   have het:pd[i]=t:=(List.getElem?_eq_some_iff.mp hti).2
   have hdr:pd.drop i=t::pd.drop (i+1):=by rw [List.drop_eq_getElem_cons hi,het]
   have htk:pd.take (i+1)=pd.take i++[t]:=by rw [List.take_succ_eq_append_getElem hi,het]
   rw [hdr] at W'
   obtain ⟨⟨a,sh⟩,hm⟩:=W'.o.okT t (by simp)
   have hsz:=W'.o.sz
   have hct:=W'.o.cnt
   have hln:=W'.o.len
   rw [List.length_append,List.length_cons] at hct
   have htb:t.2≤10^100:=hpb t (List.mem_of_getElem? hti)
   refine ⟨by decide,R,U,ws,cs,rs',t.1,t.2,a,rfl,rfl,rfl,ok,sh,hm,W'.o.no,W'.o.len,by omega,fun hno=>?_,fun j k hk hr=>?_⟩
   · refine ⟨by rw [List.length_map];omega,rfl,row',rs',dn',lt++[t],_,by rw [List.map_append];rfl,?_,?_,hsub,?_,fun h=>?_⟩
     · rw [List.append_assoc];exact W'
     · intro u hu
       rcases List.mem_append.mp hu with hu | hu
       · exact hlb u hu
       · rw [List.mem_singleton.mp hu];exact htb
     · rw [List.length_append,List.length_singleton];omega
     · rw [List.length_append,List.length_singleton]
       rw [htk] at h
       rcases List.mem_append.mp h with h | h
       · have:=hlt h;omega
       · have e:=List.mem_singleton.mp h
         rw [e] at hkm
         exact absurd (hsub _ hkr) (hno km hkm)
   · have Wn:=W'.put ok htb hk hr
     have nsz:=Wn.o.sz
     have nln:=Wn.o.len
     have nct:=Wn.o.cnt
     refine ⟨by show List.length (lyIn _ _ _)≤_;omega,by show List.length (List.map _ _)≤_;rw [List.length_map];omega,rfl,_,_,dn'++[t],lt,_,rfl,Wn,hlb,fun r h=>lyIn_old (hsub r h),by omega,fun _=>by omega⟩
 · rintro env _ ⟨rfl,row',rs',dn',lt,x7,rfl,W',hlb,hsub,hle,hlt⟩
   rw [List.length_map] at W' hle hlt
   rw [List.drop_length,List.append_nil] at W'
   rw [List.take_length] at hlt
   exact ⟨_,.fz 6 _ rfl .refl,lt.length,hlt htm,rfl,row',rs',dn',lt,_,_,rfl,W',hlb,rfl⟩
theorem sc_law_walk:FnScope ["jar","book","most","walk","turn","some"] ["jar","book","most"] (defScope s_law_walk):=⟨rfl,rfl,rfl,by decide +kernel,rfl,by decide +kernel,by decide +kernel⟩
theorem ok_law_walk (T:Txt mg) (D:Def K mg "_law_walk" s_law_walk ["jar","book","most"]) (c__law_pick:Cal P w K mg base "_law_pick" 2 ["jar","many"] (liftV gsPick)) (c__law_from:Cal P w K mg base "_law_from" 1 ["book","room"] (liftN gsFrom)):Cal P w K mg base "_law_walk" 3 ["jar","book","most"] (liftV gsWalkJ):=by
 refine D.cal fun f fd F=>F.ok sc_law_walk (lift_len ?_) (fun cdv A outer s H vs Q E hr h=>?_)
 · rintro as n P ⟨R,U,ws,most,rfl,_⟩
   rfl
 refine ⟨_,(@pss_cons _ _ _ _ _ (@ps_setD _ _ 3 _ _ _ _ sc_law_walk.nd rfl (Or.inl rfl) (pes_lst pas_nil) rfl (Or.inl rfl))
  (@pss_cons _ _ _ _ _ (ps_if (pt_cmpR (op_neD hr.units) (pe_ix ix_tup (pv 1) pe_int (fun _ _=>rfl)) (@PEs.out _ _ _ (pes_tup pas_nil)) (nomark _)) (@pss_one _ _ _ (@ps_setD _ _ 3 _ _ _ _ sc_law_walk.nd rfl (Or.inl rfl) (pes_lst (pas_call (pes_of (pe_c c__law_pick (hr.mono (by decide)) rfl (pa_name (pv 0) (pa_call (pe_callB call_len_seq rfl T.b_len PySem.boot_len (pa_sub (pe_ix ix_tup (pv 1) pe_int (fun _ _=>rfl)) pa_nil)) pa_nil)))) pas_nil)) rfl (Or.inl rfl))) pss_nil)
  (@pss_cons _ _ _ _ _ (ps_for PassesOwn.never rfl (pi_range1 rfl T.b_range (pa_call (pe_c c__law_pick (hr.mono (by decide)) rfl (pa_name (pv 0) (pa_name (pv 2) pa_nil))) pa_nil)) (pg_name (i:=4) sc_law_walk.nd rfl (Or.inl rfl) (Or.inl rfl))
  (@pss_cons _ _ _ _ _ (ps_set (i:=5) sc_law_walk.nd rfl (Or.inl rfl) (pe_ifExp (pt_cmpR (op_eqD hr.units) (pv 3) (@PEs.out _ _ _ (pes_lst pas_nil)) (nomark _)) (@PEs.out _ _ _ (pes_lst pas_nil)) (pe_c c__law_from (hr.mono (by decide)) rfl (pa_name (pv 1) (pa_sub (pe_ix ix_tup (pe_ix ix_tup (pe_ix ix_tup (pv 1) pe_int (fun _ _=>rfl)) (pe_ix ix_list (pv 3) (pe_un un_neg pe_int) (fun _ _=>rfl)) (fun _ _=>rfl)) pe_int (fun _ _=>rfl)) pa_nil)))))
  (@pss_one _ _ _ (ps_if (pt_cmpR (op_neD hr.units) (pv 5) (@PEs.out _ _ _ (pes_lst pas_nil)) (nomark _)) (@pss_one _ _ _ (ps_expr (pe_bm PySem.F.plainAttrs_list PySem.F.slot_list_append PySem.F.type_list_append mt_append (pv 3) (pa_sub (pe_ix ix_list (pv 5) (pe_c c__law_pick (hr.mono (by decide)) rfl (pa_name (pv 0) (pa_call (pe_callB call_len_seq rfl T.b_len PySem.boot_len (pa_name (pv 5) pa_nil)) pa_nil))) (fun _ _=>rfl)) pa_nil)))) pss_nil))))
  (@pss_one _ _ _ (@ps_ret _ _ _ _ (pv 3)))))),lift_body h ?_⟩
 rintro as n P ⟨R,U,ws,most,rfl,ok,hm,q⟩
 have hs:sizeLine=16777216:=sizeLine_eq
 have wz:=ok.len
 refine ⟨rfl,Nat.zero_le _,⟨_,.refl,?_⟩⟩
 refine vseq (fun env k=>k=n∧∃ ns:List Int,env=[.jar,.d (bookPD R U ws),.d (.int most),.own (ns.map .int),.jnk,.jnk]∧InW ws ns∧Chain ws ns∧ns.length≤1) (fun N hN=>?_) ?_
 · refine ⟨_,rfl,Nat.zero_le _,neNilWs (fun hne=>ite_t rfl ?_) (fun he=>ite_f rfl ?_)⟩
   · have wp:0<ws.length:=List.length_pos_iff.mpr hne
     refine ⟨_,rfl,(ws.length:Int),by rw [List.length_map],by omega,small9000 (by omega),fun r r0 r1=>⟨Nat.le_of_ble_eq_true (by rw [hs];rfl),hN _ _ ⟨rfl,[r],rfl,fun k hk=>?_,trivial,Nat.le_refl _⟩⟩⟩
     rw [List.mem_singleton.mp hk]
     exact ⟨r0,r1⟩
   · exact hN _ _ ⟨rfl,[],rfl,(fun k hk=>by cases hk),trivial,Nat.zero_le _⟩
 rintro _ _ ⟨rfl,ns,rfl,hin,hch,hl1⟩
 refine ⟨_,.refl,most,rfl,by omega,small9000 (by omega),fun t t0 t1=>⟨t,rfl,⟨by omega,by omega⟩,?_⟩⟩
 refine ⟨fun i env k=>k=_∧∃ (ns:List Int) (x4 x5:Vl),env=[.jar,.d (bookPD R U ws),.d (.int most),.own (ns.map .int),x4,x5]∧InW ws ns∧Chain ws ns∧ns.length≤i+1,⟨rfl,ns,_,_,rfl,hin,hch,hl1⟩,?_,?_⟩
 · rintro i x env _ hx ⟨rfl,ns,x4,x5,rfl,hin,hch,hl⟩
   have hi:=(List.getElem?_eq_some_iff.mp hx).1
   rw [rngD_len] at hi
   refine ⟨Nat.zero_le _,eqNilI (fun he=>ite_t rfl ⟨Nat.zero_le _,⟨_,.refl,Nat.zero_le _,neNil (ns:=[]) (fun h=>absurd rfl h) (fun _=>ite_f rfl ⟨rfl,ns,_,_,rfl,hin,hch,by omega⟩)⟩⟩) (fun hne=>ite_f rfl ?_)⟩
   obtain ⟨l0,l1⟩:=hin _ (lastI_mem hne)
   refine ⟨_,rfl,_,at_lastD hne,_,at_way l0 l1,_,rfl,R,U,ws,_,rfl,wz,⟨_,.refl,Nat.zero_le _,neNil (fun hf=>ite_t rfl ?_) (fun _=>ite_f rfl ⟨rfl,ns,_,_,rfl,hin,hch,by omega⟩)⟩⟩
   have fz:=fromI_lenV ws (wayAt ws (lastI ns)).b
   have fp:0<(fromI ws (wayAt ws (lastI ns)).b).length:=List.length_pos_iff.mpr hf
   refine ⟨((fromI ws (wayAt ws (lastI ns)).b).length:Int),by rw [← List.length_map (f:=PyData.int)],by omega,small9000 (by omega),fun z z0 z1=>?_⟩
   obtain ⟨k,hka,hkm⟩:=at_ints z0 z1
   obtain ⟨h0,h1,h2⟩:=fromI_mem hkm
   refine ⟨_,hka,by rw [List.length_map];omega,rfl,ns++[k],_,_,by rw [List.map_append];rfl,fun j hj=>?_,chain_add hch (fun _=>h2.symm),by rw [List.length_append,List.length_singleton];omega⟩
   rcases List.mem_append.mp hj with hj | hj
   · exact hin j hj
   · rw [List.mem_singleton.mp hj];exact ⟨h0,h1⟩
 · rintro env _ ⟨rfl,ns,x4,x5,rfl,hin,hch,hl⟩
   rw [rngD_len] at hl
   exact ⟨_,.fz 3 _ rfl .refl,q ns hin hch (by omega)⟩
theorem sc_law_closed:FnScope ["jar","book","most","walk","back"] ["jar","book","most"] (defScope s_law_closed):=⟨rfl,rfl,rfl,by decide +kernel,rfl,by decide +kernel,by decide +kernel⟩
theorem ok_law_closed (T:Txt mg) (D:Def K mg "_law_closed" s_law_closed ["jar","book","most"]) (c__law_walk:Cal P w K mg base "_law_walk" 3 ["jar","book","most"] (liftV gsWalkJ)) (c__law_back:Cal P w K mg base "_law_back" 2 ["book","first","last"] (liftV gsBack)):Cal P w K mg base "_law_closed" 4 ["jar","book","most"] (liftV gsClosed):=by
 refine D.cal fun f fd F=>F.ok sc_law_closed (lift_len ?_) (fun cdv A outer s H vs Q E hr h=>?_)
 · rintro as n P ⟨R,U,ws,most,rfl,_⟩
   rfl
 refine ⟨_,(@pss_cons _ _ _ _ _ (ps_set (i:=3) sc_law_closed.nd rfl (Or.inl rfl) (pe_c c__law_walk (hr.mono (by decide)) rfl (pa_name (pv 0) (pa_name (pv 1) (pa_name (pv 2) pa_nil)))))
  (@pss_cons _ _ _ _ _ (ps_if (pt_cmpR (op_eqD hr.units) (pv 3) (@PEs.out _ _ _ (pes_lst pas_nil)) (nomark _)) (@pss_one _ _ _ (@ps_ret _ _ _ _ (@PEs.out _ _ _ (pes_lst pas_nil)))) pss_nil)
  (@pss_cons _ _ _ _ _ (ps_set (i:=4) sc_law_closed.nd rfl (Or.inl rfl) (pe_c c__law_back (hr.mono (by decide)) rfl (pa_name (pv 1) (pa_sub (pe_ix ix_tup (pe_ix ix_tup (pe_ix ix_tup (pv 1) pe_int (fun _ _=>rfl)) (pe_ix ix_list (pv 3) (pe_un un_neg pe_int) (fun _ _=>rfl)) (fun _ _=>rfl)) pe_int (fun _ _=>rfl)) (pa_sub (pe_ix ix_tup (pe_ix ix_tup (pe_ix ix_tup (pv 1) pe_int (fun _ _=>rfl)) (pe_ix ix_list (pv 3) pe_int (fun _ _=>rfl)) (fun _ _=>rfl)) pe_int (fun _ _=>rfl)) pa_nil)))))
  (@pss_one _ _ _ (@ps_ret _ _ _ _ (pe_ifExp (pt_cmpR op_isN (pv 4) pe_non (nomark _)) (@PEs.out _ _ _ (pes_lst pas_nil)) (pe_op op_cat (pv 3) (pv 4)))))))),lift_body h ?_⟩
 rintro as n P ⟨R,U,ws,most,rfl,ok,hm,q⟩
 have hs:sizeLine=16777216:=sizeLine_eq
 refine ⟨rfl,R,U,ws,most,rfl,ok,hm,fun ns hin hch hlen=>⟨_,.refl,Nat.zero_le _,eqNilI (fun he=>ite_t rfl ⟨Nat.zero_le _,?_⟩) (fun hne=>ite_f rfl ?_)⟩⟩
 · exact q [] (fun k hk=>by cases hk) (.inl rfl) (by show (0:Int)≤_;omega)
 obtain ⟨k0,rest,rfl⟩:∃ k0 rest,ns=k0::rest:=by
  cases ns with
  | nil=>exact absurd rfl hne
  | cons a b=>exact ⟨a,b,rfl⟩
 have pth:=chain_pth hch hin
 obtain ⟨l0,l1⟩:=hin _ (lastI_mem hne)
 obtain ⟨f0,f1⟩:=hin k0 List.mem_cons_self
 have wok:=ok.ways _ (wayAt_mem' l0 l1)
 refine ⟨_,.refl,_,rfl,_,at_lastD hne,_,at_way l0 l1,_,rfl,_,rfl,_,at_zero,_,at_way f0 f1,_,rfl,R,U,ws,_,_,rfl,ok,⟨wok.b0,wok.b1⟩,⟨_,.refl,rfl,ite_t rfl ⟨Nat.zero_le _,?_⟩⟩,fun bs hp hb=>⟨_,.refl,rfl,ite_f rfl ⟨?_,?_⟩⟩⟩
 · exact q [] (fun k hk=>by cases hk) (.inl rfl) (by show (0:Int)≤_;omega)
 · rw [List.length_map,List.length_map];omega
 · rw [← List.map_append]
   have pp:=pth.app hp
   refine q _ (fun k hk=>?_) (.inr ⟨_,pp⟩) (by rw [List.length_append];omega)
   exact pp.inW k hk
theorem sc_law_counts:FnScope ["book","walks","found","many","walk","k"] ["book","walks"] (defScope s_law_counts):=⟨rfl,rfl,rfl,by decide +kernel,rfl,by decide +kernel,by decide +kernel⟩
theorem ok_law_counts (T:Txt mg) (D:Def K mg "_law_counts" s_law_counts ["book","walks"]):Cal P w K mg base "_law_counts" 1 ["book","walks"] (liftV gsCountsE):=by
 refine D.cal fun f fd F=>F.ok sc_law_counts (lift_len ?_) (fun cdv A outer s H vs Q E hr h=>?_)
 · rintro as n P ⟨R,U,ws,ks,rfl,_⟩
   rfl
 refine ⟨_,(@pss_cons _ _ _ _ _ (ps_set (i:=2) sc_law_counts.nd rfl (Or.inl rfl) (pe_op op_rep (@PEs.out _ _ _ (pes_lst (pas_const pes_int pas_nil))) (pe_callB call_len_seq rfl T.b_len PySem.boot_len (pa_sub (pe_ix ix_tup (pv 0) pe_int (fun _ _=>rfl)) pa_nil))))
  (@pss_cons _ _ _ _ _ (ps_for PassesOwn.never rfl (pi_list (pv 1)) (pg_pair (K':=K) (i:=3) (j:=4) rfl sc_law_counts.nd ⟨rfl,(Or.inl rfl),(Or.inl rfl)⟩ ⟨rfl,(Or.inl rfl),(Or.inl rfl)⟩ rfl)
  (@pss_one _ _ _ (ps_for PassesOwn.never rfl (pi_list (pv 4)) (pg_name (i:=5) sc_law_counts.nd rfl (Or.inl rfl) (Or.inl rfl))
  (@pss_one _ _ _ (ps_asg (pe_op op_add (pe_ix ix_list (pv 2) (pv 5) (fun _ _=>rfl)) (pv 3)) (pg_sub (pv 2) (pv 5) set_list (fun v=>assign_sub_name _ _ _ _ _ v)))))))
  (@pss_one _ _ _ (@ps_ret _ _ _ _ (pe_callTy call_tuple_of rfl T.b_tuple boot_tuple (pa_name (pv 2) pa_nil)))))),lift_body h ?_⟩
 rintro as n P ⟨R,U,ws,wk,rfl,ok,hk,q⟩
 have hs:sizeLine=16777216:=sizeLine_eq
 have wz:=ok.len
 have hz:((ws.map wayPD).length:Int).toNat=ws.length:=by rw [List.length_map];exact Int.toNat_natCast _
 refine ⟨rfl,Nat.le_of_ble_eq_true (by rw [hs];rfl),_,rfl,⟨⟨by omega,by rw [List.length_map];omega,by rw [hz,hs];show 1*ws.length≤_;omega⟩,?_⟩⟩
 rw [hz,flat_rep1,← cnt_nil]
 refine ⟨_,.refl,fun i env n'=>n'=n∧∃ (x3 x4 x5:Vl),env=[.d (bookPD R U ws),.d (.list (wk.map wkD)),.own ((cntsI ws (wk.take i)).map .int),x3,x4,x5],⟨rfl,_,_,_,rfl⟩,?_,?_⟩
 · rintro i x env _ hx ⟨rfl,x3,x4,x5,rfl⟩
   rw [List.getElem?_map] at hx
   obtain ⟨p,hpi,rfl⟩:=Option.map_eq_some_iff.mp hx
   have hpk:=hk p (List.mem_of_getElem? hpi)
   have hi:=(List.getElem?_eq_some_iff.mp hpi).1
   have he:wk[i]=p:=(List.getElem?_eq_some_iff.mp hpi).2
   have hnx:cntsI ws (wk.take (i+1))=lsub (cntsI ws (wk.take i)) p.2 (-p.1):=by rw [List.take_succ_eq_append_getElem hi,he,cnts_snoc]
   have hcl:=cnts_len ws (wk.take i)
   obtain ⟨cs,ecs⟩:∃ cs,cs=cntsI ws (wk.take i):=⟨_,rfl⟩
   rw [← ecs] at hnx hcl ⊢
   refine ⟨rfl,rfl,fun i env n'=>n'=_∧∃ (x5:Vl),env=[.d (bookPD R U ws),.d (.list (wk.map wkD)),.own ((lsub cs (p.2.take i) (-p.1)).map .int),.d (.int p.1),.d (lstI p.2),x5],⟨rfl,_,by rw [List.take_zero,lsub_nil];rfl⟩,?_,?_⟩
   · rintro i x env _ hx ⟨rfl,x5,rfl⟩
     rw [List.getElem?_map] at hx
     obtain ⟨k,hki,rfl⟩:=Option.map_eq_some_iff.mp hx
     obtain ⟨k0,k1⟩:=hpk k (List.mem_of_getElem? hki)
     refine ⟨_,at_ls k0 (by rw [lsub_len];omega),_,ixN_of k0 (by rw [List.length_map,lsub_len];omega),rfl,.d (.int k),?_⟩
     show [_,_,Vl.own (((lsub cs (p.2.take i) (-p.1)).map PyData.int).set k.toNat (.int ((lsub cs (p.2.take i) (-p.1)).getD k.toNat 0+p.1))),_,_,_]=_
     have e:=lsub_snoc (ls:=cs) (ks:=p.2.take i) (m:=-p.1) k0 (by omega)
     rw [Int.sub_neg] at e
     rw [← List.map_set,e,← take_snoc hki]
   · rintro env _ ⟨rfl,x5,rfl⟩
     exact ⟨rfl,.d (.int p.1),.d (lstI p.2),x5,by rw [List.length_map,List.take_length,hnx]⟩
 · rintro env _ ⟨rfl,x3,x4,x5,rfl⟩
   rw [List.length_map,List.take_length]
   exact ⟨_,.fz 2 _ rfl .refl,q⟩
theorem sc_law_hung:FnScope ["jar","book","most","often","walk","walks","again","rooms","many","one","here","some","more","back"] ["jar","book","most","often"] (defScope s_law_hung):=⟨rfl,rfl,rfl,by decide +kernel,rfl,by decide +kernel,by decide +kernel⟩
theorem ok_law_hung (T:Txt mg) (D:Def K mg "_law_hung" s_law_hung ["jar","book","most","often"]) (c__law_pick:Cal P w K mg base "_law_pick" 2 ["jar","many"] (liftV gsPick)) (c__law_closed:Cal P w K mg base "_law_closed" 4 ["jar","book","most"] (liftV gsClosed)) (c__law_from:Cal P w K mg base "_law_from" 1 ["book","room"] (liftN gsFrom)) (c__law_back:Cal P w K mg base "_law_back" 2 ["book","first","last"] (liftV gsBack)) (c__law_counts:Cal P w K mg base "_law_counts" 1 ["book","walks"] (liftV gsCountsE)):Cal P w K mg base "_law_hung" 5 ["jar","book","most","often"] (liftV gsHung):=by
 refine D.cal fun f fd F=>F.ok sc_law_hung (lift_len ?_) (fun cdv A outer s H vs Q E hr h=>?_)
 · rintro as n P ⟨R,U,ws,often,rfl,_⟩
   rfl
 refine ⟨_,(@pss_cons _ _ _ _ _ (ps_set (i:=4) sc_law_hung.nd rfl (Or.inl rfl) (pe_c c__law_closed (hr.mono (by decide)) rfl (pa_name (pv 0) (pa_name (pv 1) (pa_name (pv 2) pa_nil)))))
  (@pss_cons _ _ _ _ _ (@ps_setD _ _ 5 _ _ _ _ sc_law_hung.nd rfl (Or.inl rfl) (pes_lst (pas_tuple (pes_tup (pas_binop (pes_of (pe_op op_add pe_int (pe_c c__law_pick (hr.mono (by decide)) rfl (pa_name (pv 0) (pa_name (pv 3) pa_nil))))) (pas_name (pes_of (pv 4)) pas_nil))) pas_nil)) rfl (Or.inl rfl))
  (@pss_cons _ _ _ _ _ (ps_for PassesOwn.never rfl (pi_range1 rfl T.b_range (pa_binop (pe_op op_mul (pe_c c__law_pick (hr.mono (by decide)) rfl (pa_name (pv 0) (pa_const pe_int pa_nil))) (pe_callTy call_int1 rfl T.b_int boot_int (pa_cmp (pe_cmpR (op_neD hr.units) (pv 4) (@PEs.out _ _ _ (pes_lst pas_nil)) (nomark _)) pa_nil))) pa_nil)) (pg_name (i:=6) sc_law_hung.nd rfl (Or.inl rfl) (Or.inl rfl))
  (@pss_cons _ _ _ _ _ (@ps_setD _ _ 7 _ _ _ _ sc_law_hung.nd rfl (Or.inl rfl) (pes_lst pas_nil) rfl (Or.inl rfl))
  (@pss_cons _ _ _ _ _ (ps_for PassesOwn.never rfl (pi_list (pv 5)) (pg_pair (K':=K) (i:=8) (j:=9) rfl sc_law_hung.nd ⟨rfl,(Or.inl rfl),(Or.inl rfl)⟩ ⟨rfl,(Or.inl rfl),(Or.inl rfl)⟩ rfl)
  (@pss_one _ _ _ (ps_set (i:=7) sc_law_hung.nd rfl (Or.inl rfl) (pe_op op_cat (pv 7) (pe_comp (sc:=(defScope s_law_hung)) (N:=["jar","book","most","often","walk","walks","again","rooms","many","one","here","some","more","back"]) (N':=["k","book"]) (k:=1) (idx:=[1]) rfl (by exact ⟨rfl,by decide +kernel,by decide +kernel,by decide +kernel,by decide +kernel,by decide +kernel,rfl,rfl⟩) rfl rfl (pi_list (pv 9)) (fun _ _ _ _=>(pg_name (i:=0) (show (["k","book"]:List Str).Nodup by decide +kernel) rfl (Or.inl rfl) (Or.inr rfl))) (fun _ _ _ _=>pts_nil) (fun _ _ _ _=>(pe_ix (ix_tupK (K':=K) rfl) (pe_ix (ix_tupK (K':=K) rfl) (pe_ix (ix_tupK (K':=K) rfl) (pv 1) pe_int (fun _ _=>rfl)) (pv 0) (fun _ _=>rfl)) pe_int (fun _ _=>rfl))))))))
  (@pss_cons _ _ _ _ _ (ps_set (i:=10) sc_law_hung.nd rfl (Or.inl rfl) (pe_ix ix_list (pv 7) (pe_c c__law_pick (hr.mono (by decide)) rfl (pa_name (pv 0) (pa_call (pe_callB call_len_seq rfl T.b_len PySem.boot_len (pa_name (pv 7) pa_nil)) pa_nil))) (fun _ _=>rfl)))
  (@pss_cons _ _ _ _ _ (ps_set (i:=11) sc_law_hung.nd rfl (Or.inl rfl) (pe_c c__law_from (hr.mono (by decide)) rfl (pa_name (pv 1) (pa_name (pv 10) pa_nil))))
  (@pss_cons _ _ _ _ _ (@ps_setD _ _ 12 _ _ _ _ sc_law_hung.nd rfl (Or.inl rfl) (pes_lst (pas_sub (pes_of (pe_ix ix_list (pv 11) (pe_c c__law_pick (hr.mono (by decide)) rfl (pa_name (pv 0) (pa_call (pe_callB call_len_seq rfl T.b_len PySem.boot_len (pa_name (pv 11) pa_nil)) pa_nil))) (fun _ _=>rfl))) pas_nil)) rfl (Or.inl rfl))
  (@pss_cons _ _ _ _ _ (ps_set (i:=13) sc_law_hung.nd rfl (Or.inl rfl) (pe_c c__law_back (hr.mono (by decide)) rfl (pa_name (pv 1) (pa_sub (pe_ix ix_tup (pe_ix ix_tup (pe_ix ix_tup (pv 1) pe_int (fun _ _=>rfl)) (pe_ix ix_list (pv 12) pe_int (fun _ _=>rfl)) (fun _ _=>rfl)) pe_int (fun _ _=>rfl)) (pa_name (pv 10) pa_nil)))))
  (@pss_one _ _ _ (ps_if (pt_cmpR op_notN (pv 13) pe_non (nomark _)) (@pss_one _ _ _ (ps_expr (pe_bm PySem.F.plainAttrs_list PySem.F.slot_list_append PySem.F.type_list_append mt_append (pv 5) (pa_tuple (@PEs.out _ _ _ (pes_tup (pas_binop (pes_of (pe_op op_add pe_int (pe_c c__law_pick (hr.mono (by decide)) rfl (pa_name (pv 0) (pa_name (pv 3) pa_nil))))) (pas_binop (pes_of (pe_op op_cat (pv 12) (pv 13))) pas_nil)))) pa_nil)))) pss_nil)))))))))
  (@pss_one _ _ _ (@ps_ret _ _ _ _ (pe_c c__law_counts (hr.mono (by decide)) rfl (pa_name (pv 1) (pa_name (pv 5) pa_nil)))))))),lift_body h ?_⟩
 rintro as n P ⟨R,U,ws,often,rfl,ok,ho,q⟩
 have hs:sizeLine=16777216:=sizeLine_eq
 have wz:=ok.len
 have hbig:often<2^9000:=Int.lt_of_le_of_lt ho.2 (by decide +kernel)
 refine ⟨rfl,R,U,ws,8,rfl,ok,⟨by decide,by decide⟩,fun ns hin hcl hlen=>⟨_,.refl,?_⟩⟩
 refine ⟨often,rfl,by omega,hbig,fun r r0 r1=>⟨two_line,Nat.le_of_ble_eq_true (by rw [hs];rfl),_,.refl,?_⟩⟩
 have I0:HungI ws often [(1+r,ns)]:=hung_one ⟨by omega,by omega⟩ hin hcl (by omega)
 refine ⟨4,rfl,by decide,by decide +kernel,fun t t0 t1=>?_⟩
 have tm:∀ b:Bool,CMul t (if b=true then 1 else 0):=fun b=>.inl ⟨by omega,by omega⟩
 refine ⟨Nat.zero_le _,neNil (fun hne=>⟨tm true,?_⟩) (fun he=>⟨tm false,?_⟩)⟩
 rotate_left
 · refine ⟨0,by rw [show t*(if false=true then 1 else 0)=0 from Int.mul_zero t],⟨by decide,by decide⟩,fun i env n'=>n'=n∧env=[.jar,.d (bookPD R U ws),.d (.int 8),.d (.int often),.d (lstI ns),.own ([(1+r,ns)].map wkD),.jnk,.jnk,.jnk,.jnk,.jnk,.jnk,.jnk,.jnk],⟨rfl,rfl⟩,?_,?_⟩
   · rintro i x env _ hx _
     cases hx
   · rintro env _ ⟨rfl,rfl⟩
     exact ⟨_,.fz 5 _ rfl .refl,R,U,ws,[(1+r,ns)],rfl,ok,(fun p hp=>by rw [List.mem_singleton.mp hp];exact hin),q _ (HungI.done (R:=R) (U:=U) ok ⟨I0.clo,fun p hp=>⟨by have:=(I0.bd p hp).1;omega,(I0.bd p hp).2⟩,I0.con⟩ (by rw [List.length_singleton];decide))⟩
 obtain ⟨k0,hk0⟩:∃ k,k∈ns:=by
  cases ns with
  | nil=>exact absurd rfl hne
  | cons k _=>exact ⟨k,List.mem_cons_self⟩
 refine ⟨t,by rw [show t*(if true=true then 1 else 0)=t from Int.mul_one t],⟨by omega,by omega⟩,fun i env n'=>n'=n∧∃ (wk:List (Int×List Int)) (x6 x7 x8 x9 x10 x11 x12 x13:Vl),env=[.jar,.d (bookPD R U ws),.d (.int 8),.d (.int often),.d (lstI ns),.own (wk.map wkD),x6,x7,x8,x9,x10,x11,x12,x13]∧HungI ws often wk∧wk.length≤i+1∧k0∈allK wk,⟨rfl,[(1+r,ns)],_,_,_,_,_,_,_,_,rfl,I0,Nat.le_refl _,allK_mem.mpr ⟨_,List.mem_singleton.mpr rfl,hk0⟩⟩,?_,?_⟩
 rotate_left
 · rintro env _ ⟨rfl,wk,x6,x7,x8,x9,x10,x11,x12,x13,rfl,I,wl,_⟩
   rw [rngD_len] at wl
   exact ⟨_,.fz 5 _ rfl .refl,R,U,ws,wk,rfl,ok,fun p hp=>(I.clo p hp).2.1,q _ (HungI.done (R:=R) (U:=U) ok ⟨I.clo,fun p hp=>⟨by have:=(I.bd p hp).1;omega,(I.bd p hp).2⟩,I.con⟩ (by omega))⟩
 rintro i x env _ hx ⟨rfl,wk,x6,x7,x8,x9,x10,x11,x12,x13,rfl,I,wl,hk⟩
 have hi:=(List.getElem?_eq_some_iff.mp hx).1
 rw [rngD_len] at hi
 have wl4:wk.length≤3:=by omega
 refine ⟨Nat.zero_le _,_,.refl,by decide,by decide,fun k env n'=>n'=_∧∃ x8 x9:Vl,env=[.jar,.d (bookPD R U ws),.d (.int 8),.d (.int often),.d (lstI ns),.own (wk.map wkD),.d x,.own (((allK (wk.take k)).map fun k=>(wayAt ws k).a).map .int),x8,x9,x10,x11,x12,x13],⟨rfl,_,_,rfl⟩,?_,?_,?_⟩
 · rintro k env _ ⟨rfl,x8,x9,rfl⟩
   rfl
 · rintro k y env _ hy ⟨rfl,x8,x9,rfl⟩
   rw [List.getElem?_map] at hy
   obtain ⟨p,hpi,rfl⟩:=Option.map_eq_some_iff.mp hy
   have hin':=(I.clo p (List.mem_of_getElem? hpi)).2.1
   have hkt:=allK_take hpi
   have hl1:=allK_len (wk:=wk.take k) fun p hp=>(I.bd p (List.mem_of_mem_take hp)).2
   rw [List.length_take] at hl1
   have hl2:=(I.bd p (List.mem_of_getElem? hpi)).2
   refine ⟨rfl,rfl,⟨rfl,by rw [List.length_map];omega⟩,?_⟩
   refine cmpW_map (fun d=>match d with | .int k=>.int (wayAt ws k).a | d=>d) (fun x hx n K hK=>?_) ?_
   · obtain ⟨k,hk,rfl⟩:=List.mem_map.mp hx
     obtain ⟨k0,k1⟩:=hin' k hk
     exact iteT ⟨_,rfl,_,at_way k0 k1,_,rfl,hK⟩
   · refine ⟨by rw [List.length_map,List.length_map,List.length_map,List.length_map];omega,rfl,.d (.int p.1),.d (lstI p.2),?_⟩
     rw [hkt,List.map_append,List.map_append,List.map_map (l:=p.2),List.map_map (l:=p.2)]
     rfl
 rintro env _ ⟨rfl,x8,x9,rfl⟩
 rw [List.length_map,List.take_length]
 have hl1:=allK_len fun p hp=>(I.bd p hp).2
 have hlp:0<(allK wk).length:=List.length_pos_iff.mpr fun z=>by rw [z] at hk;cases hk
 refine ⟨_,.refl,((allK wk).length:Int),by rw [List.length_map,List.length_map],by omega,small9000 (by omega),fun z z0 z1=>?_⟩
 obtain ⟨kz,hkz,ez⟩:∃ kz∈allK wk,atI (((allK wk).map fun k=>(wayAt ws k).a).map PyData.int) z=some (.int (wayAt ws kz).a):=by
  obtain ⟨a,e,ha⟩:=at_ints (ns:=(allK wk).map fun k=>(wayAt ws k).a) z0 (by rw [List.length_map];exact z1)
  obtain ⟨kz,hkz,rfl⟩:=List.mem_map.mp ha
  exact ⟨kz,hkz,e⟩
 obtain ⟨p,hp,hkp⟩:=allK_mem.mp hkz
 obtain ⟨kz0,kz1⟩:=(I.clo p hp).2.1 kz hkp
 refine ⟨_,ez,_,.refl,R,U,ws,_,rfl,wz,_,.refl,?_⟩
 have hf:=from_self kz0 kz1
 have fz:=fromI_lenV ws (wayAt ws kz).a
 have fp:0<(fromI ws (wayAt ws kz).a).length:=List.length_pos_iff.mpr hf
 refine ⟨((fromI ws (wayAt ws kz).a).length:Int),by rw [← List.length_map (f:=PyData.int)],by omega,small9000 (by omega),fun y y0 y1=>?_⟩
 obtain ⟨k,hka,hkm⟩:=at_ints y0 y1
 obtain ⟨h0,h1,h2⟩:=fromI_mem hkm
 have wok:=ok.ways _ (wayAt_mem' h0 h1)
 refine ⟨_,hka,Nat.le_of_ble_eq_true (by rw [hs];rfl),_,.refl,?_⟩
 refine ⟨_,rfl,_,at_zero,_,at_way h0 h1,_,rfl,R,U,ws,_,_,rfl,ok,⟨wok.b0,wok.b1⟩,⟨_,.refl,rfl,ite_f rfl ⟨rfl,wk,_,_,_,_,_,_,_,_,rfl,I,by omega,hk⟩⟩,fun bs hp hb=>⟨_,.refl,rfl,ite_t rfl ?_⟩⟩
 refine ⟨often,rfl,by omega,hbig,fun u u0 u1=>?_⟩
 have hpp:Pth ws (wayAt ws kz).a (k::bs) (wayAt ws kz).a:=⟨⟨h0,h1⟩,h2,hp⟩
 have In:=I.add (m:=1+u) (ns:=k::bs) ⟨by omega,by omega⟩ hkz hpp (by rw [List.length_cons];omega)
 refine ⟨by rw [List.length_map];show 1+bs.length≤_;omega,two_line,by rw [List.length_map];omega,rfl,wk++[(1+u,k::bs)],_,_,_,_,_,_,_,_,by rw [List.map_append];rfl,In,by rw [List.length_append,List.length_singleton];omega,?_⟩
 obtain ⟨p',hp',hkp'⟩:=allK_mem.mp hk
 exact allK_mem.mpr ⟨p',List.mem_append_left _ hp',hkp'⟩
theorem sc_law_told_counts:FnScope ["book","told","found","inner","part","total"] ["book","told"] (defScope s_law_told_counts):=⟨rfl,rfl,rfl,by decide +kernel,rfl,by decide +kernel,by decide +kernel⟩
theorem ok_law_told_counts (T:Txt mg) (D:Def K mg "_law_told_counts" s_law_told_counts ["book","told"]) (c__law_counts:Cal P w K mg base "_law_counts" 1 ["book","walks"] (liftV gsCountsE)):∀ m:Nat,Cal P w K mg base "_law_told_counts" (m+2) ["book","told"] (liftV (gsToldC m)):=by
 have hs:sizeLine=16777216:=sizeLine_eq
 intro m
 induction m with
 | zero=>
  refine D.cal fun f fd F=>F.ok sc_law_told_counts (lift_len ?_) (fun cdv A outer s H vs Q E hr h=>?_)
  · rintro as n P ⟨R,U,ws,d,f,rfl,_⟩
    rfl
  refine ⟨_,(@pss_cons _ _ _ _ _ (ps_set (i:=2) sc_law_told_counts.nd rfl (Or.inl rfl) pe_non)
   (@pss_cons _ _ _ _ _ (ps_if (pt_cmpR op_eq (pe_ix ix_tup (pv 1) pe_int (fun _ _=>rfl)) pe_str (nomark _)) (@pss_one _ _ _ (@ps_setD _ _ 2 _ _ _ _ sc_law_told_counts.nd rfl (Or.inl rfl) (pes_tup (pas_call (pes_of (pe_c c__law_counts (hr.mono (by decide)) rfl (pa_name (pv 0) (pa_list (@PEs.out _ _ _ (pes_lst (pas_tuple (pes_tup (pas_const pes_int (pas_list (pes_lst (pas_sub (pes_of (pe_ix ix_tup (pv 1) pe_int (fun _ _=>rfl))) pas_nil)) pas_nil))) pas_nil))) pa_nil)))) (pas_sub (pes_of (pe_slice sl_tup (pe_ix ix_tup (pe_ix ix_tup (pv 0) pe_int (fun _ _=>rfl)) (pe_ix ix_tup (pv 1) pe_int (fun _ _=>rfl)) (fun _ _=>rfl)) po_none (po_some pe_int))) pas_nil))) rfl (Or.inl rfl))) (@pss_one _ _ _ (ps_if (pt_cmpR op_eq (pe_ix ix_tup (pv 1) pe_int (fun _ _=>rfl)) pe_str (nomark _)) pss_never pss_never)))
   (@pss_one _ _ _ (@ps_ret _ _ _ _ (pv 2))))),lift_body h ?_⟩
  rintro as n P ⟨R,U,ws,d,f,rfl,ok,⟨k,h0,h1,rfl,rfl⟩,hm,q⟩
  rw [unit_len] at h1
  refine ⟨rfl,_,.refl,_,at_zero,fEq_t (iteT ⟨_,rfl,small4 (Nat.le_of_ble_eq_true rfl),two_line,small4 (Nat.le_of_ble_eq_true rfl),?_⟩)⟩
  refine ⟨R,U,ws,[(1,[k])],rfl,ok,(fun p hp j hj=>by rw [List.mem_singleton.mp hp] at hj;rw [List.mem_singleton.mp hj];exact ⟨h0,h1⟩),?_⟩
  refine ⟨_,rfl,_,rfl,_,at_way h0 h1,nsl2,two_line,_,.refl,?_⟩
  have e:PyData.tuple [.tuple ((cntsI ws [(1,[k])]).map .int),.tuple [.int (wayAt ws k).a,.int (wayAt ws k).b]]=cntT ws (faWay (wayAt (unitW ws) k)):=by
   rw [cnts_one h0 h1,unit_at h0 h1];rfl
  rw [← e] at q
  exact q
 | succ m c__law_told_counts=>
  refine D.cal fun f fd F=>F.ok sc_law_told_counts (lift_len ?_) (fun cdv A outer s H vs Q E hr h=>?_)
  · rintro as n P ⟨R,U,ws,d,f,rfl,_⟩
    rfl
  refine ⟨_,(@pss_cons _ _ _ _ _ (ps_set (i:=2) sc_law_told_counts.nd rfl (Or.inl rfl) pe_non)
   (@pss_cons _ _ _ _ _ (ps_if (pt_cmpR op_eq (pe_ix ix_tup (pv 1) pe_int (fun _ _=>rfl)) pe_str (nomark _)) (@pss_one _ _ _ (@ps_setD _ _ 2 _ _ _ _ sc_law_told_counts.nd rfl (Or.inl rfl) (pes_tup (pas_call (pes_of (pe_c c__law_counts (hr.mono (by omega)) rfl (pa_name (pv 0) (pa_list (@PEs.out _ _ _ (pes_lst (pas_tuple (pes_tup (pas_const pes_int (pas_list (pes_lst (pas_sub (pes_of (pe_ix ix_tup (pv 1) pe_int (fun _ _=>rfl))) pas_nil)) pas_nil))) pas_nil))) pa_nil)))) (pas_sub (pes_of (pe_slice sl_tup (pe_ix ix_tup (pe_ix ix_tup (pv 0) pe_int (fun _ _=>rfl)) (pe_ix ix_tup (pv 1) pe_int (fun _ _=>rfl)) (fun _ _=>rfl)) po_none (po_some pe_int))) pas_nil))) rfl (Or.inl rfl))) (@pss_one _ _ _ (ps_if (pt_cmpR op_eq (pe_ix ix_tup (pv 1) pe_int (fun _ _=>rfl)) pe_str (nomark _)) (@pss_cons _ _ _ _ _ (ps_set (i:=3) sc_law_told_counts.nd rfl (Or.inl rfl) (pe_c c__law_told_counts (hr.mono (by omega)) rfl (pa_name (pv 0) (pa_sub (pe_ix ix_tup (pv 1) pe_int (fun _ _=>rfl)) pa_nil))))
   (@pss_one _ _ _ (ps_if (PW.pt (pw_and (pt_cmpR op_notN (pv 3) pe_non (nomark _)) (pw_and1 (PW.pt (pw_or (pt_cmpR (op_eqD hr.units) (pe_ix ix_tup (pv 1) pe_int (fun _ _=>rfl)) pe_int (nomark _)) (pw_or1 (PW.pt (pw_and (pt_cmpR op_gt (pe_ix ix_tup (pv 1) pe_int (fun _ _=>rfl)) pe_int (nomark _)) (pw_and1 (pt_cmpR op_eq (pe_ix ix_tup (pe_ix ix_tup (pv 3) pe_int (fun _ _=>rfl)) pe_int (fun _ _=>rfl)) (pe_ix ix_tup (pe_ix ix_tup (pv 3) pe_int (fun _ _=>rfl)) pe_int (fun _ _=>rfl)) (nomark _))))))))))) (@pss_one _ _ _ (@ps_setD _ _ 2 _ _ _ _ sc_law_told_counts.nd rfl (Or.inl rfl) (pes_tup (pas_call (pes_of (pe_callTy call_tuple_of rfl T.b_tuple boot_tuple (pa_comp (pe_comp (sc:=(defScope s_law_told_counts)) (N:=["book","told","found","inner","part","total"]) (N':=["many","told"]) (k:=1) (idx:=[1]) rfl (by exact ⟨rfl,by decide +kernel,by decide +kernel,by decide +kernel,by decide +kernel,by decide +kernel,rfl,rfl⟩) rfl rfl (pi_tup (pe_ix ix_tup (pv 3) pe_int (fun _ _=>rfl))) (fun _ _ _ _=>(pg_name (i:=0) (show (["many","told"]:List Str).Nodup by decide +kernel) rfl (Or.inl rfl) (Or.inr rfl))) (fun _ _ _ _=>pts_nil) (fun _ _ _ _=>(pe_op op_mulB (pe_ix (ix_tupK (K':=K) rfl) (pv 1) pe_int (fun _ _=>rfl)) (pv 0)))) pa_nil))) (pas_sub (pes_of (pe_ix ix_tup (pv 3) pe_int (fun _ _=>rfl))) pas_nil))) rfl (Or.inl rfl))) pss_nil))) (@pss_one _ _ _ (ps_for PassesOwn.never rfl (pi_tup (pe_ix ix_tup (pv 1) pe_int (fun _ _=>rfl))) (pg_name (i:=4) sc_law_told_counts.nd rfl (Or.inl rfl) (Or.inl rfl))
   (@pss_cons _ _ _ _ _ (ps_set (i:=3) sc_law_told_counts.nd rfl (Or.inl rfl) (pe_c c__law_told_counts (hr.mono (by omega)) rfl (pa_name (pv 0) (pa_name (pv 4) pa_nil))))
   (@pss_cons _ _ _ _ _ (ps_if (PW.pt (pw_or (pt_cmpR op_isN (pv 3) pe_non (nomark _)) (pw_or1 (PW.pt (pw_and (pt_cmpR op_notN (pv 2) pe_non (nomark _)) (pw_and1 (pt_cmpR op_ne (pe_ix ix_tup (pe_ix ix_tup (pv 2) pe_int (fun _ _=>rfl)) pe_int (fun _ _=>rfl)) (pe_ix ix_tup (pe_ix ix_tup (pv 3) pe_int (fun _ _=>rfl)) pe_int (fun _ _=>rfl)) (nomark _)))))))) (@pss_one _ _ _ (@ps_ret _ _ _ _ pe_non)) pss_nil)
   (@pss_one _ _ _ (ps_if (pt_cmpR op_isN (pv 2) pe_non (nomark _)) (@pss_one _ _ _ (ps_set (i:=2) sc_law_told_counts.nd rfl (Or.inl rfl) (pv 3))) (@pss_cons _ _ _ _ _ (ps_set (i:=5) sc_law_told_counts.nd rfl (Or.inl rfl) (pe_callTy call_tuple_of rfl T.b_tuple boot_tuple (pa_comp (pe_comp (sc:=(defScope s_law_told_counts)) (N:=["book","told","found","inner","part","total"]) (N':=["one","other"]) (k:=2) (idx:=[]) rfl (by exact ⟨rfl,by decide +kernel,by decide +kernel,by decide +kernel,by decide +kernel,by decide +kernel,rfl,rfl⟩) rfl rfl (pi_zip rfl T.b_zip (pa_sub (pe_ix ix_tup (pv 2) pe_int (fun _ _=>rfl)) (pa_sub (pe_ix ix_tup (pv 3) pe_int (fun _ _=>rfl)) pa_nil))) (fun _ _ _ _=>(pg_pair (K':=K) (i:=0) (j:=1) rfl (show (["one","other"]:List Str).Nodup by decide +kernel) ⟨rfl,(Or.inl rfl),(Or.inr rfl)⟩ ⟨rfl,(Or.inl rfl),(Or.inr rfl)⟩ rfl)) (fun _ _ _ _=>pts_nil) (fun _ _ _ _=>(pe_op op_add (pv 0) (pv 1)))) pa_nil)))
   (@pss_one _ _ _ (@ps_setD _ _ 2 _ _ _ _ sc_law_told_counts.nd rfl (Or.inl rfl) (pes_tup (pas_name (pes_of (pv 5)) (pas_tuple (pes_tup (pas_sub (pes_of (pe_ix ix_tup (pe_ix ix_tup (pv 2) pe_int (fun _ _=>rfl)) pe_int (fun _ _=>rfl))) (pas_sub (pes_of (pe_ix ix_tup (pe_ix ix_tup (pv 3) pe_int (fun _ _=>rfl)) pe_int (fun _ _=>rfl))) pas_nil))) pas_nil))) rfl (Or.inl rfl)))))))))))))
   (@pss_one _ _ _ (@ps_ret _ _ _ _ (pv 2))))),lift_body h ?_⟩
  rintro as n P ⟨R,U,ws,d,f,rfl,ok,td,hm,q⟩
  rcases td with ⟨k,h0,h1,rfl,rfl⟩ | ⟨ds,fs,rfl,rfl,hne,hl,ha,hld⟩ | ⟨c,e,g,rfl,rfl,hc1,hc2,hcl,te⟩
  · rw [unit_len] at h1
    refine ⟨rfl,_,.refl,_,at_zero,fEq_t (iteT ⟨_,rfl,small4 (Nat.le_of_ble_eq_true rfl),two_line,small4 (Nat.le_of_ble_eq_true rfl),?_⟩)⟩
    refine ⟨R,U,ws,[(1,[k])],rfl,ok,(fun p hp j hj=>by rw [List.mem_singleton.mp hp] at hj;rw [List.mem_singleton.mp hj];exact ⟨h0,h1⟩),?_⟩
    refine ⟨_,rfl,_,rfl,_,at_way h0 h1,nsl2,two_line,_,.refl,?_⟩
    have e:PyData.tuple [.tuple ((cntsI ws [(1,[k])]).map .int),.tuple [.int (wayAt ws k).a,.int (wayAt ws k).b]]=cntT ws (faWay (wayAt (unitW ws) k)):=by
     rw [cnts_one h0 h1,unit_at h0 h1];rfl
    rw [← e] at q
    exact q
  · have hne':fs≠[]:=fun z=>hne (List.length_eq_zero_iff.mp (by rw [ha.length,z];rfl))
    refine ⟨rfl,_,.refl,_,at_zero,fEq_f w_row_way (iteF ⟨_,at_zero,fEq_f w_row_times (iteF ?_)⟩)⟩
    refine ⟨_,rfl,fun k env n'=>n'=n∧∃ (x3 x4 x5:Vl),env=[.d (bookPD R U ws),.d (rowT ds),.d (if k=0 then .none else cntT ws (rowF (fs.take k))),x3,x4,x5],⟨rfl,_,_,_,rfl⟩,?_,?_⟩
    · rintro k x env _ hx ⟨rfl,x3,x4,x5,rfl⟩
      obtain ⟨y,hy,ty⟩:=ha.get hx
      have hsn:fs.take (k+1)=fs.take k++[y]:=by rw [List.take_succ_eq_append_getElem (List.getElem?_eq_some_iff.mp hy).1,(List.getElem?_eq_some_iff.mp hy).2]
      refine ⟨R,U,ws,x,y,rfl,ok,ty,by omega,_,.refl,rfl,iteF ?_⟩
      cases k with
      | zero=>
       exact ⟨rfl,iteF (iteF ⟨_,.refl,rfl,iteT ⟨rfl,.d (cntT ws y),.d x,x5,by rw [hsn];rfl⟩⟩)⟩
      | succ k=>
       have hb:=lead_at hld hy
       have htn:fs.take (k+1)≠[]:=fun z=>by
        have z1:=congrArg List.length z
        rw [List.length_take,List.length_nil] at z1
        have:=(List.getElem?_eq_some_iff.mp hy).1
        omega
       refine ⟨rfl,iteT ⟨_,rfl,_,rfl,_,rfl,_,rfl,fNe_i (ite_f (by rw [hb];simp) ⟨_,.refl,rfl,iteF ?_⟩)⟩⟩
       refine ⟨_,rfl,_,rfl,_,_,_,_,rfl,rfl,rfl,⟨rfl,by rw [zipD_len,fl_len,fl_len];have:=ok.len;omega⟩,?_⟩
       rw [zip_fl]
       refine cmpW_mapR (fun i=>.int (((rowF (fs.take (k+1))).then y).g i)) (fun i hi n K hk=>⟨rfl,rfl,iteT hk⟩) ?_
       refine ⟨_,.refl,_,rfl,_,rfl,_,rfl,_,rfl,two_line,two_line,rfl,.d (cntT ws y),.d x,.d (.tuple (fl ws.length ((rowF (fs.take (k+1))).then y).g)),?_⟩
       rw [hsn,rowF_snoc htn]
       rfl
    · rintro env _ ⟨rfl,x3,x4,x5,rfl⟩
      have hl0:(ds.length=0)=False:=eq_false fun z=>hne (List.length_eq_zero_iff.mp z)
      refine ⟨_,.refl,?_⟩
      show P (if ds.length=0 then _ else _) _
      rw [if_neg (fun z=>hne (List.length_eq_zero_iff.mp z)),ha.length,List.take_length]
      exact q
  · have wok:=tdW_lt (ws:=unitW ws) (fun k h0 h1=>faU_lt h0 h1) te
    refine ⟨rfl,_,.refl,_,at_zero,fEq_f w_times_way (iteF ⟨_,at_zero,fEq_t (iteT ?_)⟩)⟩
    refine ⟨_,rfl,R,U,ws,e,g,rfl,ok,te,by omega,_,.refl,rfl,iteT ⟨_,rfl,eqD_i (ite_b (fun c1=>?_) (fun c1=>⟨_,rfl,ite_t (decide_eq_true ?_) ⟨_,rfl,_,rfl,_,rfl,_,rfl,fEq_i (ite_t (decide_eq_true ?_) ?_)⟩⟩))⟩⟩
    rotate_left
    · have:=of_decide_eq_false c1
      omega
    · have:=of_decide_eq_false c1
      omega
    all_goals
     first | refine iteT ⟨_,rfl,⟨rfl,by rw [fl_len];have:=ok.len;omega⟩,?_⟩ | refine ⟨_,rfl,⟨rfl,by rw [fl_len];have:=ok.len;omega⟩,?_⟩
     unfold fl
     refine cmpW_mapR (fun i=>.int ((g.pw c).g i)) (fun i hi n K hk=>iteT ⟨_,rfl,?_,hk⟩) ?_
     · exact mulOk_9000 (count_small (by omega) (by omega)) (abs_small (n:=m) (by omega) (wok.g0 i) (wok.g1 i))
     · exact ⟨_,rfl,two_line,_,.refl,q⟩
theorem sc_law_is_shaped:FnScope ["book","thing"] ["book","thing"] (defScope s_law_is_shaped):=⟨rfl,rfl,rfl,by decide +kernel,rfl,by decide +kernel,by decide +kernel⟩
theorem ok_law_is_shaped (T:Txt mg) (D:Def K mg "_law_is_shaped" s_law_is_shaped ["book","thing"]):∀ m:Nat,Cal P w K mg base "_law_is_shaped" (m+1) ["book","thing"] (liftV (gsShaped m)):=by
 have hs:sizeLine=16777216:=sizeLine_eq
 intro m
 induction m with
 | zero=>
  refine D.cal fun f fd F=>F.ok sc_law_is_shaped (lift_len ?_) (fun cdv A outer s H vs Q E hr h=>?_)
  · rintro as n P ⟨R,U,ws,d,f,rfl,_⟩
    rfl
  refine ⟨_,(@pss_cons _ _ _ _ _ (ps_if (PW.pt (pw_or (pt_not (pt_val (pe_callB call_isD rfl T.b_isinstance boot_isinstance (pa_name (pv 1) (pa_name (pe_bltn rfl T.b_tuple boot_tuple (v:=.ty "tuple") rfl) pa_nil))))) (pw_or (pt_cmpR op_lt (pe_callB call_len_seq rfl T.b_len PySem.boot_len (pa_name (pv 1) pa_nil)) pe_int (nomark _)) (pw_or1 (pt_not (pt_val (pe_callB call_isD rfl T.b_isinstance boot_isinstance (pa_sub (pe_ix ix_tup (pv 1) pe_int (fun _ _=>rfl)) (pa_name (pe_bltn rfl T.b_str boot_str (v:=.ty "str") rfl) pa_nil))))))))) (@pss_one _ _ _ (@ps_ret _ _ _ _ pe_bl)) pss_nil)
   (@pss_cons _ _ _ _ _ (ps_if (pt_cmpR op_eq (pe_ix ix_tup (pv 1) pe_int (fun _ _=>rfl)) pe_str (nomark _)) (@pss_cons _ _ _ _ _ (ps_if (PW.pt (pw_or (pt_cmpR op_ne (pe_callB call_len_seq rfl T.b_len PySem.boot_len (pa_name (pv 1) pa_nil)) pe_int (nomark _)) (pw_or (pt_not (pt_val (pe_callB call_isD rfl T.b_isinstance boot_isinstance (pa_sub (pe_ix ix_tup (pv 1) pe_int (fun _ _=>rfl)) (pa_name (pe_bltn rfl T.b_tuple boot_tuple (v:=.ty "tuple") rfl) pa_nil))))) (pw_or1 (pt_cmpR op_eq (pe_callB call_len_seq rfl T.b_len PySem.boot_len (pa_sub (pe_ix ix_tup (pv 1) pe_int (fun _ _=>rfl)) pa_nil)) pe_int (nomark _)))))) (@pss_one _ _ _ (@ps_ret _ _ _ _ pe_bl)) pss_nil)
   pss_never) pss_nil)
   (@pss_cons _ _ _ _ _ (ps_if (PW.pt (pw_or (pt_not (pt_val (pe_callB call_isD rfl T.b_isinstance boot_isinstance (pa_sub (pe_ix ix_tup (pv 1) pe_int (fun _ _=>rfl)) (pa_name (pe_bltn rfl T.b_int boot_int (v:=.ty "int") rfl) pa_nil))))) (pw_or1 (pt_val (pe_callB call_isD rfl T.b_isinstance boot_isinstance (pa_sub (pe_ix ix_tup (pv 1) pe_int (fun _ _=>rfl)) (pa_name (pe_bltn rfl T.b_bool boot_bool (v:=.ty "bool") rfl) pa_nil))))))) (@pss_one _ _ _ (@ps_ret _ _ _ _ pe_bl)) pss_nil)
   (@pss_cons _ _ _ _ _ (ps_if (pt_cmpR op_eq (pe_ix ix_tup (pv 1) pe_int (fun _ _=>rfl)) pe_str (nomark _)) (@pss_one _ _ _ (@ps_ret _ _ _ _ (pe_and (pe_cmpR op_eq (pe_callB call_len_seq rfl T.b_len PySem.boot_len (pa_name (pv 1) pa_nil)) pe_int (nomark _)) (pe_one (pe_chain op_le op_lt pe_int (pe_ix ix_tup (pv 1) pe_int (fun _ _=>rfl)) (pe_callB call_len_seq rfl T.b_len PySem.boot_len (pa_sub (pe_ix ix_tup (pv 0) pe_int (fun _ _=>rfl)) pa_nil))))))) pss_nil)
   pss_never)))),lift_body h ?_⟩
  rintro as n P ⟨R,U,ws,d,f,rfl,ok,⟨k,h0,h1,rfl,rfl⟩,q⟩
  refine ⟨rfl,iteF (ite_f rfl ⟨_,at_zero,iteF ⟨_,.refl,?_⟩⟩)⟩
  refine ⟨_,at_zero,fEq_f w_way_row (iteF ⟨_,.refl,?_⟩)⟩
  refine ⟨_,rfl,iteF ⟨_,rfl,iteF ⟨_,.refl,?_⟩⟩⟩
  refine ⟨_,at_zero,fEq_t (iteT ?_)⟩
  refine fEq_i (ite_t rfl ⟨_,rfl,chain_le h0 ⟨_,rfl,?_⟩⟩)
  show P (.bool (decide (k<(((ws.map wayPD).length:Nat):Int)))) n
  rw [List.length_map,decide_eq_true h1]
  exact q
 | succ m c__law_is_shaped=>
  refine D.cal fun f fd F=>F.ok sc_law_is_shaped (lift_len ?_) (fun cdv A outer s H vs Q E hr h=>?_)
  · rintro as n P ⟨R,U,ws,d,f,rfl,_⟩
    rfl
  refine ⟨_,(@pss_cons _ _ _ _ _ (ps_if (PW.pt (pw_or (pt_not (pt_val (pe_callB call_isD rfl T.b_isinstance boot_isinstance (pa_name (pv 1) (pa_name (pe_bltn rfl T.b_tuple boot_tuple (v:=.ty "tuple") rfl) pa_nil))))) (pw_or (pt_cmpR op_lt (pe_callB call_len_seq rfl T.b_len PySem.boot_len (pa_name (pv 1) pa_nil)) pe_int (nomark _)) (pw_or1 (pt_not (pt_val (pe_callB call_isD rfl T.b_isinstance boot_isinstance (pa_sub (pe_ix ix_tup (pv 1) pe_int (fun _ _=>rfl)) (pa_name (pe_bltn rfl T.b_str boot_str (v:=.ty "str") rfl) pa_nil))))))))) (@pss_one _ _ _ (@ps_ret _ _ _ _ pe_bl)) pss_nil)
   (@pss_cons _ _ _ _ _ (ps_if (pt_cmpR op_eq (pe_ix ix_tup (pv 1) pe_int (fun _ _=>rfl)) pe_str (nomark _)) (@pss_cons _ _ _ _ _ (ps_if (PW.pt (pw_or (pt_cmpR op_ne (pe_callB call_len_seq rfl T.b_len PySem.boot_len (pa_name (pv 1) pa_nil)) pe_int (nomark _)) (pw_or (pt_not (pt_val (pe_callB call_isD rfl T.b_isinstance boot_isinstance (pa_sub (pe_ix ix_tup (pv 1) pe_int (fun _ _=>rfl)) (pa_name (pe_bltn rfl T.b_tuple boot_tuple (v:=.ty "tuple") rfl) pa_nil))))) (pw_or1 (pt_cmpR op_eq (pe_callB call_len_seq rfl T.b_len PySem.boot_len (pa_sub (pe_ix ix_tup (pv 1) pe_int (fun _ _=>rfl)) pa_nil)) pe_int (nomark _)))))) (@pss_one _ _ _ (@ps_ret _ _ _ _ pe_bl)) pss_nil)
   (@pss_one _ _ _ (@ps_ret _ _ _ _ (pe_callB call_all rfl T.b_all boot_all (pa_comp (pe_comp (sc:=(defScope s_law_is_shaped)) (N:=["book","thing"]) (N':=["part","book"]) (k:=1) (idx:=[0]) rfl (by exact ⟨rfl,by decide +kernel,by decide +kernel,by decide +kernel,by decide +kernel,by decide +kernel,rfl,rfl⟩) rfl rfl (pi_tup (pe_ix ix_tup (pv 1) pe_int (fun _ _=>rfl))) (fun _ _ _ _=>(pg_name (i:=0) (show (["part","book"]:List Str).Nodup by decide +kernel) rfl (Or.inl rfl) (Or.inr rfl))) (fun _ _ _ _=>pts_nil) (fun _ _ _ _=>(pe_c c__law_is_shaped (hr.mono (by omega)) rfl (pa_name (pv 1) (pa_name (pv 0) pa_nil))))) pa_nil))))) pss_nil)
   (@pss_cons _ _ _ _ _ (ps_if (PW.pt (pw_or (pt_not (pt_val (pe_callB call_isD rfl T.b_isinstance boot_isinstance (pa_sub (pe_ix ix_tup (pv 1) pe_int (fun _ _=>rfl)) (pa_name (pe_bltn rfl T.b_int boot_int (v:=.ty "int") rfl) pa_nil))))) (pw_or1 (pt_val (pe_callB call_isD rfl T.b_isinstance boot_isinstance (pa_sub (pe_ix ix_tup (pv 1) pe_int (fun _ _=>rfl)) (pa_name (pe_bltn rfl T.b_bool boot_bool (v:=.ty "bool") rfl) pa_nil))))))) (@pss_one _ _ _ (@ps_ret _ _ _ _ pe_bl)) pss_nil)
   (@pss_cons _ _ _ _ _ (ps_if (pt_cmpR op_eq (pe_ix ix_tup (pv 1) pe_int (fun _ _=>rfl)) pe_str (nomark _)) (@pss_one _ _ _ (@ps_ret _ _ _ _ (pe_and (pe_cmpR op_eq (pe_callB call_len_seq rfl T.b_len PySem.boot_len (pa_name (pv 1) pa_nil)) pe_int (nomark _)) (pe_one (pe_chain op_le op_lt pe_int (pe_ix ix_tup (pv 1) pe_int (fun _ _=>rfl)) (pe_callB call_len_seq rfl T.b_len PySem.boot_len (pa_sub (pe_ix ix_tup (pv 0) pe_int (fun _ _=>rfl)) pa_nil))))))) pss_nil)
   (@pss_one _ _ _ (@ps_ret _ _ _ _ (pe_and (pe_cmpR op_eq (pe_ix ix_tup (pv 1) pe_int (fun _ _=>rfl)) pe_str (nomark _)) (pe_and (pe_cmpR op_eq (pe_callB call_len_seq rfl T.b_len PySem.boot_len (pa_name (pv 1) pa_nil)) pe_int (nomark _)) (pe_and (pe_cmpR op_gt (pe_ix ix_tup (pv 1) pe_int (fun _ _=>rfl)) pe_int (nomark _)) (pe_one (pe_c c__law_is_shaped (hr.mono (by omega)) rfl (pa_name (pv 0) (pa_sub (pe_ix ix_tup (pv 1) pe_int (fun _ _=>rfl)) pa_nil))))))))))))),lift_body h ?_⟩
  rintro as n P ⟨R,U,ws,d,f,rfl,ok,td,q⟩
  rcases td with ⟨k,h0,h1,rfl,rfl⟩ | ⟨ds,fs,rfl,rfl,hne,hl,ha,hld⟩ | ⟨c,e,g,rfl,rfl,hc1,hc2,hcl,te⟩
  · refine ⟨rfl,iteF (ite_f rfl ⟨_,at_zero,iteF ⟨_,.refl,?_⟩⟩)⟩
    refine ⟨_,at_zero,fEq_f w_way_row (iteF ⟨_,.refl,?_⟩)⟩
    refine ⟨_,rfl,iteF ⟨_,rfl,iteF ⟨_,.refl,?_⟩⟩⟩
    refine ⟨_,at_zero,fEq_t (iteT ?_)⟩
    refine fEq_i (ite_t rfl ⟨_,rfl,chain_le h0 ⟨_,rfl,?_⟩⟩)
    show P (.bool (decide (k<(((ws.map wayPD).length:Nat):Int)))) n
    rw [List.length_map,decide_eq_true h1]
    exact q
  · refine ⟨rfl,iteF (ite_f rfl ⟨_,at_zero,iteF ⟨_,.refl,?_⟩⟩)⟩
    refine ⟨_,at_zero,fEq_t (iteT ?_)⟩
    refine fNe_i (ite_f rfl ⟨_,rfl,iteF ⟨_,rfl,fEq_i (ite_f (decide_eq_false fun z=>?_) ⟨_,.refl,?_⟩)⟩⟩)
    · have:ds.length=0:=by exact_mod_cast z
      exact hne (List.length_eq_zero_iff.mp this)
    refine ⟨_,rfl,⟨rfl,by omega⟩,?_⟩
    refine cmpW_rel (g:=fun _=>.bool true) ha (fun x y t n K hK=>iteT ⟨R,U,ws,x,y,rfl,ok,t,hK⟩) ?_
    refine ⟨fs.map fun _=>true,by rw [List.map_map];rfl,rfl,?_⟩
    have:(fs.map fun _=>true).all id=true:=by rw [List.all_map];exact List.all_eq_true.mpr fun _ _=>rfl
    rw [this]
    exact q
  · refine ⟨rfl,iteF (ite_f rfl ⟨_,at_zero,iteF ⟨_,.refl,?_⟩⟩)⟩
    refine ⟨_,at_zero,fEq_f w_times_row (iteF ⟨_,.refl,?_⟩)⟩
    refine ⟨_,rfl,iteF ⟨_,rfl,iteF ⟨_,.refl,?_⟩⟩⟩
    refine ⟨_,at_zero,fEq_f w_times_way (iteF ⟨_,.refl,?_⟩)⟩
    exact ⟨_,at_zero,fEq_t (iteT (fEq_i (ite_t rfl ⟨_,rfl,ite_t (decide_eq_true (by omega)) ⟨_,rfl,R,U,ws,e,g,rfl,ok,te,q⟩⟩)))⟩
theorem sc_law:FnScope ["script","jar","book","turn","counts","rooms","again","room","before","told"] ["script"] (defScope s_law):=⟨rfl,rfl,rfl,by decide +kernel,rfl,by decide +kernel,by decide +kernel⟩
theorem ok_law {f:Addr}{fd:FuncData}(T:Txt mg) (F:Fun K "law" "law" s_law f fd) (c__law_jar:Cal P w K mg base "_law_jar" 2 ["script"] (spJar K)) (c__law_pick:Cal P w K mg base "_law_pick" 2 ["jar","many"] (liftV gsPick)) (c__law_book:Cal P w K mg base "_law_book" 4 ["jar","most_rooms","most_ways"] (liftV gsBook)) (c__law_hung:Cal P w K mg base "_law_hung" 5 ["jar","book","most","often"] (liftV gsHung)) (c_walk_of:Cal P w K mg base "walk_of" 4 ["book","counts","room"] (liftV gsWalkT)) (c__law_is_shaped:Cal P w K mg base "_law_is_shaped" 4 ["book","thing"] (liftV (gsShaped 3))) (c__law_told_counts:Cal P w K mg base "_law_told_counts" 5 ["book","told"] (liftV (gsToldC 3))):FnOk P w K mg base CX0 12 f fd ["script"] (spLaw K):=by
 refine F.ok sc_law (fun vs H Q E h=>?_) (fun cdv A outer s H vs Q E hr h=>?_)
 · obtain ⟨a,ns,rfl,_⟩:=h
   rfl
 refine ⟨_,(@pss_cons _ _ _ _ _ (ps_set (i:=1) sc_law.nd rfl (Or.inl rfl) (pe_c c__law_jar (hr.mono (by decide)) rfl (pa_name (pv 0) pa_nil)))
  (@pss_cons _ _ _ _ _ (ps_set (i:=2) sc_law.nd rfl (Or.inl rfl) (pe_c c__law_book (hr.mono (by decide)) rfl (pa_name (pv 1) (pa_sub (pe_ix ix_list (@PEs.out _ _ _ (pes_lst (pas_const pes_int (pas_const pes_int (pas_const pes_int pas_nil))))) (pe_c c__law_pick (hr.mono (by decide)) rfl (pa_name (pv 1) (pa_const pe_int pa_nil))) (fun _ _=>rfl)) (pa_sub (pe_ix ix_list (@PEs.out _ _ _ (pes_lst (pas_const pes_int (pas_const pes_int pas_nil)))) (pe_c c__law_pick (hr.mono (by decide)) rfl (pa_name (pv 1) (pa_const pe_int pa_nil))) (fun _ _=>rfl)) pa_nil)))))
  (@pss_cons _ _ _ _ _ (ps_for PassesOwn.never rfl (pi_range1 rfl T.b_range (pa_const pe_int pa_nil)) (pg_name (i:=3) sc_law.nd rfl (Or.inl rfl) (Or.inl rfl))
  (@pss_cons _ _ _ _ _ (ps_set (i:=4) sc_law.nd rfl (Or.inl rfl) (pe_c c__law_hung (hr.mono (by decide)) rfl (pa_name (pv 1) (pa_name (pv 2) (pa_const pe_int (pa_sub (pe_ix ix_list (@PEs.out _ _ _ (pes_lst (pas_const pes_int (pas_binop (pes_of (pe_op op_mulB (pe_op op_pow pe_int pe_int) (pe_op op_pow pe_int pe_int))) pas_nil)))) (pe_c c__law_pick (hr.mono (by decide)) rfl (pa_name (pv 1) (pa_const pe_int pa_nil))) (fun _ _=>rfl)) pa_nil))))))
  (@pss_cons _ _ _ _ _ (ps_setcomp (i:=5) (sc:=(defScope s_law)) (N:=["script","jar","book","turn","counts","rooms","again","room","before","told"]) (N':=["many","way"]) (k:=2) (idx:=[]) rfl sc_law.nd rfl rfl (by exact ⟨rfl,by decide +kernel,by decide +kernel,by decide +kernel,by decide +kernel,by decide +kernel,rfl,rfl⟩) rfl rfl (pi_zip rfl T.b_zip (pa_name (pv 4) (pa_sub (pe_ix ix_tup (pv 2) pe_int (fun _ _=>rfl)) pa_nil))) (fun _ _ _ _=>(pg_pair (K':=K) (i:=0) (j:=1) rfl (show (["many","way"]:List Str).Nodup by decide +kernel) ⟨rfl,(Or.inl rfl),(Or.inr rfl)⟩ ⟨rfl,(Or.inl rfl),(Or.inr rfl)⟩ rfl)) (fun _ _ _ _=>pts_one (pt_cmpR op_gt (pv 0) pe_int (nomark _))) (fun _ _ _ _=>(pe_ix (ix_tupK (K':=K) rfl) (pv 1) pe_int (fun _ _=>rfl))))
  (@pss_one _ _ _ (ps_for PassesOwn.never rfl (pi_range1 rfl T.b_range (pa_binop (pe_op op_mul pe_int (pe_callTy call_int1 rfl T.b_int boot_int (pa_cmp (pe_cmpR (op_neD hr.units) (pv 5) (@PEs.out _ _ _ (pes_lst pas_nil)) (nomark _)) pa_nil))) pa_nil)) (pg_name (i:=6) sc_law.nd rfl (Or.inl rfl) (Or.inl rfl))
  (@pss_cons _ _ _ _ _ (ps_set (i:=7) sc_law.nd rfl (Or.inl rfl) (pe_ix ix_list (pv 5) (pe_c c__law_pick (hr.mono (by decide)) rfl (pa_name (pv 1) (pa_call (pe_callB call_len_seq rfl T.b_len PySem.boot_len (pa_name (pv 5) pa_nil)) pa_nil))) (fun _ _=>rfl)))
  (@pss_cons _ _ _ _ _ (ps_set (i:=8) sc_law.nd rfl (Or.inl rfl) (pe_callB (call_repr hr.gd hr.units) rfl T.b_repr boot_repr (pa_name (pv 4) pa_nil)))
  (@pss_cons _ _ _ _ _ (ps_set (i:=9) sc_law.nd rfl (Or.inl rfl) (pe_c c_walk_of (hr.mono (by decide)) rfl (pa_name (pv 2) (pa_name (pv 4) (pa_name (pv 7) pa_nil)))))
  (@pss_cons _ _ _ _ _ (ps_if (PW.pt (pw_or (pt_not (pt_val (pe_c c__law_is_shaped (hr.mono (by decide)) rfl (pa_name (pv 2) (pa_name (pv 9) pa_nil))))) (pw_or1 (pt_cmpR op_ne (pe_callB (call_repr hr.gd hr.units) rfl T.b_repr boot_repr (pa_name (pv 4) pa_nil)) (pv 8) (nomark _))))) (@pss_one _ _ _ (@ps_ret _ _ _ _ pe_bl)) pss_nil)
  (@pss_one _ _ _ (ps_if (pt_cmpR (op_neD hr.units) (pe_c c__law_told_counts (hr.mono (by decide)) rfl (pa_name (pv 2) (pa_name (pv 9) pa_nil))) (@PEs.out _ _ _ (pes_tup (pas_name (pes_of (pv 4)) (pas_tuple (pes_tup (pas_name (pes_of (pv 7)) (pas_name (pes_of (pv 7)) pas_nil))) pas_nil)))) (nomark _)) (@pss_one _ _ _ (@ps_ret _ _ _ _ pe_bl)) pss_nil)))))))))))
  (@pss_one _ _ _ (@ps_ret _ _ _ _ pe_bl))))),law_start (by decide) h ?_⟩
 show gSeq _ _ endsL [.jnk,.jar,.jnk,.jnk,.jnk,.jnk,.jnk,.jnk,.jnk,.jnk] 0
 have hs:sizeLine=16777216:=sizeLine_eq
 refine ⟨three_line,3,rfl,by decide,by decide +kernel,fun t t0 t1=>?_⟩
 obtain ⟨mr,hat,m0,m1⟩:∃ mr:Int,atI [PyData.int 1,.int 3,.int 12] t=some (.int mr)∧1≤mr∧mr≤12:=by
  have:t=0∨t=1∨t=2:=by omega
  rcases this with rfl | rfl | rfl<;>exact ⟨_,rfl,by decide,by decide⟩
 refine ⟨_,hat,two_line,2,rfl,by decide,by decide +kernel,fun t t0 t1=>?_⟩
 obtain ⟨mw,hat,w0,w1⟩:∃ mw:Int,atI [PyData.int 6,.int 60] t=some (.int mw)∧0≤mw∧mw≤60:=by
  have:t=0∨t=1:=by omega
  rcases this with rfl | rfl<;>exact ⟨_,rfl,by decide,by decide⟩
 refine ⟨_,hat,mr,mw,rfl,⟨m0,m1⟩,⟨w0,w1⟩,fun R U ws ok _=>⟨[.jnk,.jar,.d (bookPD R U ws),.jnk,.jnk,.jnk,.jnk,.jnk,.jnk,.jnk],.eq rfl,?_⟩⟩
 have wz:=ok.len
 refine ⟨3,rfl,⟨by decide,by decide⟩,fun i env _=>∃ x3 x4 x5 x6 x7 x8 x9,env=[.jnk,.jar,.d (bookPD R U ws),x3,x4,x5,x6,x7,x8,x9],⟨_,_,_,_,_,_,_,rfl⟩,?_,fun env n ⟨_,_,_,_,_,_,_,he⟩=>by subst he;exact ⟨_,.refl,rfl⟩⟩
 rintro i x env j hx ⟨x3,x4,x5,x6,x7,x8,x9,rfl⟩
 refine ⟨⟨by decide,by decide,by decide⟩,⟨by decide,by decide,by decide⟩,mul97,two_line,2,rfl,by decide,by decide +kernel,fun r r0 r1=>?_⟩
 obtain ⟨often,hof,ho⟩:∃ often:Int,atI [PyData.int 4,.int (10^50*10^47)] r=some (.int often)∧(1≤often∧often≤10^97):=by
  have:r=0∨r=1:=by omega
  rcases this with rfl | rfl<;>exact ⟨_,rfl,by decide,by decide +kernel⟩
 refine ⟨_,hof,R,U,ws,often,rfl,ok,ho,fun cs hc=>⟨_,.refl,?_⟩⟩
 have hl:=hc.ro.len
 refine ⟨_,rfl,_,_,_,_,rfl,rfl,rfl,⟨rfl,by rw [zipD_len,List.length_map];omega⟩,?_⟩
 rw [zip_cw hl]
 refine cmpW_filterR (fun i=>decide (0<cs.getD i 0)) (fun i=>.int (wayAt ws ((i:Nat):Int)).a) (fun i hi n K h1 h2=>⟨rfl,rfl,ite_b (fun c=>⟨_,rfl,h1 c⟩) h2⟩) ?_
 have em:(((List.range ws.length).filter fun i=>decide (0<cs.getD i 0)).map fun i=>PyData.int (wayAt ws ((i:Nat):Int)).a)=((onW cs).map fun k=>(wayAt ws k).a).map .int:=by
  unfold onW
  rw [hl,List.map_map,List.map_map];rfl
 rw [em]
 refine ⟨_,.refl,Nat.zero_le _,neNil (fun hne=>⟨.inl ⟨by decide,by decide⟩,?_⟩) (fun he=>⟨.inl ⟨by decide,by decide⟩,?_⟩)⟩
 rotate_left
 · refine ⟨0,rfl,⟨by decide,by decide⟩,fun i env _=>∃ x3 x4 x5 x6 x7 x8 x9,env=[.jnk,.jar,.d (bookPD R U ws),x3,x4,x5,x6,x7,x8,x9],⟨_,_,_,_,_,_,_,rfl⟩,?_,fun env n h=>h⟩
   rintro i y env j hy _
   cases hy
 have hno:onW cs≠[]:=fun z=>hne (by rw [z];rfl)
 have hpos:=on_pos hl hno
 have hone:=hc.one hno
 have olp:0<(onW cs).length:=List.length_pos_iff.mpr hno
 have ol:(onW cs).length≤cs.length:=onW_in.2
 have hsh:ShOk (.tuple (cs.map .int)):=cnt_sh (by omega) fun c hcm=>by
  obtain ⟨i,hi,rfl⟩:=List.mem_iff_getElem.mp hcm
  have h1:=hc.le i (by omega)
  rw [getD_el hi] at h1
  exact ⟨hc.ro.nn _ hcm,Int.lt_of_le_of_lt h1 (by decide +kernel)⟩
 refine ⟨2,rfl,⟨by decide,by decide⟩,fun i env _=>∃ x6 x7 x8 x9,env=[.jnk,.jar,.d (bookPD R U ws),.d x,.d (.tuple (cs.map .int)),.own (((onW cs).map fun k=>(wayAt ws k).a).map .int),x6,x7,x8,x9],⟨_,_,_,_,rfl⟩,?_,fun env n ⟨_,_,_,_,e⟩=>⟨_,_,_,_,_,_,_,e⟩⟩
 rintro i y env j hy ⟨x6,x7,x8,x9,rfl⟩
 refine ⟨((onW cs).length:Int),by rw [List.length_map,List.length_map],by omega,small9000 (by omega),fun z z0 z1=>?_⟩
 obtain ⟨kz,hkz,ez⟩:∃ kz∈onW cs,atI (((onW cs).map fun k=>(wayAt ws k).a).map PyData.int) z=some (.int (wayAt ws kz).a):=by
  obtain ⟨a,e,ha⟩:=at_ints (ns:=(onW cs).map fun k=>(wayAt ws k).a) z0 (by rw [List.length_map];exact z1)
  obtain ⟨kz,hkz,rfl⟩:=List.mem_map.mp ha
  exact ⟨kz,hkz,e⟩
 refine ⟨_,ez,_,.refl,hsh,_,.refl,?_⟩
 refine ⟨R,U,ws,cs,_,rfl,ok,hc.ro,hpos,(fun i hi=>Int.le_trans (hc.le i hi) (by decide +kernel)),by rw [hone];rfl,⟨kz,hkz,rfl⟩,fun ps rk=>⟨_,.refl,?_⟩⟩
 obtain ⟨td,_,_⟩:=row_td rk
 obtain ⟨tu,_,_⟩:=row_td (unit_row rk)
 refine ⟨R,U,ws,_,_,rfl,ok,td,iteF ⟨hsh,fNe_s (iteF ⟨_,.refl,?_⟩)⟩⟩
 refine ⟨R,U,ws,_,_,rfl,ok,tu,by decide,two_line,two_line,?_⟩
 rw [cnt_eq hl rk]
 exact cnt_ne (iteF ⟨_,_,_,_,rfl⟩)
end
theorem all_mk {l:PySem.W.OpenLaw}{w:World}{K:PySem.W.Frag}{h:Heap}{mg:Str→Option Value}{fa f4:Addr}(X:K.In h) (G:h.Ns mainGlobals mg) (hfa:mg "law" = some (.ref fa)) (T:Txt mg)
 (D_law_mix:Def K mg "_law_mix" s_law_mix ["one"]) (D_law_jar:Def K mg "_law_jar" s_law_jar ["script"]) (D_law_pick:Def K mg "_law_pick" s_law_pick ["jar","many"]) (D_law_gain:Def K mg "_law_gain" s_law_gain ["jar"]) (D_law_book:Def K mg "_law_book" s_law_book ["jar","most_rooms","most_ways"]) (D_law_from:Def K mg "_law_from" s_law_from ["book","room"]) (D_law_back:Def K mg "_law_back" s_law_back ["book","first","last"]) (D_rooms_reached:Def K mg "rooms_reached" s_rooms_reached ["book","some"]) (D_rings_of:Def K mg "rings_of" s_rings_of ["book","some"]) (D_parts_of:Def K mg "parts_of" s_parts_of ["book","counts"]) (D_is_whole:Def K mg "is_whole" s_is_whole ["thing"]) (D_short_turn:Def K mg "short_turn" s_short_turn ["book","counts"]) (D_turns_of:Def K mg "turns_of" s_turns_of ["book","counts"]) (D_lay_turn:Def K mg "lay_turn" s_lay_turn ["book","row","rooms","turn"]) (D_walk_of:Def K mg "walk_of" s_walk_of ["book","counts","room"]) (D_law_walk:Def K mg "_law_walk" s_law_walk ["jar","book","most"]) (D_law_closed:Def K mg "_law_closed" s_law_closed ["jar","book","most"]) (D_law_counts:Def K mg "_law_counts" s_law_counts ["book","walks"]) (D_law_hung:Def K mg "_law_hung" s_law_hung ["jar","book","most","often"]) (D_law_told_counts:Def K mg "_law_told_counts" s_law_told_counts ["book","told"]) (D_law_is_shaped:Def K mg "_law_is_shaped" s_law_is_shaped ["book","thing"])
 {od4 an4:Option Addr} {sl4:Array (Option Value)} {oc4 kV4 dc4 pm4 cd4 ct4:Value} (a4:PySem.W.nsIn K mainGlobals "law" = some (some (.ref f4)))
 (l4:K.lookup f4=some ⟨oc4,od4,.func (PySem.W.fnOf "law" "law" (defArgs s_law) (defBody s_law) (defScope s_law) .none kV4 dc4 pm4 an4 cd4 ct4),sl4⟩) (c4:PySem.W.codeIn K cd4 "law" = true) (k4:PySem.W.keepIn K (.ref f4)=true) :
 ∃ fd:FuncData,(∀ (s:Shared) (v:Value),BindsTo s fd ⟨[v],[]⟩ [("script",v)])∧∀ base:Heap,K.In base→base.Ns mainGlobals mg→FnOk l.prog w K mg base CX0 12 fa fd ["script"] (spLaw K):=by
 have e:=hfa.symm.trans (PySem.W.mg_of X G a4)
 cases e
 have F4:=fun_mk (st:=s_law) l4 c4 k4
 refine ⟨PySem.W.fnOf "law" "law" (defArgs s_law) (defBody s_law) (defScope s_law) .none kV4 dc4 pm4 an4 cd4 ct4,fun s v=>.of_eq rfl,fun base _ _=>?_⟩
 have c_law_mix:Cal l.prog w K mg base "_law_mix" 1 ["one"] spMix:=ok_law_mix T D_law_mix
 have c_law_jar:Cal l.prog w K mg base "_law_jar" 2 ["script"] (spJar K):=ok_law_jar T D_law_jar c_law_mix
 have h_law_pick:Cal l.prog w K mg base "_law_pick" 2 ["jar","many"] spPickE:=ok_law_pickE T D_law_pick c_law_mix
 have c_law_pick:Cal l.prog w K mg base "_law_pick" 2 ["jar","many"] (liftV gsPick):=h_law_pick.imp imp_pick
 have c_law_gain:Cal l.prog w K mg base "_law_gain" 3 ["jar"] (liftV gsGain):=ok_law_gain T D_law_gain c_law_pick
 have c_law_book:Cal l.prog w K mg base "_law_book" 4 ["jar","most_rooms","most_ways"] (liftV gsBook):=ok_law_book T D_law_book c_law_pick c_law_gain
 have h_law_from:Cal l.prog w K mg base "_law_from" 1 ["book","room"] spFrom:=ok_law_from T D_law_from
 have c_law_from:Cal l.prog w K mg base "_law_from" 1 ["book","room"] (liftN gsFrom):=h_law_from.imp imp_from
 have h_law_back:Cal l.prog w K mg base "_law_back" 2 ["book","first","last"] spBack:=ok_law_back T D_law_back h_law_from
 have c_law_back:Cal l.prog w K mg base "_law_back" 2 ["book","first","last"] (liftV gsBack):=h_law_back.imp imp_back
 have c_rooms_reached:Cal l.prog w K mg base "rooms_reached" 1 ["book","some"] (liftV gsReach):=ok_rooms_reached T D_rooms_reached
 have c_rings_of:Cal l.prog w K mg base "rings_of" 2 ["book","some"] (liftV gsRings):=ok_rings_of T D_rings_of c_rooms_reached
 have c_parts_of:Cal l.prog w K mg base "parts_of" 3 ["book","counts"] (liftV gsParts):=ok_parts_of T D_parts_of c_rings_of
 have c_is_whole:Cal l.prog w K mg base "is_whole" 1 ["thing"] (liftV gsWhole):=ok_is_whole T D_is_whole
 have c_short_turn:Cal l.prog w K mg base "short_turn" 1 ["book","counts"] (liftN gsShort):=ok_short_turn T D_short_turn
 have c_turns_of:Cal l.prog w K mg base "turns_of" 2 ["book","counts"] (liftV gsTurns):=ok_turns_of T D_turns_of c_short_turn
 have c_lay_turn:Cal l.prog w K mg base "lay_turn" 1 ["book","row","rooms","turn"] (liftLay gsLay):=ok_lay_turn T D_lay_turn
 have c_walk_of:Cal l.prog w K mg base "walk_of" 4 ["book","counts","room"] (liftV gsWalkT):=ok_walk_of T D_walk_of c_parts_of c_is_whole c_turns_of c_lay_turn
 have c_law_walk:Cal l.prog w K mg base "_law_walk" 3 ["jar","book","most"] (liftV gsWalkJ):=ok_law_walk T D_law_walk c_law_pick c_law_from
 have c_law_closed:Cal l.prog w K mg base "_law_closed" 4 ["jar","book","most"] (liftV gsClosed):=ok_law_closed T D_law_closed c_law_walk c_law_back
 have c_law_counts:Cal l.prog w K mg base "_law_counts" 1 ["book","walks"] (liftV gsCountsE):=ok_law_counts T D_law_counts
 have c_law_hung:Cal l.prog w K mg base "_law_hung" 5 ["jar","book","most","often"] (liftV gsHung):=ok_law_hung T D_law_hung c_law_pick c_law_closed c_law_from c_law_back c_law_counts
 have c_law_told_counts:Cal l.prog w K mg base "_law_told_counts" 5 ["book","told"] (liftV (gsToldC 3)):=ok_law_told_counts T D_law_told_counts c_law_counts 3
 have c_law_is_shaped:Cal l.prog w K mg base "_law_is_shaped" 4 ["book","thing"] (liftV (gsShaped 3)):=ok_law_is_shaped T D_law_is_shaped 3
 exact ok_law T F4 c_law_jar c_law_pick c_law_book c_law_hung c_walk_of c_law_is_shaped c_law_told_counts
theorem walk {l:PySem.W.OpenLaw}{q:Program}{loose:List Str}{XP:(Str→Option Value)→Heap→Prop}{YP:World→Heap→Prop}{d:DefRec}{K:Params→PySem.W.Frag}(hn:l.most=some 63) (hdf:d.params.defaults=[])
 (hY:∀ (w:World) (h:Heap),YP w h→(K w.params).In h)
 (F:∀ (w:World) (mg:Str→Option Value) (fa:Addr) (h:Heap),(K w.params).In h→h.Ns mainGlobals mg→mg d.name=some (.ref fa) →
  ∃ fd:FuncData,(∀ (s:Shared) (u:Value),BindsTo s fd ⟨[u],[]⟩ [("script",u)])∧∀ base:Heap,(K w.params).In base→base.Ns mainGlobals mg→FnOk l.prog w (K w.params) mg base CX0 12 fa fd ["script"] (spLaw (K w.params))) :
 PySem.W.WalkO q loose XP YP l.row.toRowW d [] (fun f vs=>PySem.call f vs):=
 L2.walk_of (n:=63) (k:=12) (x:="script") (CX:=fun _=>CX0) (sp:=fun w=>spLaw (K w.params)) hn (by decide) hdf ⟨rfl,by decide,by decide,rfl⟩ hY F (fun _ _ a ns hl _ hS=>⟨a,ns,rfl,hS,hl,fun _=>rfl⟩) fun _ _ _ _ _ z=>z
end My
theorem PySem.W.Fast.tw12446391461465490081 : True := trivial
theorem PySem.W.Fast.tw12014706807407589981 : True := trivial
theorem PySem.W.Fast.tw7473372678377367727 : True := trivial
theorem PySem.W.Fast.tw5222370253495391673 : True := trivial
theorem PySem.W.Fast.tw16913947891044531583 : True := trivial
theorem PySem.W.Fast.tw15915418780247235340 : True := trivial
theorem PySem.W.Fast.tw4741847675227276759 : True := trivial
theorem PySem.W.Fast.tw15471250736648388496 : True := trivial
theorem PySem.W.Fast.tw10290133035502588835 : True := trivial
theorem PySem.W.Fast.tw5674591101157268919 : True := trivial
theorem PySem.W.Fast.tw9312738164047974286 : True := trivial
theorem PySem.W.Fast.tw12074213015188593471 : True := trivial
theorem PySem.W.Fast.tw6803677210501308972 : True := trivial
theorem PySem.W.Fast.tw4549357305794109977 : True := trivial
theorem PySem.W.Fast.tw5214991453115555957 : True := trivial
theorem PySem.W.Fast.tw1620243624595649369 : True := trivial
theorem PySem.W.Fast.tw5217283137913068815 : True := trivial
theorem PySem.W.Fast.tw11689234309191384939 : True := trivial
theorem PySem.W.Fast.tw1789870439792673193 : True := trivial
theorem PySem.W.Fast.tw12497604366136845866 : True := trivial
theorem PySem.W.Fast.tw17220964268396413995 : True := trivial
theorem PySem.W.Fast.tw7240211321677493082 : True := trivial
theorem PySem.W.Fast.tw8784884061207585909 : True := trivial
theorem PySem.W.Fast.tw17004371257766736018 : True := trivial
theorem PySem.W.Fast.tw14523399983303059037 : True := trivial
theorem PySem.W.Fast.tw12672034897787202689 : True := trivial
theorem PySem.W.Fast.tw4850215819278260834 : True := trivial
theorem PySem.W.Fast.tw18362268568134239874 : True := trivial
theorem PySem.W.Fast.tw2415982391954524404 : True := trivial
theorem PySem.W.Fast.tw12501018788173533432 : True := trivial
theorem PySem.W.Fast.tw15956766332327866780 : True := trivial
theorem PySem.W.Fast.tw17728949879347097977 : True := trivial
open PySem PySem.W PyProof.Rows
set_option maxRecDepth 100000 in
set_option maxHeartbeats 0 in
theorem PySem.Challenge.cw_fallsum_k23_told_walks_of_rounds_holds : PySem.Challenge.rw_fallsum_k23_told_walks_of_rounds.Holds := by
  w_on; o_law; k_head; (case hw => w_witness2)
  k_fill
  refine My.walk (l := PySem.Challenge.rw_fallsum_k23_told_walks_of_rounds) rfl rfl (fun w h Y => PySem.W.kIn_of Y) ?F
  case F =>
    intro w mg fa h KX G hmg
    refine' My.all_mk KX G hmg ⟨PySem.W.mg_none_of KX G ?z_isinstance, PySem.W.mg_none_of KX G ?z_int, PySem.W.mg_none_of KX G ?z_bool, PySem.W.mg_none_of KX G ?z_str, PySem.W.mg_none_of KX G ?z_tuple, PySem.W.mg_none_of KX G ?z_len, PySem.W.mg_none_of KX G ?z_all, PySem.W.mg_none_of KX G ?z_sum, PySem.W.mg_none_of KX G ?z_range, PySem.W.mg_none_of KX G ?z_list, PySem.W.mg_none_of KX G ?z_zip, PySem.W.mg_none_of KX G ?z_enumerate, PySem.W.mg_none_of KX G ?z_min, PySem.W.mg_none_of KX G ?z_any, PySem.W.mg_none_of KX G ?z_repr⟩
      (L2.def_mk KX G ?a_law_mix ?l_law_mix ?c_law_mix ?k_law_mix (fun _ _ _ _ _ _ us hl => match us, hl with | [_], _ => rfl))
      (L2.def_mk KX G ?a_law_jar ?l_law_jar ?c_law_jar ?k_law_jar (fun _ _ _ _ _ _ us hl => match us, hl with | [_], _ => rfl))
      (L2.def_mk KX G ?a_law_pick ?l_law_pick ?c_law_pick ?k_law_pick (fun _ _ _ _ _ _ us hl => match us, hl with | [_, _], _ => rfl))
      (L2.def_mk KX G ?a_law_gain ?l_law_gain ?c_law_gain ?k_law_gain (fun _ _ _ _ _ _ us hl => match us, hl with | [_], _ => rfl))
      (L2.def_mk KX G ?a_law_book ?l_law_book ?c_law_book ?k_law_book (fun _ _ _ _ _ _ us hl => match us, hl with | [_, _, _], _ => rfl))
      (L2.def_mk KX G ?a_law_from ?l_law_from ?c_law_from ?k_law_from (fun _ _ _ _ _ _ us hl => match us, hl with | [_, _], _ => rfl))
      (L2.def_mk KX G ?a_law_back ?l_law_back ?c_law_back ?k_law_back (fun _ _ _ _ _ _ us hl => match us, hl with | [_, _, _], _ => rfl))
      (L2.def_mk KX G ?a_rooms_reached ?l_rooms_reached ?c_rooms_reached ?k_rooms_reached (fun _ _ _ _ _ _ us hl => match us, hl with | [_, _], _ => rfl))
      (L2.def_mk KX G ?a_rings_of ?l_rings_of ?c_rings_of ?k_rings_of (fun _ _ _ _ _ _ us hl => match us, hl with | [_, _], _ => rfl))
      (L2.def_mk KX G ?a_parts_of ?l_parts_of ?c_parts_of ?k_parts_of (fun _ _ _ _ _ _ us hl => match us, hl with | [_, _], _ => rfl))
      (L2.def_mk KX G ?a_is_whole ?l_is_whole ?c_is_whole ?k_is_whole (fun _ _ _ _ _ _ us hl => match us, hl with | [_], _ => rfl))
      (L2.def_mk KX G ?a_short_turn ?l_short_turn ?c_short_turn ?k_short_turn (fun _ _ _ _ _ _ us hl => match us, hl with | [_, _], _ => rfl))
      (L2.def_mk KX G ?a_turns_of ?l_turns_of ?c_turns_of ?k_turns_of (fun _ _ _ _ _ _ us hl => match us, hl with | [_, _], _ => rfl))
      (L2.def_mk KX G ?a_lay_turn ?l_lay_turn ?c_lay_turn ?k_lay_turn (fun _ _ _ _ _ _ us hl => match us, hl with | [_, _, _, _], _ => rfl))
      (L2.def_mk KX G ?a_walk_of ?l_walk_of ?c_walk_of ?k_walk_of (fun _ _ _ _ _ _ us hl => match us, hl with | [_, _, _], _ => rfl))
      (L2.def_mk KX G ?a_law_walk ?l_law_walk ?c_law_walk ?k_law_walk (fun _ _ _ _ _ _ us hl => match us, hl with | [_, _, _], _ => rfl))
      (L2.def_mk KX G ?a_law_closed ?l_law_closed ?c_law_closed ?k_law_closed (fun _ _ _ _ _ _ us hl => match us, hl with | [_, _, _], _ => rfl))
      (L2.def_mk KX G ?a_law_counts ?l_law_counts ?c_law_counts ?k_law_counts (fun _ _ _ _ _ _ us hl => match us, hl with | [_, _], _ => rfl))
      (L2.def_mk KX G ?a_law_hung ?l_law_hung ?c_law_hung ?k_law_hung (fun _ _ _ _ _ _ us hl => match us, hl with | [_, _, _, _], _ => rfl))
      (L2.def_mk KX G ?a_law_told_counts ?l_law_told_counts ?c_law_told_counts ?k_law_told_counts (fun _ _ _ _ _ _ us hl => match us, hl with | [_, _], _ => rfl))
      (L2.def_mk KX G ?a_law_is_shaped ?l_law_is_shaped ?c_law_is_shaped ?k_law_is_shaped (fun _ _ _ _ _ _ us hl => match us, hl with | [_, _], _ => rfl))
      ?a4 ?l4 ?c4 ?k4
    (case z_isinstance => k_is)
    (case z_int => k_is)
    (case z_bool => k_is)
    (case z_str => k_is)
    (case z_tuple => k_is)
    (case z_len => k_is)
    (case z_all => k_is)
    (case z_sum => k_is)
    (case z_range => k_is)
    (case z_list => k_is)
    (case z_zip => k_is)
    (case z_enumerate => k_is)
    (case z_min => k_is)
    (case z_any => k_is)
    (case z_repr => k_is)
    (case a_law_mix => k_is)
    (case l_law_mix => k_is)
    (case c_law_mix => k_is)
    (case k_law_mix => k_is)
    (case a_law_jar => k_is)
    (case l_law_jar => k_is)
    (case c_law_jar => k_is)
    (case k_law_jar => k_is)
    (case a_law_pick => k_is)
    (case l_law_pick => k_is)
    (case c_law_pick => k_is)
    (case k_law_pick => k_is)
    (case a_law_gain => k_is)
    (case l_law_gain => k_is)
    (case c_law_gain => k_is)
    (case k_law_gain => k_is)
    (case a_law_book => k_is)
    (case l_law_book => k_is)
    (case c_law_book => k_is)
    (case k_law_book => k_is)
    (case a_law_from => k_is)
    (case l_law_from => k_is)
    (case c_law_from => k_is)
    (case k_law_from => k_is)
    (case a_law_back => k_is)
    (case l_law_back => k_is)
    (case c_law_back => k_is)
    (case k_law_back => k_is)
    (case a_rooms_reached => k_is)
    (case l_rooms_reached => k_is)
    (case c_rooms_reached => k_is)
    (case k_rooms_reached => k_is)
    (case a_rings_of => k_is)
    (case l_rings_of => k_is)
    (case c_rings_of => k_is)
    (case k_rings_of => k_is)
    (case a_parts_of => k_is)
    (case l_parts_of => k_is)
    (case c_parts_of => k_is)
    (case k_parts_of => k_is)
    (case a_is_whole => k_is)
    (case l_is_whole => k_is)
    (case c_is_whole => k_is)
    (case k_is_whole => k_is)
    (case a_short_turn => k_is)
    (case l_short_turn => k_is)
    (case c_short_turn => k_is)
    (case k_short_turn => k_is)
    (case a_turns_of => k_is)
    (case l_turns_of => k_is)
    (case c_turns_of => k_is)
    (case k_turns_of => k_is)
    (case a_lay_turn => k_is)
    (case l_lay_turn => k_is)
    (case c_lay_turn => k_is)
    (case k_lay_turn => k_is)
    (case a_walk_of => k_is)
    (case l_walk_of => k_is)
    (case c_walk_of => k_is)
    (case k_walk_of => k_is)
    (case a_law_walk => k_is)
    (case l_law_walk => k_is)
    (case c_law_walk => k_is)
    (case k_law_walk => k_is)
    (case a_law_closed => k_is)
    (case l_law_closed => k_is)
    (case c_law_closed => k_is)
    (case k_law_closed => k_is)
    (case a_law_counts => k_is)
    (case l_law_counts => k_is)
    (case c_law_counts => k_is)
    (case k_law_counts => k_is)
    (case a_law_hung => k_is)
    (case l_law_hung => k_is)
    (case c_law_hung => k_is)
    (case k_law_hung => k_is)
    (case a_law_told_counts => k_is)
    (case l_law_told_counts => k_is)
    (case c_law_told_counts => k_is)
    (case k_law_told_counts => k_is)
    (case a_law_is_shaped => k_is)
    (case l_law_is_shaped => k_is)
    (case c_law_is_shaped => k_is)
    (case k_law_is_shaped => k_is)
    (case a4 => k_is)
    (case l4 => k_is)
    (case c4 => k_is)
    (case k4 => k_is)
