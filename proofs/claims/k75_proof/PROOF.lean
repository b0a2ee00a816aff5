import PyProof.Rows.All
import Wide.All
import OpenK.AllK
import Wide.FinOn
import Lean
import PyProof.EqAt
import PyProof.EqKinds
import PyProof.TupleCall
import KE.KTryMore
import OpenK.KOwn
import PyProof.Rows.CatchOwn
import PyProof.StrLawsTight
import PyProof.StrLawsJoin
import PyProof.ExcInit
import PyProof.ExcClass2
import PyProof.InstStore
import PyProof.AttrMissSeq
import PySem.Challenge.RW_fallsum_k75_held_sums
set_option Elab.async false
set_option linter.all false
set_option maxRecDepth 100000
namespace L2
open PySem PySem.Spec PyProof.Rows
noncomputable abbrev Key:=Sum Int Str
noncomputable def keyIs:Key→Value→Bool
 | .inl k,v=>Value.isInt k v
 | .inr x,v=>Value.isStrOf x v
noncomputable def keyH (w:World):Key→Int
 | .inl k=>hashInt k
 | .inr x=>hashStr w x
theorem keyIs_shape:∀ {k:Key}{v:Value},keyIs k v=true→(∃ i t,k=Sum.inl i∧v=Value.int i t)∨(∃ x t,k=Sum.inr x∧v=Value.str x t)
 | .inl i,v,h=>by
  obtain ⟨t,e⟩:=Value.isInt_shape (k:=i) (v:=v) h
  exact .inl ⟨i,t,rfl,e⟩
 | .inr x,v,h=>by
  obtain ⟨t,e⟩:=Value.isStrOf_shape (x:=x) (v:=v) h
  exact .inr ⟨x,t,rfl,e⟩
theorem keyIs_int (i:Int) (t:Tok):keyIs (.inl i) (.int i t)=true:=by simp [keyIs,Value.isInt]
theorem keyIs_str (x:Str) (t:Tok):keyIs (.inr x) (.str x t)=true:=by simp [keyIs,Value.isStrOf]
theorem key_ll (a b:Int):decide ((Sum.inl a:Key)=Sum.inl b)=(a==b):=by
 by_cases e:a=b
 · subst e;simp
 · have h:¬ (Sum.inl a:Key)=Sum.inl b:=fun q=>e (Sum.inl.inj q)
   rw [decide_eq_false h]
   exact (beq_eq_false_iff_ne.mpr e).symm
theorem key_rr (a b:Str):decide ((Sum.inr a:Key)=Sum.inr b)=decide (a=b):=by
 by_cases e:a=b
 · subst e;simp
 · have h:¬ (Sum.inr a:Key)=Sum.inr b:=fun q=>e (Sum.inr.inj q)
   rw [decide_eq_false h,decide_eq_false e]
theorem key_lr (a:Int) (b:Str):decide ((Sum.inl a:Key)=Sum.inr b)=false:=decide_eq_false (fun q=>nomatch q)
theorem key_rl (a:Str) (b:Int):decide ((Sum.inr a:Key)=Sum.inl b)=false:=decide_eq_false (fun q=>nomatch q)
noncomputable def mixKind (prog:Program) (w:World):PySem.KeyKind prog w Key where
 is:=keyIs
 hash:=keyH w
 inj:=fun v a b ha hb=>by
  rcases keyIs_shape ha with ⟨i,t,rfl,rfl⟩ | ⟨x,t,rfl,rfl⟩
  · rcases keyIs_shape hb with ⟨j,u,rfl,e⟩ | ⟨y,u,rfl,e⟩
    · injection e with e1 _;rw [e1]
    · exact nomatch e
  · rcases keyIs_shape hb with ⟨j,u,rfl,e⟩ | ⟨y,u,rfl,e⟩
    · exact nomatch e
    · injection e with e1 _;rw [e1]
 byValue:=fun k v h=>by
  rcases keyIs_shape h with ⟨i,t,rfl,rfl⟩ | ⟨x,t,rfl,rfl⟩<;>rfl
 pyHash:=fun hv h=>by
  rcases keyIs_shape hv with ⟨i,t,rfl,rfl⟩ | ⟨x,t,rfl,rfl⟩
  · exact wpAny_pyHash_int h
  · exact wpAny_pyHash_str h
 eqBool:=fun hu hv h=>by
  rcases keyIs_shape hu with ⟨i,t,rfl,rfl⟩ | ⟨x,t,rfl,rfl⟩
  · rcases keyIs_shape hv with ⟨j,u,rfl,rfl⟩ | ⟨y,u,rfl,rfl⟩
    · rw [key_ll] at h;exact wpAny_eqBool_int h
    · rw [key_lr] at h;exact SeqAt.EqAt.int_str i t y u _ _ _ _ h
  · rcases keyIs_shape hv with ⟨j,u,rfl,rfl⟩ | ⟨y,u,rfl,rfl⟩
    · rw [key_rl] at h;exact SeqAt.EqAt.str_int x t j u _ _ _ _ h
    · rw [key_rr] at h;exact wpAny_eqBool_str h
 «strs»:=fun k x t v h=>by
  rcases keyIs_shape h with ⟨i,u,rfl,e⟩ | ⟨y,u,rfl,e⟩
  · exact nomatch e
  · injection e with e1 _
    subst e1
    cases v<;>rfl
theorem mixKind_int (prog:Program) (w:World) (i:Int) (t:Tok):(mixKind prog w).is (.inl i) (.int i t)=true:=keyIs_int i t
theorem mixKind_str (prog:Program) (w:World) (x:Str) (t:Tok):(mixKind prog w).is (.inr x) (.str x t)=true:=keyIs_str x t
inductive V where
 | non | bl (b:Bool) | int (i:Int) | str (x:Str) | byt (b:Array UInt8) | flt (b:UInt64) | ref (a:Addr) | ty (n:String)
 deriving DecidableEq
noncomputable def RelV:V→Value→Prop
 | .non,u=>u=Value.none
 | .bl b,u=>u=Value.bool b
 | .int i,u=>∃ t,u=Value.int i t
 | .str x,u=>∃ t,u=Value.str x t
 | .byt b,u=>∃ t,u=Value.bytes b t
 | .flt b,u=>∃ t,u=Value.float b t
 | .ref a,u=>u=Value.ref a
 | .ty n,u=>u=Value.type n
noncomputable abbrev Vals:List V→List Value→Prop:=Paired RelV
theorem Vals.length {xs:List V}{us:List Value}(r:Vals xs us):xs.length=us.length:=Paired.length r
theorem Vals.get:∀ {xs:List V}{us:List Value}{i:Nat}{x:V},Vals xs us→xs[i]? = some x→∃ u,us[i]? = some u∧RelV x u
 | _,_,_,_,.nil,e=>by simp at e
 | _,_,0,_,.cons r _,e=>by simp at e;subst e;exact ⟨_,rfl,r⟩
 | _,_,i+1,x,.cons _ t,e=>by
  obtain ⟨u,h1,h2⟩:=Vals.get (i:=i) (x:=x) t (by simpa using e)
  exact ⟨u,by simpa using h1,h2⟩
theorem Vals.set {x:V}{u:Value}(r:RelV x u):∀ {xs:List V}{us:List Value}(i:Nat),Vals xs us→Vals (xs.set i x) (us.set i u)
 | _,_,_,.nil=>.nil
 | _,_,0,.cons _ t=>.cons r t
 | _,_,i+1,.cons q t=>.cons q (Vals.set r i t)
theorem Vals.append:∀ {xs ys:List V}{us ws:List Value},Vals xs us→Vals ys ws→Vals (xs++ys) (us++ws)
 | _,_,_,_,.nil,s=>s
 | _,_,_,_,.cons r t,s=>.cons r (Vals.append t s)
theorem Vals.take:∀ {xs:List V}{us:List Value}(n:Nat),Vals xs us→Vals (xs.take n) (us.take n)
 | _,_,0,_=>.nil
 | _,_,_+1,.nil=>.nil
 | _,_,n+1,.cons r t=>.cons r (Vals.take n t)
theorem Vals.drop:∀ {xs:List V}{us:List Value}(n:Nat),Vals xs us→Vals (xs.drop n) (us.drop n)
 | _,_,0,r=>r
 | _,_,_+1,.nil=>.nil
 | _,_,n+1,.cons _ t=>Vals.drop n t
noncomputable def RelO:Option V→Option Value→Prop
 | some v,some u=>RelV v u
 | none,none=>True
 | _,_=>False
noncomputable def KV {κ:Type}:List (κ×V)→List (κ×Value)→Prop:=Paired fun (p:κ×V) (q:κ×Value)=>p.1=q.1∧RelV p.2 q.2
noncomputable def kV:Key→V
 | .inl i=>.int i
 | .inr x=>.str x
inductive HO where
 /-- a list -/
 | lst (xs:List V)
 /-- a tuple (never changes) -/
 | tup (xs:List V)
 /-- a dict whose keys are ints and texts;one whose keys are tuples of ints and texts (the empty one is both) -/
 | dK (kvs:List (Key×V)) | dT (kvs:List (List Key×V))
 /-- a set of ints: its members,its size -/
 | set (S:Int→Bool) (n:Nat)
 /-- an instance of the class at C,its dict at dx,its attributes -/
 | ins (C dx:Addr) (fs:List (Str×V))
 /-- the dict of the instance at x -/
 | own (x:Addr)
 /-- the dict of an exception -/
 | xd (fs:List (Str×V))
 /-- a bound method,f of x -/
 | met (f x:Addr)
 /-- a range object lo,lo+1,.. below hi -/
 | rng (lo hi:Int)
 /-- a thing that is known to the object (the script;a dict while a loop walks it): read,never written while it is so -/
 | frz (o:Obj) (u:HO)
 /-- a code object's table -/
 | tbl (ps:Array Value)
 /-- any other thing,by what is true of its one object (a def of one's own: SetO a S n:=HO.ext fun h=>..) -/
 | ext (φ:Heap→Prop)
noncomputable abbrev Hp:=Addr→Option HO
noncomputable def upd (H:Hp) (a:Addr) (o:HO):Hp:=fun b=>if b=a then some o else H b
theorem upd_same {H:Hp}{a:Addr}{o:HO}:upd H a o a=some o:=by unfold upd;rw [if_pos rfl]
theorem upd_ne {H:Hp}{a b:Addr}{o:HO}(h:b≠a):upd H a o b=H b:=by unfold upd;rw [if_neg h]
theorem ne_of {H:Hp}{a b:Addr}{o u:HO}(h:H a=some o) (h':H b=some u) (d:o≠u):a≠b:=by
 intro e;subst e;rw [h] at h';exact d (Option.some.inj h')
theorem ne_of_none {H:Hp}{a b:Addr}{o:HO}(h:H a=some o) (h':H b=none):a≠b:=by
 intro e;subst e;rw [h] at h';cases h'
section
variable (P:Program) (w:World)
noncomputable def ObjOk (H:Hp) (h:Heap) (a:Addr):HO→Prop
 | .lst xs=>xs.length≤sizeLine∧∃ (its:List Value) (n:Nat),Vals xs its∧h.get? a=some { cls:=.type "list",data:=.seq its.toArray n }
 | .tup xs=>xs.length≤sizeLine∧∃ its:List Value,Vals xs its∧IsTup h a its.toArray
 | .dK kvs=>kvs.length≤sizeLine∧(a==sysModules)=false∧∃ vs,KV kvs vs∧h.DictOf (mixKind P w) a vs
 | .dT kvs=>kvs.length≤sizeLine∧(a==sysModules)=false∧∃ xs:List (List Key×Addr×Value),
  Paired (fun (p:List Key×V) (q:List Key×Addr×Value)=>p.1=q.1∧H q.2.1=some (.tup (p.1.map kV))∧RelV p.2 q.2.2) kvs xs ∧
  ∃ o es ep,h.get? a=some o∧o.ExactDict∧o.data = .dict es ep∧es.toList=xs.map (entryOfKey (tupleKind (mixKind P w)))∧(xs.map (·.1)).Nodup
 | .set S n=>h.SetOf (intKind P w) a S n
 | .ins C dx fs=>H dx=some (.own a)∧fs.length≤1000∧dx≠a∧h.get? a=some (PySem.W.instObj C dx) ∧
  ∃ mA,h.Ns1 dx mA∧(∀ f,RelO (fs.lookup f) (mA f))∧PySem.Within mA (fs.map (·.1))
 | .own _=>∃ o,h.get? a=some o
 | .xd fs=>∃ mA,h.Ns1 a mA∧∀ f,RelO (fs.lookup f) (mA f)
 | .rng lo hi=>∃ t u v,h.get? a=some { cls:=.type "range",data:=.fields #[.int lo t,.int hi u,.int 1 v] }
 | .frz o u=>h.get? a=some o∧ObjOk H h a u
 | .tbl ps=>h.get? a=some { cls:=.none,data:=.fields ps }
 | .met f x=>h.get? a=some (PySem.W.methodObj (.ref f) (.ref x))
 | .ext φ=>φ h∧(∃ o,h.get? a=some o)∧∀ h1 h2:Heap,φ h1→(∀ o,h1.get? a=some o→h2.get? a=some o)→φ h2
noncomputable def HOk (H:Hp) (h:Heap):Prop:=∀ a o,H a=some o→ObjOk P w H h a o
end
section
variable {P:Program}{w:World}{H H':Hp}{h h':Heap}{a:Addr}{o:HO}
theorem ObjOk.lt (x:ObjOk P w H h a o):a<h.objs.size:=by
 cases o with
 | lst xs=>obtain ⟨_,_,_,_,e⟩:=x;exact Heap.lt_size e
 | tup xs=>obtain ⟨_,_,_,p⟩:=x;exact p.lt
 | dK kvs=>obtain ⟨_,_,_,_,o,_,_,e,_⟩:=x;exact Heap.lt_size e
 | dT kvs=>obtain ⟨_,_,_,_,o,_,_,e,_⟩:=x;exact Heap.lt_size e
 | set S n=>obtain ⟨o,_,_,_,e,_⟩:=x;exact Heap.lt_size e
 | ins C dx fs=>obtain ⟨_,_,_,e,_⟩:=x;exact Heap.lt_size e
 | own y=>obtain ⟨_,e⟩:=x;exact Heap.lt_size e
 | xd fs=>obtain ⟨_,⟨_,_,_,e,_⟩,_⟩:=x;exact Heap.lt_size e
 | rng lo hi=>obtain ⟨_,_,_,e⟩:=x;exact Heap.lt_size e
 | frz ob u=>obtain ⟨e,_⟩:=x;exact Heap.lt_size e
 | tbl ps=>exact Heap.lt_size (show h.get? a=some _ from x)
 | met f y=>exact Heap.lt_size (show h.get? a=some _ from x)
 | ext φ=>obtain ⟨_,⟨_,e⟩,_⟩:=x;exact Heap.lt_size e
theorem Paired.mapP {α β:Type}{F G:α→β→Prop}:∀ {l₁:List α}{l₂:List β},Paired F l₁ l₂→(∀ a b,F a b→G a b)→Paired G l₁ l₂
 | _,_,.nil,_=>.nil
 | _,_,.cons r t,f=>.cons (f _ _ r) (Paired.mapP t f)
theorem ObjOk.stay (x:ObjOk P w H h a o) (k:∀ b u,(b=a∨H b=some (.own a))→h.get? b=some u→h'.get? b=some u)
 (ho:∀ b,H b=some (.own a)→H' b=some (.own a)) (ht:∀ b xs,H b=some (.tup xs)→H' b=some (.tup xs)):ObjOk P w H' h' a o:=by
 induction o with
 | lst xs=>obtain ⟨z,its,n,r,e⟩:=x;exact ⟨z,its,n,r,k _ _ (.inl rfl) e⟩
 | tup xs=>obtain ⟨z,its,r,ob,e,c⟩:=x;exact ⟨z,its,r,ob,k _ _ (.inl rfl) e,c⟩
 | dK kvs=>obtain ⟨z,y,vs,r,ob,es,ep,e,c⟩:=x;exact ⟨z,y,vs,r,ob,es,ep,k _ _ (.inl rfl) e,c⟩
 | dT kvs=>
  obtain ⟨z,y,xs,r,ob,es,ep,e,c⟩:=x
  exact ⟨z,y,xs,Paired.mapP r fun p q z=>⟨z.1,ht _ _ z.2.1,z.2.2⟩,ob,es,ep,k _ _ (.inl rfl) e,c⟩
 | set S n=>obtain ⟨ob,es,ep,t,e,c⟩:=x;exact ⟨ob,es,ep,t,k _ _ (.inl rfl) e,c⟩
 | ins C dx fs=>
  obtain ⟨d,z,ne,e,mA,⟨od,es,ep,e2,c⟩,r⟩:=x
  exact ⟨ho _ d,z,ne,k _ _ (.inl rfl) e,mA,⟨od,es,ep,k _ _ (.inr d) e2,c⟩,r⟩
 | own y=>obtain ⟨ob,e⟩:=x;exact ⟨ob,k _ _ (.inl rfl) e⟩
 | xd fs=>obtain ⟨mA,⟨od,es,ep,e,c⟩,r⟩:=x;exact ⟨mA,⟨od,es,ep,k _ _ (.inl rfl) e,c⟩,r⟩
 | rng lo hi=>obtain ⟨t,u,v,e⟩:=x;exact ⟨t,u,v,k _ _ (.inl rfl) e⟩
 | frz ob u ih=>obtain ⟨e,q⟩:=x;exact ⟨k _ _ (.inl rfl) e,ih q⟩
 | tbl ps=>
  have e:h.get? a=some { cls:=.none,data:=.fields ps }:=x
  show h'.get? a=some { cls:=.none,data:=.fields ps }
  exact k a _ (.inl rfl) e
 | met f y=>
  have e:h.get? a=some (PySem.W.methodObj (.ref f) (.ref y)):=x
  show h'.get? a=some (PySem.W.methodObj (.ref f) (.ref y))
  exact k a _ (.inl rfl) e
 | ext φ=>obtain ⟨p,⟨o,e⟩,st⟩:=x;exact ⟨st _ _ p fun o q=>k _ _ (.inl rfl) q,⟨o,k _ _ (.inl rfl) e⟩,st⟩
theorem HOk.lt (x:HOk P w H h) (e:H a=some o):a<h.objs.size:=(x a o e).lt
theorem HOk.fresh (x:HOk P w H h) (e:h.objs.size≤a):H a=none:=by
 cases q:H a with
 | none=>rfl
 | some u=>exact absurd (Nat.lt_of_lt_of_le (x.lt q) e) (Nat.lt_irrefl _)
theorem HOk.kept (x:HOk P w H h) (k:∀ b u,h.get? b=some u→h'.get? b=some u):HOk P w H h':=fun a o e=>
 (x a o e).stay (fun b u _ q=>k b u q) (fun _ q=>q) fun _ _ q=>q
theorem HOk.laid (x:HOk P w H h) (k:∀ b u,h.get? b=some u→h'.get? b=some u) (hp:h.objs.size≤a) (new:ObjOk P w (upd H a o) h' a o):HOk P w (upd H a o) h':=fun b u e=>by
 have hn:=x.fresh hp
 by_cases hb:b=a
 · subst hb;rw [upd_same] at e;cases e;exact new
 · rw [upd_ne hb] at e
   exact (x b u e).stay (fun c v _ q=>k c v q) (fun c q=>by rw [upd_ne (ne_of_none q hn)];exact q) fun c xs q=>by rw [upd_ne (ne_of_none q hn)];exact q
end
noncomputable def Rd (H:Hp) (a:Addr) (u:HO):Prop:=H a=some u∨∃ o,H a=some (.frz o u)
theorem Rd.ok {P:Program}{w:World}{H:Hp}{h:Heap}{a:Addr}{u:HO}(r:Rd H a u) (x:HOk P w H h):ObjOk P w H h a u:=by
 rcases r with r | ⟨o,r⟩
 · exact x a u r
 · obtain ⟨_,q⟩:=x a _ r
   exact q
noncomputable def Mut:Option HO→Prop
 | some (.lst _)=>True
 | some (.dK _)=>True
 | some (.dT _)=>True
 | some (.set _ _)=>True
 | some (.ins _ _ _)=>True
 | some (.ext _)=>True
 | _=>False
section
variable {P:Program}{w:World}{H:Hp}{h h':Heap}{x e:Addr}{o':HO}
theorem HOk.write (ok:HOk P w H h) (mu:Mut (H x)) (he:e=x∨H e=some (.own x)) (k:∀ b u,b≠e→h.get? b=some u→h'.get? b=some u) (heo:∃ u,h'.get? e=some u)
 (new:ObjOk P w (upd H x o') h' x o'):HOk P w (upd H x o') h':=fun b u q=>by
 have nown:∀ c y,H c=some (.own y)→c≠x:=fun c y r z=>by subst z;rw [r] at mu;exact mu
 have ntup:∀ c xs,H c=some (.tup xs)→c≠x:=fun c xs r z=>by subst z;rw [r] at mu;exact mu
 by_cases hb:b=x
 · subst hb;rw [upd_same] at q;cases q;exact new
 · rw [upd_ne hb] at q
   by_cases hbe:b=e
   · have q':H b=some (.own x):=by
      rcases he with z | z
      · exact absurd (hbe.trans z) hb
      · rw [hbe];exact z
     rw [q] at q';cases q'
     obtain ⟨v,hv⟩:=heo
     exact ⟨v,by rw [hbe];exact hv⟩
   · refine (ok b u q).stay (fun c v hc r=>k c v ?_ r) (fun c r=>by rw [upd_ne (nown c b r)];exact r) fun c xs r=>by rw [upd_ne (ntup c xs r)];exact r
     rcases hc with rfl | hc
     · exact hbe
     · rintro rfl
       rcases he with z | z
       · exact nown c b hc z
       · rw [hc] at z;cases z;exact hb rfl
end
structure Un (fs ex:List Addr) (H H':Hp) (h h':Heap):Prop where
 keep:∀ b o,h.get? b=some o→H b=none→b∉fs→b∉ex→h'.get? b=some o
 slot:∀ b o,h.get? b=some o→H b=none→b∈fs→b∉ex→∃ sl,h'.get? b=some { o with slots:=sl }
 free:∀ b o,h.get? b=some o→H b=none→b∉ex→H' b=none
 there:∀ b o,h.get? b=some o→b∉ex→∃ o',h'.get? b=some o'
 tups:∀ b xs,H b=some (.tup xs)→H' b=some (.tup xs)
 frzs:∀ b o u,H b=some (.frz o u)→H' b=some (.frz o u)
 tbls:∀ b ps,H b=some (.tbl ps)→∃ more,H' b=some (.tbl (ps++more))
section
variable {fs fs' ex ex':List Addr}{H H1 H2:Hp}{h h1 h2 h':Heap}{a x e:Addr}{o:HO}
theorem Un.any (u:Un fs ex H H1 h h1) {b:Addr}{ob:Obj}(q:h.get? b=some ob) (n:H b=none) (hx:b∉ex):∃ sl,h1.get? b=some { ob with slots:=sl }:=by
 by_cases hb:b∈fs
 · exact u.slot b ob q n hb hx
 · exact ⟨ob.slots,u.keep b ob q n hb hx⟩
theorem Un.kept (k:∀ b u,h.get? b=some u→h'.get? b=some u):Un fs ex H H h h':=
 ⟨fun b ob q _ _ _=>k b ob q,fun b ob q _ _ _=>⟨ob.slots,k b ob q⟩,fun _ _ _ n _=>n,fun b ob q _=>⟨ob,k b ob q⟩,fun _ _ q=>q,fun _ _ _ q=>q,fun _ ps q=>⟨#[],by rw [q];simp⟩⟩
theorem Un.refl:Un fs ex H H h h:=Un.kept fun _ _ q=>q
theorem Un.laid (k:∀ b u,h.get? b=some u→h'.get? b=some u) (hp:h.objs.size≤a) (hn:H a=none):Un fs ex H (upd H a o) h h' where
 keep:=fun b u q _ _ _=>k b u q
 slot:=fun b u q _ _ _=>⟨u.slots,k b u q⟩
 free:=fun b u q n _=>by rw [upd_ne (Nat.ne_of_lt (Nat.lt_of_lt_of_le (Heap.lt_size q) hp))];exact n
 there:=fun b u q _=>⟨u,k b u q⟩
 tups:=fun b xs q=>by rw [upd_ne (ne_of_none q hn)];exact q
 frzs:=fun b u xs q=>by rw [upd_ne (ne_of_none q hn)];exact q
 tbls:=fun b ps q=>⟨#[],by rw [upd_ne (ne_of_none q hn),q];simp⟩
theorem Un.write (mu:Mut (H x)) (he:e=x∨H e=some (.own x)) (k:∀ b u,b≠e→h.get? b=some u→h'.get? b=some u) (heo:∃ u,h'.get? e=some u):Un fs ex H (upd H x o) h h':=by
 have hx:∀ b,H b=none→b≠x:=fun b n z=>by subst z;rw [n] at mu;exact mu
 have hb:∀ b,H b=none→b≠e:=fun b n z=>by
  subst z
  rcases he with r | r
  · exact hx b n r
  · rw [n] at r;cases r
 have hm:∀ b u,H b=some u→¬ Mut (some u)→b≠x:=fun b u q nm z=>by subst z;rw [q] at mu;exact nm mu
 refine ⟨fun b u q n _ _=>k b u (hb b n) q,fun b u q n _ _=>⟨u.slots,k b u (hb b n) q⟩,fun b u q n _=>by rw [upd_ne (hx b n)];exact n,fun b u q _=>?_,
  fun b xs q=>by rw [upd_ne (hm b _ q fun z=>z)];exact q,fun b u xs q=>by rw [upd_ne (hm b _ q fun z=>z)];exact q,fun b ps q=>⟨#[],by rw [upd_ne (hm b _ q fun z=>z),q];simp⟩⟩
 by_cases hbe:b=e
 · subst hbe;exact heo
 · exact ⟨u,k b u hbe q⟩
end
noncomputable def trk (h:Heap) (H:Hp):List Addr:=(List.range h.objs.size).filter fun a=>(H a).isSome
noncomputable def hidT (h:Heap) (H:Hp):Heap:=PySem.W.hideAll h (trk h H)
theorem hidT_size (h:Heap) (H:Hp):(hidT h H).objs.size=h.objs.size:=PySem.W.hideAll_size _ _
theorem hidT_get {h:Heap}{H:Hp}{b:Addr}{o:Obj}(e:h.get? b=some o) (n:H b=none):(hidT h H).get? b=some o:=
 PySem.W.hideAll_get _ e fun hm=>by
  have q:(H b).isSome=true:=(List.mem_filter.mp hm).2
  rw [n] at q;simp at q
theorem of_hidT {h:Heap}{H:Hp}{b:Addr}{o:Obj}(e:(hidT h H).get? b=some o):h.get? b=some o∧H b=none:=by
 have e':h.get? b=some o:=PySem.W.of_hideAll (trk h H) e
 refine ⟨e',?_⟩
 cases q:H b with
 | none=>rfl
 | some x=>
  have hm:b∈trk h H:=List.mem_filter.mpr ⟨List.mem_range.mpr (Heap.lt_size e'),by simp [q]⟩
  have z:(hidT h H).get? b=none:=PySem.W.hideAll_none (trk h H) hm
  rw [z] at e;cases e
noncomputable def allNews (g h:Heap) (L:Addr):List (Addr×Obj):=(List.range h.objs.size).filterMap fun a=>if a=L∨(g.get? a).isSome=true then none else (h.get? a).map fun o=>(a,o)
noncomputable def rest (g h:Heap) (L d:Addr):List (Addr×Obj):=(allNews g h L).filter fun p=>decide (p.1≠d)
structure Mod (K:PySem.W.Frag) (mg:Str→Option Value) (base:Heap):Prop where
 kin:K.In base
 glob:base.Ns mainGlobals mg
 blt:∃ mb,base.Ns builtinsNs mb∧∀ x:Str,x≠"__name__"→mb x=bootBuiltins x
 nolimit:base.NoLimit
structure Cx where
 prog:Program
 w:World
 K:PySem.W.Frag
 mg:Str→Option Value
 base:Heap
 A:Around
 N:List Str
 s₀:Shared
 H₀:Hp
 env:Env
 outer:List Env
 stack:List Env
 ex:List Addr
 fn:Str→Bool
 calm:Bool
 pn:List (Addr×Obj)
 xe:Value→Shared→Prop
noncomputable def frs (l:List Env):List Addr:=l.filterMap (·.frame)
noncomputable abbrev Cx.fs (X:Cx):List Addr:=frs X.outer
noncomputable def Vis (sc:Scope) (x:Str):Prop:=sc.names.lookup x=some .local ∨ sc.names.lookup x=some .cell∨sc.names.lookup x=some .free
noncomputable def Loc (sc:Scope) (x:Str):Prop:=sc.names.lookup x=some .local ∨ sc.names.lookup x=some .cell
noncomputable def Look (env:Env) (h:Heap) (m:Str→Option Value) (x:Str) (u:Value):Prop:=
 (env.kindOf x=some .local ∧ m x=some u)∨((env.kindOf x=some .cell∨env.kindOf x=some .free)∧∃ c,env.cells.lookup x=some c∧h.IsCell c (some u))
structure Cx.Ok (X:Cx):Prop where
 mod:Mod X.K X.mg X.base
 kind:X.env.scope.kind = .function
 glob:X.env.globals=mainGlobals
 blt:X.env.builtins=builtinsNs
 above:X.s₀.heap.objs.size≤X.env.locals
 inj:∀ x y c,X.env.cells.lookup x=some c→X.env.cells.lookup y=some c→x=y
 has:∀ x,(X.env.kindOf x=some .cell∨X.env.kindOf x=some .free)→∃ c,X.env.cells.lookup x=some c
 cab:∀ x c,X.fn x=true→X.env.cells.lookup x=some c→X.s₀.heap.objs.size≤c
 hd:X.calm=true→X.A.handled=none
 frames:X.A.frames=some X.stack
 stk:X.stack=X.outer∨(X.stack=X.env::X.outer∧X.env.frame=some X.env.locals)
 exf:∀ b∈X.ex,b≠X.env.locals∧∀ x c,X.env.cells.lookup x=some c→c≠b
 bs:∀ b o,X.base.get? b=some o→X.s₀.heap.get? b=some o∧X.H₀ b=none
 bsz:X.base.objs.size≤X.s₀.heap.objs.size
 noex:∀ b o,X.base.get? b=some o→b∉X.ex
 exfs:∀ b∈X.ex,b∉X.fs
 funs:X.s₀.heap.FunFrames X.base X.outer
 frf:∀ b∈X.fs,X.H₀ b=none
structure Inv (X:Cx) (pins:List (Addr×Obj)) (σ:List (Option V)) (H:Hp) (s:Shared):Prop where
 ok:X.Ok
 os:s.os=X.s₀.os
 bare:AllBare s.gens
 base:Un X.fs X.ex X.H₀ H X.s₀.heap s.heap
 loc:∃ m,s.heap.Ns X.env.locals m∧∀ (i:Nat) (x:Str) (v:V),X.N[i]? = some x→σ[i]? = some (some v)→Vis X.env.scope x→∃ u,RelV v u∧Look X.env s.heap m x u
 cell:∀ x c,X.env.cells.lookup x=some c→∃ v,s.heap.IsCell c v
 free:H X.env.locals=none
 freeC:∀ x c,X.env.cells.lookup x=some c→H c=none
 pin:∀ p∈X.pn++pins,s.heap.get? p.1=some p.2∧H p.1=none∧p.1≠X.env.locals∧p.1∉X.fs∧∀ v,p.2.data≠.cell v
 hok:HOk X.prog X.w H s.heap
 len:σ.length=X.N.length
section
variable {X:Cx}{pins:List (Addr×Obj)}{σ:List (Option V)}{H H':Hp}{s:Shared}{h':Heap}
theorem Cx.Ok.nofr (ok:X.Ok) {b:Addr}{o:Obj}(e:X.base.get? b=some o):b∉X.fs:=fun hb=>by
 have:=(ok.funs.mem hb).1
 rw [e] at this;cases this
theorem Inv.bs (I:Inv X pins σ H s):∀ b o,X.base.get? b=some o→s.heap.get? b=some o∧H b=none:=fun b o e=>
 ⟨I.base.keep b o (I.ok.bs b o e).1 (I.ok.bs b o e).2 (I.ok.nofr e) (I.ok.noex b o e),I.base.free b o (I.ok.bs b o e).1 (I.ok.bs b o e).2 (I.ok.noex b o e)⟩
theorem Inv.bk (I:Inv X pins σ H s):∀ b o,X.base.get? b=some o→s.heap.get? b=some o:=fun b o e=>(I.bs b o e).1
theorem Inv.mod (I:Inv X pins σ H s):Mod X.K X.mg X.base:=I.ok.mod
theorem Inv.kIn (I:Inv X pins σ H s):X.K.In s.heap:=I.ok.mod.kin.keeps I.bk
theorem Inv.nolimit (I:Inv X pins σ H s):s.heap.NoLimit:=I.ok.mod.nolimit.keeps I.bk
theorem Inv.lt (I:Inv X pins σ H s):X.env.locals<s.heap.objs.size:=let ⟨_,hn,_⟩:=I.loc;hn.lt
theorem Inv.sz (I:Inv X pins σ H s):X.s₀.heap.objs.size≤s.heap.objs.size:=Nat.le_trans I.ok.above (Nat.le_of_lt I.lt)
theorem Inv.nofs (I:Inv X pins σ H s) {a:Addr}(h:s.heap.objs.size≤a):a∉X.fs:=fun hb=>by
 obtain ⟨_,o,ho,_⟩:=I.ok.funs.mem hb
 exact absurd (Nat.lt_of_lt_of_le (Heap.lt_size ho) (Nat.le_trans I.sz h)) (Nat.lt_irrefl _)
theorem Inv.cne (I:Inv X pins σ H s):∀ x c,X.env.cells.lookup x=some c→c≠X.env.locals:=fun x c e z=>by
 obtain ⟨v,o,ho,hd⟩:=I.cell x c e
 obtain ⟨m,⟨o',es,ep,ho',hd',_⟩,_⟩:=I.loc
 rw [z,ho'] at ho;cases ho;rw [hd'] at hd;cases hd
theorem Inv.funs (I:Inv X pins σ H s):s.heap.FunFrames X.base X.outer:=by
 have all:∀ (l:List Env),(∀ b∈frs l,b∈X.fs)→X.s₀.heap.FunFrames X.base l→s.heap.FunFrames X.base l:=by
  intro l
  induction l with
  | nil=>intro _ _;trivial
  | cons env r ih=>
   intro hs hl
   obtain ⟨hk,⟨L,o,hf,hn,ho,hd⟩,hr⟩:=hl
   have hL:L∈X.fs:=hs L (by unfold frs;rw [List.filterMap_cons,hf];exact List.mem_cons_self)
   obtain ⟨sl,e⟩:=I.base.slot L o ho (I.ok.frf L hL) hL fun z=>I.ok.exfs L z hL
   exact ⟨hk,⟨L,_,hf,hn,e,hd⟩,ih (fun b hb=>hs b (by unfold frs;rw [List.filterMap_cons,hf];exact List.mem_cons_of_mem _ hb)) hr⟩
 exact all X.outer (fun _ hb=>hb) I.ok.funs
theorem Inv.stack (I:Inv X pins σ H s):s.heap.FunFrames X.base X.stack:=by
 rcases I.ok.stk with e | ⟨e,hf⟩
 · rw [e];exact I.funs
 · rw [e]
   obtain ⟨m,hn,_⟩:=I.loc
   refine .cons (by rw [I.ok.kind];decide) hf hn ?_ I.funs
   exact Heap.get?_none_of_le (Nat.le_trans I.ok.bsz I.ok.above)
theorem Inv.stkSub (I:Inv X pins σ H s):∀ b∈frs X.stack,b∈X.env.locals::X.fs:=fun b hb=>by
 rcases I.ok.stk with e | ⟨e,hf⟩
 · rw [e] at hb;exact List.mem_cons_of_mem _ hb
 · rw [e] at hb
   unfold frs at hb
   rw [List.filterMap_cons,hf] at hb
   exact hb
theorem Inv.stkFree (I:Inv X pins σ H s):∀ b∈frs X.stack,H b=none:=fun b hb=>by
 rcases List.mem_cons.mp (I.stkSub b hb) with e | hb
 · rw [e];exact I.free
 · obtain ⟨_,o,ho,_⟩:=I.ok.funs.mem hb
   exact I.base.free b o ho (I.ok.frf b hb) fun z=>I.ok.exfs b z hb
theorem Inv.step {g':Array GenState}{t':Nat}{d':Drawn}{ch:List Addr}(I:Inv X pins σ H s)
 (hch:∀ b∈ch,(b∈X.ex∨X.s₀.heap.objs.size≤b)∧b≠X.env.locals∧(∀ x c,X.env.cells.lookup x=some c→c≠b)∧∀ p∈X.pn++pins,p.1≠b)
 (keep:∀ b o,b≠X.env.locals→b∉X.fs→b∉ch→s.heap.get? b=some o→H b=none→h'.get? b=some o)
 (slot:∀ b o,b≠X.env.locals→b∈X.fs→b∉ch→s.heap.get? b=some o→H b=none→∃ sl,h'.get? b=some { o with slots:=sl }) (free:∀ b o,b∉ch→s.heap.get? b=some o→H b=none→H' b=none)
 (there:∀ b o,b∉ch→s.heap.get? b=some o→∃ o',h'.get? b=some o')
 (tups:∀ b xs,H b=some (.tup xs)→H' b=some (.tup xs)) (frzs:∀ b o u,H b=some (.frz o u)→H' b=some (.frz o u)) (tbls:∀ b ps,H b=some (.tbl ps)→∃ more,H' b=some (.tbl (ps++more)))
 (ns:∀ m,s.heap.Ns X.env.locals m→h'.Ns X.env.locals m) (hok:HOk X.prog X.w H' h') (hg:AllBare g') :
 Inv X pins σ H' { s with heap:=h',gens:=g',drawn:=d',toks:=t' }:=by
 have neL:∀ b o,X.s₀.heap.get? b=some o→b≠X.env.locals:=fun b o e=>Nat.ne_of_lt (Nat.lt_of_lt_of_le (Heap.lt_size e) I.ok.above)
 have neC:∀ b o,X.s₀.heap.get? b=some o→b∉X.ex→b∉ch:=fun b o e hx hb=>by
  rcases (hch b hb).1 with z | z
  · exact hx z
  · exact absurd (Nat.lt_of_lt_of_le (Heap.lt_size e) z) (Nat.lt_irrefl _)
 have cellK:∀ x c,X.env.cells.lookup x=some c→∀ v,s.heap.IsCell c v→h'.IsCell c v:=fun x c e v ⟨o,ho,hd⟩=>by
  have nch:c∉ch:=fun z=>(hch c z).2.2.1 x c e rfl
  by_cases hc:c∈X.fs
  · obtain ⟨sl,q⟩:=slot c o (I.cne x c e) hc nch ho (I.freeC x c e)
    exact ⟨_,q,hd⟩
  · exact ⟨o,keep c o (I.cne x c e) hc nch ho (I.freeC x c e),hd⟩
 refine ⟨I.ok,I.os,hg,⟨fun b o e n hb hx=>?_,fun b o e n hb hx=>?_,fun b o e n hx=>?_,fun b o e hx=>?_,fun b xs e=>tups b xs (I.base.tups b xs e),fun b o xs e=>frzs b o xs (I.base.frzs b o xs e),fun b ps e=>?_⟩,?_,fun x c e=>?_,?_,fun x c e=>?_,fun p hp=>?_,hok,I.len⟩
 · exact keep b o (neL b o e) hb (neC b o e hx) (I.base.keep b o e n hb hx) (I.base.free b o e n hx)
 · obtain ⟨sl,e1⟩:=I.base.slot b o e n hb hx
   obtain ⟨sl',e2⟩:=slot b _ (neL b o e) hb (neC b o e hx) e1 (I.base.free b o e n hx)
   exact ⟨sl',e2⟩
 · obtain ⟨o',e1⟩:=I.base.there b o e hx
   exact free b o' (neC b o e hx) e1 (I.base.free b o e n hx)
 · obtain ⟨o',e1⟩:=I.base.there b o e hx
   exact there b o' (neC b o e hx) e1
 · obtain ⟨m1,e1⟩:=I.base.tbls b ps e
   obtain ⟨m2,e2⟩:=tbls b _ e1
   exact ⟨m1++m2,by rw [e2,Array.append_assoc]⟩
 · obtain ⟨m,hn,hl⟩:=I.loc
   refine ⟨m,ns m hn,fun i x v e1 e2 e3=>?_⟩
   obtain ⟨u,r,l⟩:=hl i x v e1 e2 e3
   refine ⟨u,r,?_⟩
   rcases l with l | ⟨k,c,e,z⟩
   · exact .inl l
   · exact .inr ⟨k,c,e,cellK x c e _ z⟩
 · obtain ⟨v,z⟩:=I.cell x c e
   exact ⟨v,cellK x c e v z⟩
 · obtain ⟨m,⟨o,_,_,ho,_⟩,_⟩:=I.loc
   exact free _ o (fun z=>(hch _ z).2.1 rfl) ho I.free
 · obtain ⟨v,o,ho,hd⟩:=I.cell x c e
   exact free c o (fun z=>(hch c z).2.2.1 x c e rfl) ho (I.freeC x c e)
 · obtain ⟨e,n,ne,nf,d⟩:=I.pin p hp
   have nch:p.1∉ch:=fun z=>(hch p.1 z).2.2.2 p hp rfl
   exact ⟨keep p.1 p.2 ne nf nch e n,free p.1 p.2 nch e n,ne,nf,d⟩
theorem Inv.un {t':Nat}(I:Inv X pins σ H s) (u:Un X.fs [] H H' s.heap h') (hok:HOk X.prog X.w H' h'):Inv X pins σ H' { s with heap:=h',toks:=t' }:=by
 obtain ⟨m,⟨o,es,ep,ho,r⟩,_⟩:=id I.loc
 obtain ⟨sl,hL⟩:=u.any ho I.free (by simp)
 exact I.step (g':=s.gens) (d':=s.drawn) (ch:=[]) (fun _ z=>nomatch z) (fun b o _ hb _ e n=>u.keep b o e n hb (by simp)) (fun b o _ hb _ e n=>u.slot b o e n hb (by simp)) (fun b o _ e n=>u.free b o e n (by simp)) (fun b o _ e=>u.there b o e (by simp)) u.tups u.frzs u.tbls (fun m' hm=>by
  obtain ⟨o',es',ep',ho',r'⟩:=hm
  rw [ho] at ho';cases ho'
  exact ⟨_,es',ep',hL,r'⟩) hok I.bare
theorem Inv.call {g':Array GenState}{t':Nat}{d':Drawn}{ch:List Addr}(I:Inv X pins σ H s) (u:Un (frs X.stack) ch H H' s.heap h') (hok:HOk X.prog X.w H' h') (hg:AllBare g')
 (hch:∀ b∈ch,(b∈X.ex∨X.s₀.heap.objs.size≤b)∧b≠X.env.locals∧(∀ x c,X.env.cells.lookup x=some c→c≠b)∧∀ p∈X.pn++pins,p.1≠b) :
 Inv X pins σ H' { s with heap:=h',gens:=g',drawn:=d',toks:=t' }:=by
 obtain ⟨m,⟨o,es,ep,ho,r⟩,_⟩:=id I.loc
 obtain ⟨sl,hL⟩:=u.any ho I.free fun z=>(hch _ z).2.1 rfl
 exact I.step (ch:=ch) hch (fun b o hL hb hc e n=>u.keep b o e n (fun z=>(List.mem_cons.mp (I.stkSub b z)).elim hL hb) hc) (fun b o _ _ hc e n=>u.any e n hc) (fun b o hc e n=>u.free b o e n hc) (fun b o hc e=>u.there b o e hc) u.tups u.frzs u.tbls (fun m' hm=>by
  obtain ⟨o',es',ep',ho',r'⟩:=hm
  rw [ho] at ho';cases ho'
  exact ⟨_,es',ep',hL,r'⟩) hok hg
theorem Inv.turned {t':Nat}{it:Addr}(I:Inv X pins σ H s) (k:∀ b o,b≠it→s.heap.get? b=some o→h'.get? b=some o) (hn:H it=none) (hL:it≠X.env.locals)
 (h1:it∈X.ex∨X.s₀.heap.objs.size≤it) (h2:∀ x c,X.env.cells.lookup x=some c→c≠it) (h3:∀ p∈X.pn++pins,p.1≠it):Inv X pins σ H { s with heap:=h',toks:=t' }:=by
 have nit:∀ b u,H b=some u→b≠it:=fun b u e z=>by rw [z,hn] at e;cases e
 refine I.step (g':=s.gens) (d':=s.drawn) (ch:=[it]) (fun b hb=>?_) (fun b o _ _ hc e _=>k b o (fun z=>hc (by simp [z])) e) (fun b o _ _ hc e _=>⟨o.slots,k b o (fun z=>hc (by simp [z])) e⟩) (fun _ _ _ _ n=>n)
  (fun b o hc e=>⟨o,k b o (fun z=>hc (by simp [z])) e⟩) (fun _ _ e=>e) (fun _ _ _ e=>e) (fun b ps e=>⟨#[],by rw [e];simp⟩) (fun m hm=>?_) (fun b u e=>?_) I.bare
 · have e:b=it:=by simpa using hb
   subst e
   exact ⟨h1,hL,h2,h3⟩
 · obtain ⟨o,es,ep,ho,r⟩:=hm
   exact ⟨o,es,ep,k _ o (Ne.symm hL) ho,r⟩
 · refine (I.hok b u e).stay (fun c v hc q=>k c v ?_ q) (fun _ q=>q) fun _ _ q=>q
   rcases hc with z | z
   · rw [z];exact nit b u e
   · exact nit c _ z
theorem Inv.tok (I:Inv X pins σ H s) (t:Nat):Inv X pins σ H { s with toks:=t }:=I.un (h':=s.heap) (t':=t) Un.refl I.hok
theorem Inv.kept {t':Nat}(I:Inv X pins σ H s) (k:∀ b u,s.heap.get? b=some u→h'.get? b=some u):Inv X pins σ H { s with heap:=h',toks:=t' }:=I.un (Un.kept k) (I.hok.kept k)
theorem Inv.laid {a:Addr}{o:HO}{t':Nat}(I:Inv X pins σ H s) (k:∀ b u,s.heap.get? b=some u→h'.get? b=some u) (hp:s.heap.objs.size≤a) (new:ObjOk X.prog X.w (upd H a o) h' a o) :
 Inv X pins σ (upd H a o) { s with heap:=h',toks:=t' }:=I.un (Un.laid k hp (I.hok.fresh hp)) (I.hok.laid k hp new)
theorem Inv.write {x e:Addr}{o:HO}{t':Nat}(I:Inv X pins σ H s) (mu:Mut (H x)) (he:e=x∨H e=some (.own x)) (k:∀ b u,b≠e→s.heap.get? b=some u→h'.get? b=some u) (heo:∃ u,h'.get? e=some u)
 (new:ObjOk X.prog X.w (upd H x o) h' x o):Inv X pins σ (upd H x o) { s with heap:=h',toks:=t' }:=I.un (Un.write mu he k heo) (I.hok.write mu he k heo new)
theorem Inv.pins_of {pins':List (Addr×Obj)}(I:Inv X pins σ H s) (h:∀ p∈pins',s.heap.get? p.1=some p.2∧H p.1=none∧p.1≠X.env.locals∧p.1∉X.fs∧∀ v,p.2.data≠.cell v):Inv X pins' σ H s:=
 ⟨I.ok,I.os,I.bare,I.base,I.loc,I.cell,I.free,I.freeC,fun p hp=>(List.mem_append.mp hp).elim (fun z=>I.pin p (List.mem_append_left _ z)) (h p),I.hok,I.len⟩
theorem nodup_ix {N:List Str}(hN:N.Nodup) {i j:Nat}{x:Str}(a:N[i]? = some x) (b:N[j]? = some x):i=j:=by
 obtain ⟨h1,e1⟩:=List.getElem?_eq_some_iff.mp a
 obtain ⟨h2,e2⟩:=List.getElem?_eq_some_iff.mp b
 exact (List.getElem_inj hN).mp (e1.trans e2.symm)
theorem store_ok2 {M:Model}{A:Around}{E:Value→Shared→Prop}{i:Nat}{x:Str}{v:V}{u:Value}{Q:Unit→Shared→Prop}(I:Inv X pins σ H s) (hN:X.N.Nodup) (hi:X.N[i]? = some x) (hx:Loc X.env.scope x) (r:RelV v u)
 (h:∀ s',Inv X pins (σ.set i (some v)) H s'→(∃ a,Heap.SameBut a s.heap s'.heap∧(a=X.env.locals∨X.env.cells.lookup x=some a))→Q () s') (hf:X.fn x=true∨X.env.scope.names.lookup x=some .local := by first | exact .inl rfl | exact .inr rfl | assumption):wpAny M A (storeName X.env x u) Q E s:=by
 obtain ⟨m,hn,hl⟩:=id I.loc
 have hcls:(X.env.scope.kind == .class||(X.env.scope.kind == .module&&X.env.locals != X.env.globals))=false:=by rw [I.ok.kind];rfl
 have hiσ:i < σ.length:=by rw [I.len];exact (List.getElem?_eq_some_iff.mp hi).1
 have cne:=I.cne
 have tracked:∀ {a:Addr} {h':Heap},(∃ o,s.heap.get? a=some o∧H a=none)→Heap.SameBut a s.heap h'→HOk X.prog X.w H h':=fun {a h'} ha hs b ob e=>by
  obtain ⟨_,_,hfree⟩:=ha
  refine (I.hok b ob e).stay (fun c w' hc q=>(hs.2 c ?_).trans q) (fun _ q=>q) fun _ _ q=>q
  rintro rfl
  rcases hc with rfl | hc
  · rw [hfree] at e;cases e
  · rw [hfree] at hc;cases hc
 rcases hx with hk | hk
 · refine wpAny_storeName_local hk hn (fun h' hn' hs=>?_) hcls
   obtain ⟨oL,_,_,hoL,_⟩:=id hn
   refine h _ ⟨I.ok,I.os,I.bare,⟨fun b o e n hb hx=>?_,fun b o e n hb hx=>?_,I.base.free,fun b o e hx=>?_,I.base.tups,I.base.frzs,I.base.tbls⟩,⟨_,hn',fun j y v' e1 e2 e3=>?_⟩,fun y c e=>?_,I.free,I.freeC,fun p hp=>?_,tracked ⟨oL,hoL,I.free⟩ hs,by simpa using I.len⟩ ⟨_,hs,.inl rfl⟩
   · exact (hs.2 b (Nat.ne_of_lt (Nat.lt_of_lt_of_le (Heap.lt_size e) I.ok.above))).trans (I.base.keep b o e n hb hx)
   · obtain ⟨sl,e1⟩:=I.base.slot b o e n hb hx
     exact ⟨sl,(hs.2 b (Nat.ne_of_lt (Nat.lt_of_lt_of_le (Heap.lt_size e) I.ok.above))).trans e1⟩
   · obtain ⟨o',e1⟩:=I.base.there b o e hx
     exact ⟨o',(hs.2 b (Nat.ne_of_lt (Nat.lt_of_lt_of_le (Heap.lt_size e) I.ok.above))).trans e1⟩
   · by_cases hj:j=i
     · subst hj
       rw [hi] at e1;cases e1
       rw [List.getElem?_set_self hiσ] at e2
       cases e2
       exact ⟨u,r,.inl ⟨hk,by simp⟩⟩
     · rw [List.getElem?_set_ne (Ne.symm hj)] at e2
       obtain ⟨u',r',q⟩:=hl j y v' e1 e2 e3
       refine ⟨u',r',?_⟩
       rcases q with ⟨k,e⟩ | ⟨k,c,e,z⟩
       · refine .inl ⟨k,?_⟩
         have:y≠x:=fun e=>hj (nodup_ix hN e1 (e▸hi))
         simp [this,e]
       · exact .inr ⟨k,c,e,z.sameBut hs (cne y c e)⟩
   · obtain ⟨w',z⟩:=I.cell y c e
     exact ⟨w',z.sameBut hs (cne y c e)⟩
   · obtain ⟨e,n,ne,nf,d⟩:=I.pin p hp
     exact ⟨(hs.2 p.1 ne).trans e,n,ne,nf,d⟩
 · have hfn:X.fn x=true:=by
    rcases hf with z | z
    · exact z
    · rw [z] at hk;cases hk
   obtain ⟨c,hc⟩:=I.ok.has x (.inl hk)
   obtain ⟨w',z⟩:=I.cell x c hc
   refine wpAny_storeName_cell I.ok.kind hk hc z (fun h' hc' hs=>?_)
   obtain ⟨oc,hoc,hocd⟩:=id z
   refine h { s with heap:=h' } ⟨I.ok,I.os,I.bare,⟨fun b o e n hb hx=>?_,fun b o e n hb hx=>?_,I.base.free,fun b o e hx=>?_,I.base.tups,I.base.frzs,I.base.tbls⟩,⟨m,hn.sameBut hs (Ne.symm (cne x c hc)),fun j y v' e1 e2 e3=>?_⟩,fun y c' e=>?_,I.free,I.freeC,fun p hp=>?_,tracked ⟨oc,hoc,I.freeC x c hc⟩ hs,by simpa using I.len⟩ ⟨c,hs,.inr hc⟩
   · exact (hs.2 b (Nat.ne_of_lt (Nat.lt_of_lt_of_le (Heap.lt_size e) (I.ok.cab x c hfn hc)))).trans (I.base.keep b o e n hb hx)
   · obtain ⟨sl,e1⟩:=I.base.slot b o e n hb hx
     exact ⟨sl,(hs.2 b (Nat.ne_of_lt (Nat.lt_of_lt_of_le (Heap.lt_size e) (I.ok.cab x c hfn hc)))).trans e1⟩
   · obtain ⟨o',e1⟩:=I.base.there b o e hx
     exact ⟨o',(hs.2 b (Nat.ne_of_lt (Nat.lt_of_lt_of_le (Heap.lt_size e) (I.ok.cab x c hfn hc)))).trans e1⟩
   · by_cases hj:j=i
     · subst hj
       rw [hi] at e1;cases e1
       rw [List.getElem?_set_self hiσ] at e2
       cases e2
       exact ⟨u,r,.inr ⟨.inl hk,c,hc,hc'⟩⟩
     · rw [List.getElem?_set_ne (Ne.symm hj)] at e2
       obtain ⟨u',r',q⟩:=hl j y v' e1 e2 e3
       refine ⟨u',r',?_⟩
       rcases q with q | ⟨k,c',e,z'⟩
       · exact .inl q
       · refine .inr ⟨k,c',e,z'.sameBut hs ?_⟩
         rintro rfl
         exact hj (nodup_ix hN e1 (I.ok.inj _ _ _ e hc▸hi))
   · by_cases hcc:c'=c
     · subst hcc;exact ⟨_,hc'⟩
     · obtain ⟨w2,z2⟩:=I.cell y c' e
       exact ⟨w2,z2.sameBut hs hcc⟩
   · obtain ⟨e,n,ne,nf,d⟩:=I.pin p hp
     refine ⟨(hs.2 p.1 ?_).trans e,n,ne,nf,d⟩
     intro q
     rw [q,hoc] at e
     have q':oc=p.2:=Option.some.inj e
     exact d w' (by rw [← q'];exact hocd)
theorem store_ok {M:Model}{A:Around}{E:Value→Shared→Prop}{i:Nat}{x:Str}{v:V}{u:Value}{Q:Unit→Shared→Prop}(I:Inv X pins σ H s) (hN:X.N.Nodup) (hi:X.N[i]? = some x) (hx:Loc X.env.scope x) (r:RelV v u)
 (h:∀ s',Inv X pins (σ.set i (some v)) H s'→Q () s') (hf:X.fn x=true∨X.env.scope.names.lookup x=some .local := by first | exact .inl rfl | exact .inr rfl | assumption):wpAny M A (storeName X.env x u) Q E s:=
 store_ok2 I hN hi hx r (fun s' I' _=>h s' I') hf
theorem Inv.call' {s':Shared}{ch:List Addr}(I:Inv X pins σ H s) (ho:s'.os=s.os) (u:Un (frs X.stack) ch H H' s.heap s'.heap) (hok:HOk X.prog X.w H' s'.heap) (hg:AllBare s'.gens)
 (hch:∀ b∈ch,(b∈X.ex∨X.s₀.heap.objs.size≤b)∧b≠X.env.locals∧(∀ x c,X.env.cells.lookup x=some c→c≠b)∧∀ p∈X.pn++pins,p.1≠b):Inv X pins σ H' s':=by
 obtain ⟨h',g',d',t',o'⟩:=s'
 have e:o'=s.os:=ho
 subst e
 exact I.call (g':=g') (t':=t') (d':=d') u hok hg hch
end
noncomputable abbrev XK:=Value→Option Addr→Hp→Prop
noncomputable abbrev St:=List (Option V)
noncomputable abbrev VK:=V→Hp→Prop
noncomputable abbrev TE:=St→Hp→VK→Prop
noncomputable abbrev TT:=St→Hp→(Bool→Hp→Prop)→Prop
noncomputable abbrev TA:=St→Hp→(List V→Hp→Prop)→Prop
structure Ends where
 nx:St→Hp→Prop
 rt:VK
 bk:St→Hp→Prop:=fun _ _=>False
 ct:St→Hp→Prop:=fun _ _=>False
noncomputable abbrev TS:=Ends→St→Hp→Prop
noncomputable def EP (X:Cx) (pins:List (Addr×Obj)) (σ:St) (Q:VK) (u:Value) (s':Shared):Prop:=∃ v H',Inv X pins σ H' s'∧RelV v u∧Q v H'
noncomputable def TP (X:Cx) (pins:List (Addr×Obj)) (σ:St) (Q:Bool→Hp→Prop) (b:Bool) (s':Shared):Prop:=∃ H',Inv X pins σ H' s'∧Q b H'
noncomputable def AP (X:Cx) (pins:List (Addr×Obj)) (σ:St) (Q:List V→Hp→Prop) (us:List Value) (s':Shared):Prop:=∃ vs H',Inv X pins σ H' s'∧Vals vs us∧Q vs H'
noncomputable def SP (X:Cx) (pins:List (Addr×Obj)) (D:Ends) (f:Flow) (s':Shared):Prop:=
 match f with
 | .next=>∃ σ' H',Inv X pins σ' H' s'∧D.nx σ' H'
 | .brk=>∃ σ' H',Inv X pins σ' H' s'∧D.bk σ' H'
 | .cont=>∃ σ' H',Inv X pins σ' H' s'∧D.ct σ' H'
 | .ret u=>∃ v σ' H',Inv X pins σ' H' s'∧RelV v u∧D.rt v H'
noncomputable def PE (X:Cx) (e:Expr) (t:TE):Prop:=
 ∀ (pins:List (Addr×Obj)) (s:Shared) (σ:St) (H:Hp) (Q:VK),Inv X pins σ H s→t σ H Q→wpAny (model X.prog X.w) X.A (eval e X.env) (EP X pins σ Q) X.xe s
noncomputable def PT (X:Cx) (e:Expr) (t:TT):Prop:=
 ∀ (pins:List (Addr×Obj)) (s:Shared) (σ:St) (H:Hp) (Q:Bool→Hp→Prop),Inv X pins σ H s→t σ H Q→wpAny (model X.prog X.w) X.A (isTrue e X.env (eval e X.env)) (TP X pins σ Q) X.xe s
noncomputable def PW (X:Cx) (e:Expr) (t:TT):Prop:=
 ∀ (whole:Sem Value) (pins:List (Addr×Obj)) (s:Shared) (σ:St) (H:Hp) (Q:Bool→Hp→Prop),Inv X pins σ H s→t σ H Q→wpAny (model X.prog X.w) X.A (isTrue e X.env whole) (TP X pins σ Q) X.xe s
theorem PW.pt {X:Cx}{e:Expr}{t:TT}(h:PW X e t):PT X e t:=h _
noncomputable def PA (X:Cx) (es:List Expr) (t:TA):Prop:=
 ∀ (pos:Pos) (pins:List (Addr×Obj)) (s:Shared) (σ:St) (H:Hp) (Q:List V→Hp→Prop),Inv X pins σ H s→t σ H Q→wpAny (model X.prog X.w) X.A (spliced (backTo pos (starEach es X.env))) (AP X pins σ Q) X.xe s
noncomputable def PS (X:Cx) (st:Stmt) (t:TS):Prop:=
 ∀ (pins:List (Addr×Obj)) (s:Shared) (σ:St) (H:Hp) (D:Ends),Inv X pins σ H s→t D σ H→wpAny (model X.prog X.w) X.A (exec st X.env) (SP X pins D) X.xe s
noncomputable def PSs (X:Cx) (st:List Stmt) (t:TS):Prop:=
 ∀ (pins:List (Addr×Obj)) (s:Shared) (σ:St) (H:Hp) (D:Ends),Inv X pins σ H s→t D σ H→wpAny (model X.prog X.w) X.A (execs st X.env) (SP X pins D) X.xe s
theorem thn {α:Type}{t:Sem α}{Q Q':α→Shared→Prop}{M:Model}{A:Around}{E:Value→Shared→Prop}{s:Shared}(h:wpAny M A t Q E s) (hQ:∀ a s,Q a s→Q' a s):wpAny M A t Q' E s:=wpAny_mono h hQ fun _ _ x=>x
section
variable {X:Cx}
noncomputable def tVar (i:Nat):TE:=fun σ H Q=>∃ v,σ[i]? = some (some v)∧Q v H
noncomputable def tC (v:V):TE:=fun _ H Q=>Q v H
theorem pe_var {i:Nat}{x:Str}{pos:Pos}(hN:X.N[i]? = some x) (hv:Vis X.env.scope x) (hd:(x==("__debug__":Str))=false:=by decide) (hcd:(x==("__classdict__":Str))=false:=by decide):PE X (.Name x pos) (tVar i):=by
 intro pins s σ H Q I h
 obtain ⟨v,e,h⟩:=h
 obtain ⟨m,hn,hl⟩:=I.loc
 obtain ⟨u,r,l⟩:=hl i x v hN e hv
 have fin:EP X pins σ Q u s:=⟨v,H,I,r,h⟩
 rcases l with ⟨hk,hm⟩ | ⟨hk,c,hc,hcell⟩
 · exact wpAny_Name (wpAny_loadName_local I.ok.kind hk hn hm fin) hd
 · rcases hk with hk | hk
   · exact wpAny_Name (wpAny_loadName_cell I.ok.kind hk hc hcell fin) hd
   · exact wpAny_Name (wpAny_loadName_free I.ok.kind hk hc hcell fin hcd) hd
theorem pe_int {i j pos}:PE X (.Constant (.int i) j pos) (tC (.int i)):=fun _ _ _ H _ I h=>wpAny_Constant_int ⟨.int i,H,I.tok _,⟨_,rfl⟩,h⟩
theorem pe_bl {b j pos}:PE X (.Constant (.bool b) j pos) (tC (.bl b)):=fun _ _ _ H _ I h=>Constant_bool ⟨.bl b,H,I,rfl,h⟩
theorem pe_non {j pos}:PE X (.Constant .none j pos) (tC .non):=fun _ _ _ H _ I h=>Constant_none ⟨.non,H,I,rfl,h⟩
noncomputable def Gl (X:Cx) (x:Str):Prop:=X.env.kindOf x=some .globalImplicit
theorem ld_glob {E:Value→Shared→Prop}{pins:List (Addr×Obj)}{s:Shared}{σ:St}{H:Hp}{x:Str}{u:Value}{pos:Pos}{Q:Value→Shared→Prop}(I:Inv X pins σ H s) (hg:Gl X x) (hm:X.mg x=some u) (h:Q u s)
 (hd:(x==("__debug__":Str))=false:=by decide):wpAny (model X.prog X.w) X.A (eval (.Name x pos) X.env) Q E s:=
 Calls.Name_function_global I.ok.kind hg (Calls.loadGlobal_global (by rw [I.ok.glob];exact I.mod.glob.keeps I.bk) hm h) hd
theorem ld_blt {E:Value→Shared→Prop}{pins:List (Addr×Obj)}{s:Shared}{σ:St}{H:Hp}{x:Str}{u:Value}{pos:Pos}{Q:Value→Shared→Prop}(I:Inv X pins σ H s) (hg:Gl X x) (hm:X.mg x=none) (hv:bootBuiltins x=some u) (h:Q u s)
 (hn:x≠"__name__":=by decide) (hd:(x==("__debug__":Str))=false:=by decide):wpAny (model X.prog X.w) X.A (eval (.Name x pos) X.env) Q E s:=by
 obtain ⟨mb,h1,h2⟩:=I.mod.blt
 exact Calls.Name_function_global I.ok.kind hg (Calls.loadGlobal_builtin (by rw [I.ok.glob];exact I.mod.glob.keeps I.bk) hm (by rw [I.ok.blt];exact h1.keeps I.bk) ((h2 x hn).trans hv) h) hd
theorem pe_bltn {x:Str}{v:V}{u:Value}{pos:Pos}(hg:Gl X x) (hm:X.mg x=none) (hv:bootBuiltins x=some u) (r:RelV v u) (hn:x≠"__name__":=by decide) (hd:(x==("__debug__":Str))=false:=by decide):PE X (.Name x pos) (tC v):=
 fun _ _ _ H _ I h=>ld_blt I hg hm hv ⟨v,H,I,r,h⟩ hn hd
variable {a b:Expr}{ta tb:TE}{pos:Pos}
noncomputable def PC (X:Cx) (op:CmpOp) (a b:Expr) (t:TE):Prop:=
 ∀ (pins:List (Addr×Obj)) (s:Shared) (σ:St) (H:Hp) (Q:VK),Inv X pins σ H s→t σ H Q →
  wpAny (model X.prog X.w) X.A (eval a X.env) (fun v s₁=>wpAny (model X.prog X.w) X.A (eval b X.env) (fun u s₂=>wpAny (model X.prog X.w) X.A (compareOp op v u) (EP X pins σ Q) X.xe s₂) X.xe s₁) X.xe s
theorem nobehind (b:Expr) {op:CmpOp}(h:op≠.In) (h2:op≠.NotIn):behindInMarks op b=false:=by
 have e1:(op==CmpOp.In)=false:=by cases op<;>first | rfl | exact absurd rfl h
 have e2:(op==CmpOp.NotIn)=false:=by cases op<;>first | rfl | exact absurd rfl h2
 cases b<;>simp [behindInMarks,e1,e2]
noncomputable def tB (t:TE):TT:=fun σ H Q=>t σ H fun x H1=>∃ c,x = .bl c∧Q c H1
theorem pt_cmp {op:CmpOp}{t:TE}(h:PC X op a b t) (h1:behindInMarks op b=false:=by first | exact nobehind _ (by decide) (by decide) | rfl):PT X (.Compare a [op] [b] pos) (tB t):=by
 intro pins s σ H Q I hw
 refine wpAny_isTrue_Compare1 (thn (h pins s σ H _ I hw) fun v s1 h1=>thn h1 fun u s2 h2=>thn h2 fun c s3 ⟨x,H1,I1,r1,q1⟩=>?_) h1
 obtain ⟨d,rfl,q⟩:=q1
 cases r1
 exact wpAny_truthy_bool ⟨H1,I1,q⟩
theorem pt_val {e:Expr}{t:TE}(h:PE X e t) (he:∀ whole,isTrue e X.env whole=(do let v ← whole;standAt e.pos;holding [v] (truthy v)):=by intro _;rfl):PT X e (tB t):=by
 intro pins s σ H Q I hw
 refine isTrue_plain (thn (h pins s σ H _ I hw) fun v s1 ⟨x,H1,I1,r1,q1⟩=>?_) (he _)
 obtain ⟨d,rfl,q⟩:=q1
 cases r1
 exact wpAny_truthy_bool ⟨H1,I1,q⟩
variable {tA tB':TT}{rest:List Expr}
noncomputable def tAnd (t u:TT):TT:=fun σ H Q=>t σ H fun c H1=>if c=true then u σ H1 Q else Q false H1
noncomputable def tOr (t u:TT):TT:=fun σ H Q=>t σ H fun c H1=>if c=true then Q true H1 else u σ H1 Q
noncomputable def tNot (t:TT):TT:=fun σ H Q=>t σ H fun c H1=>Q (!c) H1
theorem pw_and1 (ha:PT X a tA):PW X (.BoolOp .And [a] pos) tA:=by
 intro wh pins s σ H Q I h
 refine isTrue_and (thn (ha pins s σ H Q I h) fun c s1 e=>?_)
 cases c with
 | true=>exact isTrue_and_nil e
 | false=>exact e
theorem pw_or1 (ha:PT X a tA):PW X (.BoolOp .Or [a] pos) tA:=by
 intro wh pins s σ H Q I h
 refine isTrue_or (thn (ha pins s σ H Q I h) fun c s1 e=>?_)
 cases c with
 | false=>exact isTrue_or_nil e
 | true=>exact e
theorem pw_and (ha:PT X a tA) (hb:PW X (.BoolOp .And (b::rest) pos) tB'):PW X (.BoolOp .And (a::b::rest) pos) (tAnd tA tB'):=by
 intro wh pins s σ H Q I h
 refine isTrue_and (thn (ha pins s σ H _ I h) fun c s1 ⟨H1,I1,q1⟩=>?_)
 cases c with
 | true=>exact hb wh pins s1 σ H1 Q I1 q1
 | false=>exact ⟨H1,I1,q1⟩
theorem pw_or (ha:PT X a tA) (hb:PW X (.BoolOp .Or (b::rest) pos) tB'):PW X (.BoolOp .Or (a::b::rest) pos) (tOr tA tB'):=by
 intro wh pins s σ H Q I h
 refine isTrue_or (thn (ha pins s σ H _ I h) fun c s1 ⟨H1,I1,q1⟩=>?_)
 cases c with
 | true=>exact ⟨H1,I1,q1⟩
 | false=>exact hb wh pins s1 σ H1 Q I1 q1
theorem pt_not (ha:PT X a tA):PT X (.UnaryOp .Not a pos) (tNot tA):=by
 intro pins s σ H Q I h
 exact isTrue_not (ha pins s σ H (fun c H1=>Q (!c) H1) I h)
noncomputable def tAndV (ta tb:TE):TE:=fun σ H Q=>ta σ H fun x H1=>∃ c,x = .bl c∧if c=true then tb σ H1 Q else Q (.bl false) H1
noncomputable def tNotV (ta:TE):TE:=fun σ H Q=>ta σ H fun x H1=>∃ c,x = .bl c∧Q (.bl (!c)) H1
theorem pe_one {op} {t:TE}(h:PE X a t):PE X (.BoolOp op [a] pos) t:=fun pins s σ H Q I hw=>BoolOp_one (h pins s σ H Q I hw)
theorem pe_and (ha:PE X a ta) (hb:PE X (.BoolOp .And (b::rest) pos) tb):PE X (.BoolOp .And (a::b::rest) pos) (tAndV ta tb):=by
 intro pins s σ H Q I h
 refine BoolOp_and (thn (ha pins s σ H _ I h) fun v s1 ⟨x,H1,I1,r1,q1⟩=>?_)
 obtain ⟨c,rfl,q1⟩:=q1
 cases r1
 refine wpAny_truthy_bool ?_
 cases c with
 | true=>exact hb pins s1 σ H1 Q I1 q1
 | false=>exact ⟨.bl false,H1,I1,rfl,q1⟩
theorem pe_not (ha:PE X a ta):PE X (.UnaryOp .Not a pos) (tNotV ta):=by
 intro pins s σ H Q I h
 refine UnaryOp_ (thn (ha pins s σ H _ I h) fun v s1 ⟨x,H1,I1,r1,q1⟩=>?_)
 obtain ⟨c,rfl,q1⟩:=q1
 cases r1
 exact not_of (wpAny_truthy_bool ⟨.bl (!c),H1,I1,rfl,q1⟩)
noncomputable def tIf (t:TT) (ta tb:TE):TE:=fun σ H Q=>t σ H fun c H1=>if c=true then ta σ H1 Q else tb σ H1 Q
theorem pe_ifExp {c:Expr}(hc:PT X c tA) (ha:PE X a ta) (hb:PE X b tb):PE X (.IfExp c a b pos) (tIf tA ta tb):=by
 intro pins s σ H Q I h
 refine wpAny_IfExp (thn (hc pins s σ H _ I h) fun d s1 ⟨H1,I1,q1⟩=>?_)
 cases d with
 | true=>exact ha pins s1 σ H1 Q I1 q1
 | false=>exact hb pins s1 σ H1 Q I1 q1
end
noncomputable def SqL (K:PySem.W.Frag) (H:Hp) (a:Addr) (xs:List V):Prop:=
 Rd H a (.lst xs) ∨
  ∃ (o:Obj) (its:Array Value) (n:Nat),K.lookup a=some o∧o.cls = .type "list"∧o.dict=none∧o.data = .seq its n∧its.size≤sizeLine∧Vals xs its.toList
noncomputable def SqT (K:PySem.W.Frag) (H:Hp) (a:Addr) (xs:List V):Prop:=
 Rd H a (.tup xs) ∨
  ∃ (o:Obj) (its:Array Value) (n:Nat),K.lookup a=some o∧o.cls = .type "tuple"∧o.data = .seq its n∧its.size≤sizeLine∧Vals xs its.toList
noncomputable def absV:Value→Option V
 | .none=>some .non
 | .bool b=>some (.bl b)
 | .int i _=>some (.int i)
 | .str x _=>some (.str x)
 | .bytes b _=>some (.byt b)
 | .float b _=>some (.flt b)
 | .ref a=>some (.ref a)
 | .type n=>some (.ty n)
 | _=>none
theorem RelV.abs {x:V}{u:Value}(r:RelV x u):absV u=some x:=by
 cases x with
 | non=>cases r;rfl
 | bl _=>cases r;rfl
 | int _=>obtain ⟨t,rfl⟩:=r;rfl
 | str _=>obtain ⟨t,rfl⟩:=r;rfl
 | byt _=>obtain ⟨t,rfl⟩:=r;rfl
 | flt _=>obtain ⟨t,rfl⟩:=r;rfl
 | ref _=>cases r;rfl
 | ty _=>cases r;rfl
theorem RelV.inj {x y:V}{u:Value}(r:RelV x u) (q:RelV y u):x=y:=Option.some.inj (r.abs.symm.trans q.abs)
theorem Vals.inj:∀ {xs ys:List V}{us:List Value},Vals xs us→Vals ys us→xs=ys
 | _,_,_,.nil,.nil=>rfl
 | _,_,_,.cons r t,.cons r' t'=>by rw [r.inj r',Vals.inj t t']
section
variable {X:Cx}{pins:List (Addr×Obj)}{σ:St}{H:Hp}{s:Shared}{a:Addr}{xs ys:List V}
theorem SqL.of {K:PySem.W.Frag}(h:H a=some (.lst xs)):SqL K H a xs:=.inl (.inl h)
theorem SqT.of {K:PySem.W.Frag}(h:H a=some (.tup xs)):SqT K H a xs:=.inl (.inl h)
theorem Inv.list (I:Inv X pins σ H s) (h:SqL X.K H a xs):∃ its:List Value,Vals xs its∧PlainL s.heap a its.toArray∧xs.length≤sizeLine:=by
 rcases h with h | ⟨o,its,n,hk,hc,hd,hs,hz,r⟩
 · obtain ⟨z,its,n,r,e⟩:=h.ok I.hok
   exact ⟨its,r,⟨_,n,e,rfl,rfl,rfl⟩,z⟩
 · refine ⟨its.toList,r,⟨o,n,I.kIn a o hk,hc,hd,by simpa using hs⟩,?_⟩
   have e:=r.length
   simp only [Array.length_toList] at e
   omega
theorem Inv.tuple (I:Inv X pins σ H s) (h:SqT X.K H a xs):∃ its:List Value,Vals xs its∧IsTup s.heap a its.toArray∧xs.length≤sizeLine:=by
 rcases h with h | ⟨o,its,n,hk,hc,hs,hz,r⟩
 · obtain ⟨z,its,r,p⟩:=h.ok I.hok
   exact ⟨its,r,p,z⟩
 · refine ⟨its.toList,r,⟨o,I.kIn a o hk,hc,n,by simpa using hs⟩,?_⟩
   have e:=r.length
   simp only [Array.length_toList] at e
   omega
theorem Inv.list_inj (I:Inv X pins σ H s) (h:SqL X.K H a xs) (h':SqL X.K H a ys):xs=ys:=by
 obtain ⟨its,r,⟨o,n,e,_,_,d⟩,_⟩:=I.list h
 obtain ⟨its',r',⟨o',n',e',_,_,d'⟩,_⟩:=I.list h'
 rw [e] at e';cases e'
 rw [d] at d'
 injection d' with d1 _
 have:its=its':=by simpa using congrArg Array.toList d1
 subst this
 exact r.inj r'
theorem Inv.tuple_inj (I:Inv X pins σ H s) (h:SqT X.K H a xs) (h':SqT X.K H a ys):xs=ys:=by
 obtain ⟨its,r,⟨o,e,_,n,d⟩,_⟩:=I.tuple h
 obtain ⟨its',r',⟨o',e',_,n',d'⟩,_⟩:=I.tuple h'
 rw [e] at e';cases e'
 rw [d] at d'
 injection d' with d1 _
 have:its=its':=by simpa using congrArg Array.toList d1
 subst this
 exact r.inj r'
end
noncomputable abbrev Cx.wish (X:Cx) (E:Value→Shared→Prop):Cx:={ X with xe:=E }
noncomputable abbrev Cx.nox (X:Cx):Cx:=X.wish fun _ _=>False
theorem Cx.Ok.wish {X:Cx}(ok:X.Ok) (E:Value→Shared→Prop):(X.wish E).Ok:=
 ⟨ok.mod,ok.kind,ok.glob,ok.blt,ok.above,ok.inj,ok.has,ok.cab,ok.hd,ok.frames,ok.stk,ok.exf,ok.bs,ok.bsz,ok.noex,ok.exfs,ok.funs,ok.frf⟩
theorem Cx.Ok.unwish {X:Cx}{E:Value→Shared→Prop}(ok:(X.wish E).Ok):X.Ok:=
 ⟨ok.mod,ok.kind,ok.glob,ok.blt,ok.above,ok.inj,ok.has,ok.cab,ok.hd,ok.frames,ok.stk,ok.exf,ok.bs,ok.bsz,ok.noex,ok.exfs,ok.funs,ok.frf⟩
section
variable {X:Cx}{pins:List (Addr×Obj)}{σ:St}{H:Hp}{s:Shared}{E:Value→Shared→Prop}
theorem Inv.wish (I:Inv X pins σ H s) (E:Value→Shared→Prop):Inv (X.wish E) pins σ H s:=⟨I.ok.wish E,I.os,I.bare,I.base,I.loc,I.cell,I.free,I.freeC,I.pin,I.hok,I.len⟩
theorem Inv.unwish (I:Inv (X.wish E) pins σ H s):Inv X pins σ H s:=⟨I.ok.unwish,I.os,I.bare,I.base,I.loc,I.cell,I.free,I.freeC,I.pin,I.hok,I.len⟩
theorem SP.unwish {D:Ends}{f:Flow}{s':Shared}(h:SP (X.wish E) pins D f s'):SP X pins D f s':=by
 cases f with
 | next=>obtain ⟨σ',H',I,q⟩:=h;exact ⟨σ',H',I.unwish,q⟩
 | brk=>obtain ⟨σ',H',I,q⟩:=h;exact ⟨σ',H',I.unwish,q⟩
 | cont=>obtain ⟨σ',H',I,q⟩:=h;exact ⟨σ',H',I.unwish,q⟩
 | ret u=>obtain ⟨v,σ',H',I,r,q⟩:=h;exact ⟨v,σ',H',I.unwish,r,q⟩
theorem PSs.nox {st:List Stmt}{t:TS}(h:PSs X.nox st t):PSs X st t:=fun pins s σ H D I hw=>
 wpAny_mono (h pins s σ H D (I.wish _) hw) (fun _ _ q=>q.unwish) fun _ _ z=>False.elim z
end
section
variable {X:Cx}{st:Stmt}{rest:List Stmt}{t u:TS}{e:Expr}{te:TE}{pos:Pos}
noncomputable def tNext:TS:=fun D σ H=>D.nx σ H
noncomputable def tSeq (t u:TS):TS:=fun D σ H=>t { D with nx:=u D } σ H
theorem pss_nil:PSs X [] tNext:=fun _ _ σ H _ I h=>wpAny_execs_nil ⟨σ,H,I,h⟩
theorem pss_cons (h1:PS X st t) (h2:PSs X rest u):PSs X (st::rest) (tSeq t u):=by
 intro pins s σ H D I h
 refine wpAny_execs_cons (thn (h1 pins s σ H { D with nx:=u D } I h) fun f s1 q=>?_)
 cases f with
 | next=>
  obtain ⟨σ',H',I',q⟩:=q
  exact h2 pins s1 σ' H' D I' q
 | ret v=>exact q
 | brk=>exact q
 | cont=>exact q
theorem pss_one (h1:PS X st t):PSs X [st] t:=by
 intro pins s σ H D I h
 refine wpAny_execs_cons (thn (h1 pins s σ H D I h) fun f s1 q=>?_)
 cases f with
 | next=>exact wpAny_execs_nil q
 | ret v=>exact q
 | brk=>exact q
 | cont=>exact q
theorem Inv.quiet {pins:List (Addr×Obj)}{σ:St}{H:Hp}{s:Shared}(I:Inv X pins σ H s):interactive X.env=false:=by simp [interactive,I.ok.kind]
noncomputable def tDrop (te:TE):TS:=fun D σ H=>te σ H fun _ H1=>D.nx σ H1
theorem ps_expr (he:PE X e te) (hs:swapsWith e none pos.line X.env=pure false:=by rfl):PS X (.Expr e pos) (tDrop te):=by
 intro pins s σ H D I h
 exact wpAny_Expr_any (thn (he pins s σ H _ I h) fun v s1 ⟨x,H1,I1,r1,q1⟩=>⟨σ,H1,I1,q1⟩) I.quiet hs
noncomputable def tRet (te:TE):TS:=fun D σ H=>te σ H D.rt
theorem ps_ret (he:PE X e te):PS X (.Return (some e) pos) (tRet te):=by
 intro pins s σ H D I h
 exact wpAny_Return_some (thn (he pins s σ H _ I h) fun v s1 ⟨x,H1,I1,r1,q1⟩=>⟨x,σ,H1,I1,r1,q1⟩)
noncomputable def tIfS (c:TT) (t u:TS):TS:=fun D σ H=>c σ H fun b H1=>if b=true then t D σ H1 else u D σ H1
theorem ps_if {c:Expr}{a b:List Stmt}{tc:TT}(hc:PT X c tc) (ha:PSs X a t) (hb:PSs X b u):PS X (.If c a b pos) (tIfS tc t u):=by
 intro pins s σ H D I h
 refine wpAny_If (thn (hc pins s σ H _ I h) fun d s1 ⟨H1,I1,q1⟩=>?_)
 cases d with
 | true=>exact ha pins s1 σ H1 D I1 q1
 | false=>exact hb pins s1 σ H1 D I1 q1
end
noncomputable abbrev TG:=V→St→Hp→(St→Hp→Prop)→Prop
noncomputable abbrev TGs:=List V→St→Hp→(St→Hp→Prop)→Prop
noncomputable def PG (X:Cx) (target:Expr) (t:TG):Prop:=
 ∀ (pins:List (Addr×Obj)) (s:Shared) (σ:St) (H:Hp) (v:V) (u:Value) (Q:St→Hp→Prop),Inv X pins σ H s→RelV v u→t v σ H Q →
  wpAny (model X.prog X.w) X.A (assign target X.env u) (fun _ s'=>∃ σ' H',Inv X pins σ' H' s'∧Q σ' H') X.xe s
noncomputable def PGs (X:Cx) (ts:List Expr) (t:TGs):Prop:=
 ∀ (pins:List (Addr×Obj)) (s:Shared) (σ:St) (H:Hp) (vs:List V) (us:List Value) (Q:St→Hp→Prop),Inv X pins σ H s→Vals vs us→t vs σ H Q →
  wpAny (model X.prog X.w) X.A (assignInOrder ((assignEach ts X.env).map (·.2)) us) (fun _ s'=>∃ σ' H',Inv X pins σ' H' s'∧Q σ' H') X.xe s
noncomputable abbrev TSet:=V→V→V→Hp→(Hp→Prop)→Prop
noncomputable def PSet (X:Cx) (t:TSet):Prop:=
 ∀ (pins:List (Addr×Obj)) (s:Shared) (σ:St) (H:Hp) (o i v:V) (ov iv u:Value) (Q:Hp→Prop),Inv X pins σ H s→RelV o ov→RelV i iv→RelV v u→t o i v H Q →
  wpAny (model X.prog X.w) X.A (setItem ov iv u) (fun _ s'=>∃ H',Inv X pins σ H' s'∧Q H') X.xe s
noncomputable abbrev TIp:=V→V→Hp→VK→Prop
noncomputable def PIp (X:Cx) (op:Operator) (t:TIp):Prop:=
 ∀ (pins:List (Addr×Obj)) (s:Shared) (σ:St) (H:Hp) (x y:V) (v u:Value) (Q:VK),Inv X pins σ H s→RelV x v→RelV y u→t x y H Q →
  wpAny (model X.prog X.w) X.A (inplaceOp op v u) (EP X pins σ Q) X.xe s
section
variable {X:Cx}{pos:Pos}
noncomputable def gName (i:Nat):TG:=fun v σ H Q=>Q (σ.set i (some v)) H
theorem pg_name {i:Nat}{x:Str}(hN:X.N.Nodup) (hi:X.N[i]? = some x) (hx:Loc X.env.scope x) (hf:X.fn x=true∨X.env.scope.names.lookup x=some .local := by first | exact .inl rfl | exact .inr rfl | assumption):PG X (.Name x pos) (gName i):=by
 intro pins s σ H v u Q I r h
 exact wpAny_assign_Name (store_ok I hN hi hx r (fun s' I'=>⟨_,H,I',h⟩) hf)
noncomputable def gNil:TGs:=fun vs σ H Q=>vs=[]∧Q σ H
noncomputable def gCons (t:TG) (u:TGs):TGs:=fun vs σ H Q=>∃ v r,vs=v::r∧t v σ H fun σ' H'=>u r σ' H' Q
theorem pgs_nil:PGs X [] gNil:=by
 intro pins s σ H vs us Q I r h
 obtain ⟨e,h⟩:=h
 subst e
 cases r
 exact assignInOrder_nil ⟨σ,H,I,h⟩
theorem pgs_cons {e:Expr}{es:List Expr}{t:TG}{u:TGs}(h1:PG X e t) (h2:PGs X es u)
 (hs:(assignEach (e::es) X.env).map (·.2)=assign e X.env::(assignEach es X.env).map (·.2):=by rfl):PGs X (e::es) (gCons t u):=by
 intro pins s σ H vs us Q I r h
 obtain ⟨v,vr,e1,h⟩:=h
 subst e1
 cases r with
 | cons r rr=>
  rw [hs]
  refine assignInOrder_cons (thn (h1 pins s σ H _ _ _ I r h) fun _ s1 ⟨σ1,H1,I1,q1⟩=>?_)
  exact h2 pins s1 σ1 H1 _ _ Q I1 rr q1
noncomputable def gTup (K:PySem.W.Frag) (n:Nat) (t:TGs):TG:=fun v σ H Q=>∃ a xs,v = .ref a∧SqT K H a xs∧xs.length=n∧t xs σ H Q
theorem pg_tup {es:List Expr}{k:Nat}{t:TGs}{n:Nat}(hc:X.calm=true) (h:PGs X es t)
 (hn:(assignEach es X.env).length=n:=by rfl) (hst:(assignEach es X.env).findIdx? (·.1)=none:=by rfl):PG X (.Tuple es k pos) (gTup X.K n t):=by
 intro pins s σ H v u Q I r hw
 obtain ⟨a,xs,e1,hq,hl,hw⟩:=hw
 subst e1
 cases r
 obtain ⟨its,rv,ht,hz⟩:=I.tuple hq
 refine assign_Tuple_tuple (I.ok.hd hc) ht (by simp [hn,← hl,rv.length]) hst fun h' hx=>?_
 have I1:Inv X pins σ H { s with heap:=h' }:=I.kept (t':=s.toks) fun b o e=>hx b o (Nat.ne_of_lt (Heap.lt_size e)) e
 exact h pins _ σ H xs _ Q I1 (by simpa using rv) hw
noncomputable def gSub (to ti:TE) (t:TSet):TG:=fun v σ H Q=>to σ H fun o H1=>ti σ H1 fun i H2=>t o i v H2 fun H3=>Q σ H3
theorem pg_sub {o i:Expr}{to ti:TE}{t:TSet}(ho:PE X o to) (hi:PE X i ti) (hs:PSet X t)
 (ha:∀ v,assign (.Subscript o i pos) X.env v=(do
  let ov ← holding [v] (eval o X.env)
  let iv ← holding [v,ov] (eval i X.env)
  standAt pos
  holding [v,ov,iv] (setItem ov iv v)
  release [v,ov,iv] []):=by intro _;rfl):PG X (.Subscript o i pos) (gSub to ti t):=by
 intro pins s σ H v u Q I r h
 rw [ha]
 refine wpAny_bind (wpAny_holding (thn (ho pins s σ H _ I h) fun ov s1 ⟨x,H1,I1,r1,q1⟩=>?_))
 refine wpAny_bind (wpAny_holding (thn (hi pins s1 σ H1 _ I1 q1) fun iv s2 ⟨y,H2,I2,r2,q2⟩=>?_))
 refine wpAny_bind (wpAny_standAt (wpAny_bind (wpAny_holding (thn (hs pins s2 σ H2 x y v ov iv u _ I2 r1 r2 r q2) fun _ s3 ⟨H3,I3,q3⟩=>?_))))
 exact wpAny_release ⟨σ,H3,I3,q3⟩
noncomputable def tAsg (te:TE) (g:TG):TS:=fun D σ H=>te σ H fun x H1=>g x σ H1 D.nx
theorem ps_asg {tg e:Expr}{te:TE}{g:TG}(he:PE X e te) (hg:PG X tg g) (hs:swapsWithSole [tg] e pos.line X.env=pure false:=by rfl) (hw:swappedStores [tg] e X.env=pure none:=by rfl)
 (h1:(assignEach [tg] X.env).map (·.2)=[assign tg X.env]:=by rfl):PS X (.Assign [tg] e pos) (tAsg te g):=by
 intro pins s σ H D I h
 refine wpAny_Assign_stores (thn (he pins s σ H _ I h) fun v s1 ⟨x,H1,I1,r1,q1⟩=>?_) hs hw
 rw [h1]
 exact thn (hg pins s1 σ H1 x v _ I1 r1 q1) fun _ s2 q=>q
theorem ps_set {i:Nat}{x:Str}{e:Expr}{te:TE}{pos':Pos}(hN:X.N.Nodup) (hi:X.N[i]? = some x) (hx:Loc X.env.scope x) (he:PE X e te) (hs:swapsWith e (some (.Name x pos')) pos.line X.env=pure false:=by rfl) (hf:X.fn x=true∨X.env.scope.names.lookup x=some .local := by first | exact .inl rfl | exact .inr rfl | assumption) :
 PS X (.Assign [.Name x pos'] e pos) (tAsg te (gName i)):=by
 intro pins s σ H D I h
 refine wpAny_Assign_Name (thn (he pins s σ H _ I h) fun v s1 ⟨y,H1,I1,r1,q1⟩=>?_) hs
 exact store_ok I1 hN hi hx r1 (fun s2 I2=>⟨_,H1,I2,q1⟩) hf
noncomputable def tPar (i j:Nat) (ta:TA):TS:=fun D σ H=>ta σ H fun vs H1=>∃ v w,vs=[v,w]∧D.nx ((σ.set i (some v)).set j (some w)) H1
theorem ps_par {i j:Nat}{x y:Str}{a b:Expr}{ta:TA}{px py pt:Pos}{kt k2 pt2} (hc:X.calm=true) (hN:X.N.Nodup) (hi:X.N[i]? = some x) (hj:X.N[j]? = some y) (hij:i≠j)
 (hx:X.env.scope.names.lookup x=some .local) (hy:X.env.scope.names.lookup y=some .local) (ha:PA X [a,b] ta)
 (hw:swappedStores [.Tuple [.Name x px,.Name y py] kt pt] (.Tuple [a,b] k2 pt2) X.env=pure (some [x,y]))
 (hs:swapsWithSole [.Tuple [.Name x px,.Name y py] kt pt] (.Tuple [a,b] k2 pt2) pos.line X.env=pure false:=by rfl) :
 PS X (.Assign [.Tuple [.Name x px,.Name y py] kt pt] (.Tuple [a,b] k2 pt2) pos) (tPar i j ta):=by
 intro pins s σ H D I h
 rw [exec_Assign_arm]
 refine wpAny_bind (wpAny_standAt ?_)
 rw [hs]
 refine wpAny_bind (wpAny_pure ?_)
 rw [if_neg (by decide)]
 refine wpAny_bind (Tuple_ (thn (ha _ pins s σ H _ I h) fun us s1 ⟨vs,H1,I1,r1,q1⟩=>?_))
 obtain ⟨v,w,e1,q1⟩:=q1
 subst e1
 obtain ⟨u1,u2,rfl,rv,rw'⟩:∃ u1 u2,us=[u1,u2]∧RelV v u1∧RelV w u2:=by
  cases r1 with
  | cons p q=>
   cases q with
   | cons p' q'=>
    cases q'
    exact ⟨_,_,rfl,p,p'⟩
 refine wpAny_newObj_type ?_ (by show 2≤sizeLine;decide)
 have I2:Inv X pins σ H1 { s1 with heap:=s1.heap.push { cls:=.type "tuple",data:=.seq [u1,u2].toArray } }:=I1.kept (t':=s1.toks) fun b o e=>Heap.get?_push_of_some _ e
 rw [hw]
 refine wpAny_bind (wpAny_pure ?_)
 show wpAny (model X.prog X.w) X.A (do rule "assign.swapped-stores";let items ← unpackItems (.ref s1.heap.objs.size) 2 none;assignInOrder [fun v=>bindName X.env y v,fun v=>bindName X.env x v] items.reverse;pure Flow.next) _ _ _
 refine wpAny_bind (wpAny_rule (wpAny_bind (unpackItems_tuple (items:=#[u1,u2]) (I.ok.hd hc) (IsTup.new s1.heap _) fun h' hx'=>?_)))
 have I3:=I2.kept (h':=h') (t':=s1.toks) fun b o e=>hx' b o (Nat.ne_of_lt (Heap.lt_size e)) e
 show wpAny _ _ (assignInOrder [fun v=>bindName X.env y v,fun v=>bindName X.env x v] [u2,u1] >>= fun _=>pure Flow.next) _ _ _
 refine wpAny_bind (assignInOrder_cons (wpAny_bindName (store_ok I3 hN hj (.inl hy) rw' (fun s2 I4=>?_) (.inr hy))))
 refine assignInOrder_cons (wpAny_bindName (store_ok I4 hN hi (.inl hx) rv (fun s3 I5=>assignInOrder_nil (wpAny_pure ?_)) (.inr hx)))
 rw [List.set_comm _ _ (Ne.symm hij)] at I5
 exact ⟨_,H1,I5,q1⟩
noncomputable def tAug (i:Nat) (te:TE) (ti:TIp):TS:=fun D σ H=>∃ x,σ[i]? = some (some x)∧te σ H fun y H1=>ti x y H1 fun z H2=>D.nx (σ.set i (some z)) H2
theorem ps_aug {i:Nat}{x:Str}{e:Expr}{te:TE}{op:Operator}{ti:TIp}{pos':Pos}(hN:X.N.Nodup) (hi:X.N[i]? = some x) (hx:Loc X.env.scope x) (he:PE X e te) (ho:PIp X op ti) (hf:X.fn x=true∨X.env.scope.names.lookup x=some .local := by first | exact .inl rfl | exact .inr rfl | assumption) :
 PS X (.AugAssign (.Name x pos') op e pos) (tAug i te ti):=by
 intro pins s σ H D I h
 obtain ⟨v,e1,h⟩:=h
 obtain ⟨m,hn,hl⟩:=I.loc
 have vis:Vis X.env.scope x:=by rcases hx with k | k;exact .inl k;exact .inr (.inl k)
 obtain ⟨u,r,l⟩:=hl i x v hi e1 vis
 refine wpAny_AugAssign_Name ?_
 have go:wpAny (model X.prog X.w) X.A (eval e X.env) (fun w s₂=>wpAny (model X.prog X.w) X.A (inplaceOp op u w) (fun r s₃=>wpAny (model X.prog X.w) X.A (storeName X.env x r) (fun _=>SP X pins D .next) X.xe s₃) X.xe s₂) X.xe s:=by
  refine thn (he pins s σ H _ I h) fun w s1 ⟨y,H1,I1,r1,q1⟩=>?_
  refine thn (ho pins s1 σ H1 v y u w _ I1 r r1 q1) fun z s2 ⟨zv,H2,I2,r2,q2⟩=>?_
  exact store_ok I2 hN hi hx r2 (fun s3 I3=>⟨_,H2,I3,q2⟩) hf
 rcases l with ⟨hk,hm⟩ | ⟨hk,c,hc,hcell⟩
 · exact wpAny_loadName_local I.ok.kind hk hn hm go
 · rcases hk with hk | hk
   · exact wpAny_loadName_cell I.ok.kind hk hc hcell go
   · rcases hx with k | k
     · have:X.env.scope.names.lookup x=some .free:=hk
       rw [k] at this;cases this
     · have:X.env.scope.names.lookup x=some .free:=hk
       rw [k] at this;cases this
end
section
variable {X:Cx}{pos:Pos}
noncomputable def tWhile (c:TT) (tb:TS):TS:=fun D σ H=>∃ W:Nat→St→Hp→Prop,(∃ m,W m σ H)∧∀ m σ H,W m σ H →
 c σ H fun b H1=>if b=true then ∃ N:St→Hp→Prop,(∀ σ' H',N σ' H'→∃ m',m'<m∧W m' σ' H')∧tb { D with nx:=N,ct:=N,bk:=D.nx } σ H1 else D.nx σ H1
theorem ps_while {c:Expr}{body:List Stmt}{tc:TT}{tb:TS}(hp:PassesOwn (model X.prog X.w) X.A X.env X.xe) (hc:PT X c tc) (hb:PSs X body tb):PS X (.While c body [] pos) (tWhile tc tb):=by
 intro pins s σ H D I h
 obtain ⟨W,⟨m0,w0⟩,turn⟩:=h
 refine wpAny_While (codeAny_whileLoop (fun n s'=>∃ σ' H',Inv X pins σ' H' s'∧W n σ' H') ?_ m0 ⟨σ,H,I,w0⟩)
 rintro n s1 ⟨σ1,H1,I1,w1⟩
 refine wpAny_passesOwn hp (thn (hc pins s1 σ1 H1 _ I1 (turn n σ1 H1 w1)) fun b s2 ⟨H2,I2,q2⟩=>?_)
 cases b with
 | true=>
  obtain ⟨N,hN,q2⟩:=q2
  rw [if_pos rfl]
  refine wpAny_passesOwn hp (thn (hb pins s2 σ1 H2 _ I2 q2) fun f s3 q3=>?_)
  cases f with
  | next=>
   obtain ⟨σ3,H3,I3,n3⟩:=q3
   obtain ⟨m',hm,w3⟩:=hN σ3 H3 n3
   exact ⟨m',hm,σ3,H3,I3,w3⟩
  | cont=>
   obtain ⟨σ3,H3,I3,n3⟩:=q3
   obtain ⟨m',hm,w3⟩:=hN σ3 H3 n3
   exact ⟨m',hm,σ3,H3,I3,w3⟩
  | brk=>exact q3
  | ret v=>exact q3
 | false=>
  rw [if_neg Bool.false_ne_true]
  exact wpAny_execs_nil ⟨σ1,H2,I2,q2⟩
end
structure It where
 go:Nat→Hp→Prop
 yld:Nat→Hp→V→Hp→Prop
 stop:Nat→Hp→Prop
noncomputable def FpOk (X:Cx) (pins:List (Addr×Obj)) (H:Hp) (b:Addr):Prop:=
 H b=none∧b≠X.env.locals∧b∉X.fs∧(b∈X.ex∨X.s₀.heap.objs.size≤b)∧(∀ x c,X.env.cells.lookup x=some c→c≠b)∧∀ p∈X.pn++pins,p.1≠b
theorem Inv.fpOk {X:Cx}{pins:List (Addr×Obj)}{σ:St}{H H':Hp}{s:Shared}{b:Addr}(I:Inv X pins σ H s) (hb:s.heap.objs.size≤b) (hn:H' b=none):FpOk X pins H' b:=by
 refine ⟨hn,Nat.ne_of_gt (Nat.lt_of_lt_of_le I.lt hb),I.nofs hb,.inr (Nat.le_trans I.sz hb),fun x c e z=>?_,fun p hp z=>?_⟩
 · obtain ⟨v,q⟩:=I.cell x c e
   exact absurd (Nat.lt_of_lt_of_le q.lt (by rw [z];exact hb)) (Nat.lt_irrefl _)
 · exact absurd (Nat.lt_of_lt_of_le (Heap.lt_size (I.pin p hp).1) (by rw [z];exact hb)) (Nat.lt_irrefl _)
structure Turn (P:Program) (w:World) (K:PySem.W.Frag) (tg:Expr) (J:It) (fp:List Addr) (it:Addr) (tn:Nat→Heap→Prop):Prop where
 mem:it∈fp
 obj:∀ i h,tn i h→∀ b∈fp,∃ o,h.get? b=some o∧∀ v,o.data≠.cell v
 keep:∀ i h h',tn i h→(∀ b∈fp,∀ o,h.get? b=some o→h'.get? b=some o)→tn i h'
 item:∀ (X:Cx),X.prog=P→X.w=w→X.K=K→X.calm=true→∀ (i:Nat) (pins:List (Addr×Obj)) (s:Shared) (σ:St) (H:Hp) (E:Value→Shared→Prop),Inv X pins σ H s→(∀ b∈fp,FpOk X pins H b)→tn i s.heap→J.go i H →
  wpAny (model P w) X.A (pyNext (.ref it)) (fun r s1=>∃ u,r=some u ∧
   wpAny (model P w) X.A (letOwnedTupleGo tg (.ref it) u) (fun _ s2=>∃ x H',Inv X pins σ H' s2∧RelV x u∧J.yld i H x H'∧tn (i+1) s2.heap∧∀ b∈fp,H' b=none) E s1) E s
 done:∀ (X:Cx),X.prog=P→X.w=w→X.K=K→X.calm=true→∀ (i:Nat) (pins:List (Addr×Obj)) (s:Shared) (σ:St) (H:Hp) (E:Value→Shared→Prop),Inv X pins σ H s→(∀ b∈fp,FpOk X pins H b)→tn i s.heap→J.stop i H →
  wpAny (model P w) X.A (pyNext (.ref it)) (fun r s1=>r=none∧Inv X pins σ H s1) E s
 self:∀ (A:Around) (i:Nat) (s:Shared) (Q:Value→Shared→Prop) (E:Value→Shared→Prop),tn i s.heap→Q (.ref it) s→wpAny (model P w) A (pyIter (.ref it)) Q E s
noncomputable abbrev TI:=St→Hp→(It→Hp→Prop)→Prop
noncomputable def PIE (X:Cx) (pins:List (Addr×Obj)) (σ:St) (tg:Expr) (R:It→Hp→Prop) (itv:Value) (s2:Shared):Prop:=
 ∃ (it:Addr) (fp:List Addr) (tn:Nat→Heap→Prop) (J:It) (H':Hp),itv = .ref it∧Inv X pins σ H' s2∧Turn X.prog X.w X.K tg J fp it tn∧tn 0 s2.heap∧(∀ b∈fp,FpOk X pins H' b)∧R J H'
noncomputable def PI (X:Cx) (tg iter:Expr) (wi:TI):Prop:=
 ∀ (pins:List (Addr×Obj)) (s:Shared) (σ:St) (H:Hp) (R:It→Hp→Prop),Inv X pins σ H s→wi σ H R →
  wpAny (model X.prog X.w) X.A (eval iter X.env) (fun v s1=>wpAny (model X.prog X.w) X.A (pyIter v) (PIE X pins σ tg R) X.xe s1) X.xe s
theorem go_of {M:Model}{A:Around}{E:Value→Shared→Prop}{s:Shared}{tg:Expr}{it:Addr}{u:Value}{o:Obj}{n:String}{vs:Array Value}{Q:Unit→Shared→Prop}(ho:s.heap.get? it=some o) (hc:o.cls = .type n) (hd:o.data = .fields vs)
 (hn:["enumerate","zip","dict_itemiterator","dict_reverseitemiterator","odict_iterator","itertools.zip_longest","itertools.pairwise"].contains n=false) (hQ:Q () s):wpAny M A (letOwnedTupleGo tg (.ref it) u) Q E s:=by
 unfold letOwnedTupleGo
 cases tg<;>first
  | exact wpAny_pure hQ
  | (cases u<;>first
   | exact wpAny_pure hQ
   | (refine wpAny_bind (wpAny_load ho ?_)
      rw [hc,hd]
      show wpAny M A (if (["enumerate","zip","dict_itemiterator","dict_reverseitemiterator","odict_iterator","itertools.zip_longest","itertools.pairwise"].contains n&&vs[0]? == some (rawInt _))=true then _ else _) Q E s
      rw [if_neg (by intro h;rw [hn,Bool.false_and] at h;cases h)]
      exact wpAny_pure hQ))
noncomputable def Itl (K:PySem.W.Frag) (a:Addr):It:=
 ⟨fun i H=>∃ xs x,SqL K H a xs∧xs[i]? = some x,fun i H x H'=>H'=H∧∀ xs,SqL K H a xs→xs[i]? = some x,fun i H=>∃ xs,SqL K H a xs∧xs.length≤i⟩
noncomputable def Itt (K:PySem.W.Frag) (a:Addr):It:=
 ⟨fun i H=>∃ xs x,SqT K H a xs∧xs[i]? = some x,fun i H x H'=>H'=H∧∀ xs,SqT K H a xs→xs[i]? = some x,fun i H=>∃ xs,SqT K H a xs∧xs.length≤i⟩
noncomputable def Itr (lo:Int) (n:Nat):It:=⟨fun i _=>i<n,fun i H x H'=>H'=H∧x = .int (lo+i),fun i _=>n≤i⟩
theorem turn_list {P:Program}{w:World}{K:PySem.W.Frag}{tg:Expr}(a it:Addr):Turn P w K tg (Itl K a) [it] it (fun i h=>h.IsListIter it a i) where
 mem:=by simp
 obj:=fun i h st b hb=>by
  have e:b=it:=by simpa using hb
  subst e
  obtain ⟨o,e,c,d⟩:=st
  exact ⟨o,e,fun v z=>by rw [d] at z;cases z⟩
 keep:=fun i h h' st k=>st.at fun o e=>k it (by simp) o e
 item:=by
  intro X hP hw hK hc i pins s σ H E I hf st hg
  subst hP hw hK
  obtain ⟨xs,x,hq,hx⟩:=hg
  obtain ⟨its,rv,p,hz⟩:=I.list hq
  obtain ⟨u,hu,ru⟩:=rv.get hx
  obtain ⟨f0,f1,f2,f3,f4,f5⟩:=hf it (by simp)
  refine wpAny_pyNext_list_item st p.isList (x:=u) (by simpa using hu) fun h' st' sb=>?_
  have I1:Inv X pins σ H { s with heap:=h' }:=I.turned (t':=s.toks) (fun b o hb e=>(sb.2 b hb).trans e) f0 f1 f3 f4 f5
  obtain ⟨o,e,c,d⟩:=id st'
  exact ⟨u,rfl,go_of (s:={ s with heap:=h' }) e c d (by decide) ⟨x,H,I1,ru,⟨rfl,fun ys hy=>by rw [I.list_inj hy hq];exact hx⟩,st',fun b hb=>(hf b hb).1⟩⟩
 done:=by
  intro X hP hw hK hc i pins s σ H E I hf st hg
  subst hP hw hK
  obtain ⟨xs,hq,hx⟩:=hg
  obtain ⟨its,rv,p,hz⟩:=I.list hq
  obtain ⟨f0,f1,f2,f3,f4,f5⟩:=hf it (by simp)
  have hl:=rv.length
  exact wpAny_pyNext_list_end (I.ok.hd hc) st p.isList (by simp;omega) fun h' eb=>⟨rfl,I.turned (t':=s.toks) (fun b o hb e=>eb b o hb e) f0 f1 f3 f4 f5⟩
 self:=fun _ _ _ _ _ st h=>wpAny_pyIter_listiter st h
theorem turn_tuple {P:Program}{w:World}{K:PySem.W.Frag}{tg:Expr}(a it:Addr):Turn P w K tg (Itt K a) [it] it (fun i h=>h.IsTupleIter it a i) where
 mem:=by simp
 obj:=fun i h st b hb=>by
  have e:b=it:=by simpa using hb
  subst e
  obtain ⟨o,e,c,d⟩:=st
  exact ⟨o,e,fun v z=>by rw [d] at z;cases z⟩
 keep:=fun i h h' st k=>st.at fun o e=>k it (by simp) o e
 item:=by
  intro X hP hw hK hc i pins s σ H E I hf st hg
  subst hP hw hK
  obtain ⟨xs,x,hq,hx⟩:=hg
  obtain ⟨its,rv,p,hz⟩:=I.tuple hq
  obtain ⟨u,hu,ru⟩:=rv.get hx
  obtain ⟨f0,f1,f2,f3,f4,f5⟩:=hf it (by simp)
  refine wpAny_pyNext_tuple_item st (show s.heap.IsTuple a its.toArray from p) (x:=u) (by simpa using hu) fun h' st' sb=>?_
  have I1:Inv X pins σ H { s with heap:=h' }:=I.turned (t':=s.toks) (fun b o hb e=>(sb.2 b hb).trans e) f0 f1 f3 f4 f5
  obtain ⟨o,e,c,d⟩:=id st'
  exact ⟨u,rfl,go_of (s:={ s with heap:=h' }) e c d (by decide) ⟨x,H,I1,ru,⟨rfl,fun ys hy=>by rw [I.tuple_inj hy hq];exact hx⟩,st',fun b hb=>(hf b hb).1⟩⟩
 done:=by
  intro X hP hw hK hc i pins s σ H E I hf st hg
  subst hP hw hK
  obtain ⟨xs,hq,hx⟩:=hg
  obtain ⟨its,rv,p,hz⟩:=I.tuple hq
  obtain ⟨f0,f1,f2,f3,f4,f5⟩:=hf it (by simp)
  have hl:=rv.length
  exact wpAny_pyNext_tuple_end (I.ok.hd hc) st (show s.heap.IsTuple a its.toArray from p) (by simp;omega) fun h' eb=>⟨rfl,I.turned (t':=s.toks) (fun b o hb e=>eb b o hb e) f0 f1 f3 f4 f5⟩
 self:=fun _ _ _ _ _ st h=>wpAny_pyIter_tupleiter st h
theorem turn_range {P:Program}{w:World}{K:PySem.W.Frag}{tg:Expr}(it:Addr) (lo:Int) (n:Nat):Turn P w K tg (Itr lo n) [it] it (fun i h=>IsRangeIter h it (lo+(i:Nat)*1) ((n:Int)-(i:Nat)) 1) where
 mem:=by simp
 obj:=fun i h st b hb=>by
  have e:b=it:=by simpa using hb
  subst e
  exact ⟨_,st,fun v z=>by
   have z':Data.fields _=Data.cell v:=z
   cases z'⟩
 keep:=fun i h h' st k=>k it (by simp) _ st
 item:=by
  intro X hP hw hK hc i pins s σ H E I hf st hg
  subst hP hw hK
  obtain ⟨f0,f1,f2,f3,f4,f5⟩:=hf it (by simp)
  have W:=Walks.range (prog:=X.prog) (w:=X.w) (I.ok.hd hc) it lo 1 n
  refine W.item i s _ _ hg st fun v h' tk hv st' kk=>?_
  obtain ⟨t,rfl⟩:=hv
  have I1:Inv X pins σ H { s with heap:=h',toks:=tk }:=I.turned (fun b o hb e=>kk b o (by simpa using hb) e) f0 f1 f3 f4 f5
  refine ⟨_,rfl,go_of (s:={ s with heap:=h',toks:=tk }) (n:="range_iterator") st' rfl rfl (by decide) ⟨.int (lo+i),H,I1,⟨t,?_⟩,⟨rfl,rfl⟩,st',fun b hb=>(hf b hb).1⟩⟩
  rw [Int.mul_one]
 done:=by
  intro X hP hw hK hc i pins s σ H E I hf st hg
  subst hP hw hK
  obtain ⟨f0,f1,f2,f3,f4,f5⟩:=hf it (by simp)
  exact wpAny_pyNext_range_end (I.ok.hd hc) st (by have:n≤i:=hg;omega) fun h' eb=>⟨rfl,I.turned (t':=s.toks) (fun b o hb e=>eb b o hb e) f0 f1 f3 f4 f5⟩
 self:=fun _ _ _ _ _ st h=>wpAny_pyIter_rangeiter st h
section
variable {X:Cx}{tg:Expr}
noncomputable def iList (K:PySem.W.Frag) (tl:TE):TI:=fun σ H R=>tl σ H fun x H1=>∃ a,x = .ref a∧(∃ xs,SqL K H1 a xs)∧R (Itl K a) H1
noncomputable def iTup (K:PySem.W.Frag) (tl:TE):TI:=fun σ H R=>tl σ H fun x H1=>∃ a,x = .ref a∧(∃ xs,SqT K H1 a xs)∧R (Itt K a) H1
theorem pi_list {l:Expr}{tl:TE}(hl:PE X l tl):PI X tg l (iList X.K tl):=by
 intro pins s σ H R I h
 refine thn (hl pins s σ H _ I h) fun v s1 ⟨x,H1,I1,r1,q1⟩=>?_
 obtain ⟨a,e,⟨xs,hq⟩,q⟩:=q1
 subst e
 cases r1
 obtain ⟨its,rv,p,hz⟩:=I1.list hq
 refine wpAny_pyIter_list p.isList ?_
 refine ⟨s1.heap.objs.size,[s1.heap.objs.size],_,_,H1,rfl,I1.kept (t':=s1.toks) fun b o e=>Heap.get?_push_of_some _ e,turn_list a _,⟨_,Heap.get?_push_size _ rfl,rfl,rfl⟩,fun b hb=>?_,q⟩
 have e:b=s1.heap.objs.size:=by simpa using hb
 subst e
 exact I1.fpOk (Nat.le_refl _) (I1.hok.fresh (Nat.le_refl _))
theorem pi_tup {l:Expr}{tl:TE}(hl:PE X l tl):PI X tg l (iTup X.K tl):=by
 intro pins s σ H R I h
 refine thn (hl pins s σ H _ I h) fun v s1 ⟨x,H1,I1,r1,q1⟩=>?_
 obtain ⟨a,e,⟨xs,hq⟩,q⟩:=q1
 subst e
 cases r1
 obtain ⟨its,rv,p,hz⟩:=I1.tuple hq
 refine wpAny_pyIter_tuple (show s1.heap.IsTuple a its.toArray from p) ?_
 refine ⟨s1.heap.objs.size,[s1.heap.objs.size],_,_,H1,rfl,I1.kept (t':=s1.toks) fun b o e=>Heap.get?_push_of_some _ e,turn_tuple a _,⟨_,Heap.get?_push_size _ rfl,rfl,rfl⟩,fun b hb=>?_,q⟩
 have e:b=s1.heap.objs.size:=by simpa using hb
 subst e
 exact I1.fpOk (Nat.le_refl _) (I1.hok.fresh (Nat.le_refl _))
theorem range_it {pins:List (Addr×Obj)}{σ:St}{H:Hp}{s:Shared}{R:It→Hp→Prop}{E:Value→Shared→Prop}{lo hi:Int}{t u v:Tok}{tk:Nat}(I:Inv X pins σ H s) (h1:-(2^62)≤lo) (h2:lo<2^62) (h3:-(2^62)≤hi) (h4:hi<2^62)
 (q:R (Itr lo (hi-lo).toNat) H):wpAny (model X.prog X.w) X.A (pyIter (.ref s.heap.objs.size)) (PIE X pins σ tg R) E { s with heap:=s.heap.push { cls:=.type "range",data:=.fields #[.int lo t,.int hi u,.int 1 v] },toks:=tk }:=by
 refine wpAny_pyIter_range (IsRange.new ..) (small_one h1 h2 h3 h4) ?_
 have I1:Inv X pins σ H { s with heap:=s.heap.push { cls:=.type "range",data:=.fields #[.int lo t,.int hi u,.int 1 v] },toks:=tk }:=I.kept fun b o e=>Heap.get?_push_of_some _ e
 refine ⟨(s.heap.push { cls:=.type "range",data:=.fields #[.int lo t,.int hi u,.int 1 v] }).objs.size,[(s.heap.push { cls:=.type "range",data:=.fields #[.int lo t,.int hi u,.int 1 v] }).objs.size],_,_,H,rfl,
  I1.kept (t':=tk) fun b o e=>Heap.get?_push_of_some _ e,turn_range _ lo (hi-lo).toNat,?_,fun b hb=>?_,q⟩
 · have e1:lo+((0:Nat):Int)*1=lo:=by simp
   have e2:(((hi-lo).toNat:Nat):Int)-((0:Nat):Int)=Builtin.Range.rangeSize lo hi 1:=by rw [rangeSize_one];split<;>omega
   show IsRangeIter _ _ (lo+((0:Nat):Int)*1) ((((hi-lo).toNat:Nat):Int)-((0:Nat):Int)) 1
   rw [e1,e2]
   exact Heap.get?_push_size _ rfl
 · have e:b=(s.heap.push { cls:=.type "range",data:=.fields #[.int lo t,.int hi u,.int 1 v] }).objs.size:=by simpa using hb
   subst e
   exact I1.fpOk (Nat.le_refl _) (I1.hok.fresh (Nat.le_refl _))
noncomputable def iRng1 (ta:TA):TI:=fun σ H R=>ta σ H fun vs H1=>∃ j:Int,vs=[.int j]∧-(2^62)≤j∧j<2^62∧R (Itr 0 j.toNat) H1
theorem pi_range1 {a:Expr}{ta:TA}{p pos:Pos}(hg:Gl X "range") (hm:X.mg "range" = none) (ha:PA X [a] ta) (hs:starEach [a] X.env=[(false,eval a X.env)]:=by rfl):PI X tg (.Call (.Name "range" p) [a] [] pos) (iRng1 ta):=by
 intro pins s σ H R I h
 refine Call_ (ld_blt I hg hm boot_range (PyProof.Rows.callWith_type1 (thn (ha pos pins s σ H _ I h) fun us s1 ⟨vs,H1,I1,r1,q1⟩=>?_) hs rfl))
 obtain ⟨j,e,q1,q2,q⟩:=q1
 subst e
 cases r1 with
 | cons r rr=>
  cases rr
  obtain ⟨t,rfl⟩:=r
  exact call_range_1 (range_it I1 (by omega) (by omega) q1 q2 (by simpa using q))
noncomputable def tFor (wi:TI) (g:TG) (tb:TS):TS:=fun D σ H=>wi σ H fun J H1=>∃ W:Nat→Nat→St→Hp→Prop,(∃ m,W 0 m σ H1)∧∀ i m σ H,W i m σ H →
 (J.stop i H∧D.nx σ H)∨(J.go i H∧∃ N:St→Hp→Prop,(∀ σ' H',N σ' H'→∃ m',m'<m∧W (i+1) m' σ' H')∧∀ x H',J.yld i H x H'→g x σ H' fun σ2 H2=>tb { D with nx:=N,ct:=N,bk:=D.nx } σ2 H2)
noncomputable def pinsAt (fp:List Addr) (h:Heap):List (Addr×Obj):=fp.filterMap fun b=>(h.get? b).map fun o=>(b,o)
theorem mem_pinsAt {fp:List Addr}{h:Heap}{b:Addr}{o:Obj}(hb:b∈fp) (e:h.get? b=some o):(b,o)∈pinsAt fp h:=List.mem_filterMap.mpr ⟨b,hb,by rw [e];rfl⟩
theorem of_pinsAt {fp:List Addr}{h:Heap}{p:Addr×Obj}(hp:p∈pinsAt fp h):p.1∈fp∧h.get? p.1=some p.2:=by
 obtain ⟨b,hb,e⟩:=List.mem_filterMap.mp hp
 cases q:h.get? b with
 | none=>rw [q] at e;cases e
 | some o=>
  rw [q] at e
  have e':(b,o)=p:=Option.some.inj e
  subst e'
  exact ⟨hb,q⟩
theorem Inv.pinned {pins:List (Addr×Obj)}{σ:St}{H:Hp}{s:Shared}{fp:List Addr}(I:Inv X pins σ H s) (hf:∀ b∈fp,FpOk X pins H b) (ho:∀ b∈fp,∃ o,s.heap.get? b=some o∧∀ v,o.data≠.cell v):Inv X (pins++pinsAt fp s.heap) σ H s:=
 I.pins_of fun p hp=>(List.mem_append.mp hp).elim (fun z=>I.pin p (List.mem_append_right _ z)) fun z=>by
  obtain ⟨hb,e⟩:=of_pinsAt z
  obtain ⟨f0,f1,f2,_⟩:=hf p.1 hb
  obtain ⟨o,e',d⟩:=ho p.1 hb
  rw [e] at e';cases e'
  exact ⟨e,f0,f1,f2,d⟩
theorem Inv.unpinned {pins pl:List (Addr×Obj)}{σ:St}{H:Hp}{s:Shared}(I:Inv X (pins++pl) σ H s):Inv X pins σ H s:=I.pins_of fun p hp=>I.pin p (List.mem_append_right _ (List.mem_append_left _ hp))
theorem ps_for {iter:Expr}{body:List Stmt}{wi:TI}{g:TG}{tb:TS}{pos:Pos}(hp:PassesOwn (model X.prog X.w) X.A X.env X.xe) (hc:X.calm=true) (hi:PI X tg iter wi) (hg:PG X tg g) (hb:PSs X body tb)
 (hs:∀ x,foldedSetIterable iter X.env x=pure x:=by intro _;rfl):PS X (.For tg iter body [] pos) (tFor wi g tb):=by
 intro pins s σ H D I h
 refine wpAny_For (thn (hi pins s σ H _ I h) fun v s1 h1=>thn h1 fun itv s2 h2=>?_) hs
 obtain ⟨it,fp,tn,J,H2,e,I2,T,st2,f2,W,⟨m0,w0⟩,turn⟩:=h2
 subst e
 -- what stays true of the iterator's objects through the loop
 have stat:∀ {H':Hp},(∀ b∈fp,H' b=none)→∀ b∈fp,FpOk X pins H' b:=fun hn b hb=>⟨hn b hb,(f2 b hb).2⟩
 refine codeAny_forLoop_any (fun n s'=>∃ i σ' H',Inv X pins σ' H' s'∧tn i s'.heap∧(∀ b∈fp,H' b=none)∧W i n σ' H') ?_ m0 ⟨0,σ,H2,I2,st2,fun b hb=>(f2 b hb).1,w0⟩
 rintro n s3 ⟨i,σ3,H3,I3,st3,fr3,w3⟩
 rcases turn i n σ3 H3 w3 with ⟨stop,qn⟩ | ⟨go,N,hN,step⟩
 · refine wpAny_passesOwn hp (thn (T.done X rfl rfl rfl hc i pins s3 σ3 H3 X.xe I3 (stat fr3) st3 stop) fun r s4 ⟨hr,I4⟩=>?_)
   subst hr
   exact wpAny_execs_nil ⟨σ3,H3,I4,qn⟩
 · refine wpAny_passesOwn hp (thn (T.item X rfl rfl rfl hc i pins s3 σ3 H3 X.xe I3 (stat fr3) st3 go) fun r s4 ⟨u,hr,h4⟩=>?_)
   subst hr
   refine wpAny_passesOwn hp (thn h4 fun _ s5 ⟨x,H5,I5,r5,y5,st5,fr5⟩=>?_)
   have I5':=I5.pinned (stat fr5) (T.obj _ _ st5)
   refine wpAny_passesOwn hp (thn (hg _ s5 σ3 H5 x u _ I5' r5 (step x H5 y5)) fun _ s6 ⟨σ6,H6,I6,q6⟩=>?_)
   refine wpAny_passesOwn hp (thn (hb _ s6 σ6 H6 _ I6 q6) fun f s7 q7=>?_)
   have again:∀ {σ7:St} {H7:Hp},Inv X (pins++pinsAt fp s5.heap) σ7 H7 s7→N σ7 H7→∃ m,m<n∧∃ i σ' H',Inv X pins σ' H' s7∧tn i s7.heap∧(∀ b∈fp,H' b=none)∧W i m σ' H':=fun {σ7 H7} I7 n7=>by
    obtain ⟨m',hm,w7⟩:=hN σ7 H7 n7
    refine ⟨m',hm,i+1,σ7,H7,I7.unpinned,T.keep _ _ _ st5 fun b hb o e=>(I7.pin (b,o) (List.mem_append_right _ (List.mem_append_right _ (mem_pinsAt hb e)))).1,fun b hb=>?_,w7⟩
    obtain ⟨o,e,d⟩:=T.obj _ _ st5 b hb
    exact (I7.pin (b,o) (List.mem_append_right _ (List.mem_append_right _ (mem_pinsAt hb e)))).2.1
   cases f with
   | next=>obtain ⟨σ7,H7,I7,n7⟩:=q7;exact again I7 n7
   | cont=>obtain ⟨σ7,H7,I7,n7⟩:=q7;exact again I7 n7
   | brk=>obtain ⟨σ7,H7,I7,q7⟩:=q7;exact ⟨σ7,H7,I7.unpinned,q7⟩
   | ret v=>obtain ⟨x7,σ7,H7,I7,r7,q7⟩:=q7;exact ⟨x7,σ7,H7,I7.unpinned,r7,q7⟩
end
noncomputable abbrev R2:=V→V→Hp→VK→Prop
noncomputable def OpR (X:Cx) (f:Value→Value→Sem Value) (r:R2):Prop:=
 ∀ (pins:List (Addr×Obj)) (s:Shared) (σ:St) (H:Hp) (x y:V) (v u:Value) (Q:VK),Inv X pins σ H s→RelV x v→RelV y u→r x y H Q →
  wpAny (model X.prog X.w) X.A (f v u) (EP X pins σ Q) X.xe s
noncomputable def UnR (X:Cx) (f:Value→Sem Value) (r:V→Hp→VK→Prop):Prop:=
 ∀ (pins:List (Addr×Obj)) (s:Shared) (σ:St) (H:Hp) (x:V) (v:Value) (Q:VK),Inv X pins σ H s→RelV x v→r x H Q →
  wpAny (model X.prog X.w) X.A (f v) (EP X pins σ Q) X.xe s
noncomputable def CallR (X:Cx) (f:Value) (r:List V→Hp→VK→Prop):Prop:=
 ∀ (pins:List (Addr×Obj)) (s:Shared) (σ:St) (H:Hp) (xs:List V) (us:List Value) (Q:VK),Inv X pins σ H s→Vals xs us→r xs H Q →
  wpAny (model X.prog X.w) X.A (call f us) (EP X pins σ Q) X.xe s
noncomputable def TruR (X:Cx) (r:V→Hp→(Bool→Hp→Prop)→Prop):Prop:=
 ∀ (pins:List (Addr×Obj)) (s:Shared) (σ:St) (H:Hp) (x:V) (v:Value) (Q:Bool→Hp→Prop),Inv X pins σ H s→RelV x v→r x H Q →
  wpAny (model X.prog X.w) X.A (truthy v) (TP X pins σ Q) X.xe s
noncomputable def tOp (r:R2) (ta tb:TE):TE:=fun σ H Q=>ta σ H fun x H1=>tb σ H1 fun y H2=>r x y H2 Q
noncomputable def tUn (r:V→Hp→VK→Prop) (ta:TE):TE:=fun σ H Q=>ta σ H fun x H1=>r x H1 Q
noncomputable def rI (C:Int→Int→Prop) (g:Int→Int→V):R2:=fun x y H Q=>∃ i j,x = .int i∧y = .int j∧C i j∧Q (g i j) H
noncomputable def rI0 (g:Int→Int→V):R2:=fun x y H Q=>∃ i j,x = .int i∧y = .int j∧Q (g i j) H
noncomputable def rU (g:Int→V):V→Hp→VK→Prop:=fun x H Q=>∃ i,x = .int i∧Q (g i) H
section
variable {X:Cx}{a b c:Expr}{ta tb tc:TE}{pos:Pos}
theorem binT (ha:PE X a ta) (hb:PE X b tb) {pins:List (Addr×Obj)}{s:Shared}{σ:St}{H:Hp}{R:V→V→Hp→Prop}(I:Inv X pins σ H s)
 (h:ta σ H fun x H1=>tb σ H1 fun y H2=>R x y H2) {Q:Value→Shared→Prop} {f:Value→Value→Sem Value}
 (hf:∀ v u s2 x y H2,Inv X pins σ H2 s2→RelV x v→RelV y u→R x y H2→wpAny (model X.prog X.w) X.A (f v u) Q X.xe s2) :
 wpAny (model X.prog X.w) X.A (eval a X.env) (fun v s₁=>wpAny (model X.prog X.w) X.A (eval b X.env) (fun u s₂=>wpAny (model X.prog X.w) X.A (f v u) Q X.xe s₂) X.xe s₁) X.xe s:=by
 refine thn (ha pins s σ H _ I h) fun v s1 ⟨x,H1,I1,r1,q1⟩=>?_
 refine thn (hb pins s1 σ H1 _ I1 q1) fun u s2 ⟨y,H2,I2,r2,q2⟩=>?_
 exact hf v u s2 x y H2 I2 r1 r2 q2
theorem pe_op {op:Operator}{r:R2}(ho:OpR X (binaryOp op) r) (ha:PE X a ta) (hb:PE X b tb):PE X (.BinOp a op b pos) (tOp r ta tb):=by
 intro pins s σ H Q I h
 exact wpAny_BinOp (binT ha hb I h fun v u s2 x y H2 I2 rx ry q=>ho pins s2 σ H2 x y v u Q I2 rx ry q)
theorem pe_un {op:UnaryOp}{r:V→Hp→VK→Prop}(ho:UnR X (unaryOp op) r) (ha:PE X a ta):PE X (.UnaryOp op a pos) (tUn r ta):=by
 intro pins s σ H Q I h
 exact UnaryOp_ (thn (ha pins s σ H _ I h) fun v s1 ⟨x,H1,I1,r1,q1⟩=>ho pins s1 σ H1 x v Q I1 r1 q1)
theorem opI {f:Value→Value→Sem Value}{C:Int→Int→Prop}{g:Int→Int→Int}
 (rule:∀ (i j:Int) (t u:Tok) (s:Shared) (Q:Value→Shared→Prop) (E:Value→Shared→Prop),C i j→Q (.int (g i j) s.toks) { s with toks:=s.toks+1 }→wpAny (model X.prog X.w) X.A (f (.int i t) (.int j u)) Q E s) :
 OpR X f (rI C fun i j=>.int (g i j)):=by
 intro pins s σ H x y v u Q I rx ry h
 obtain ⟨i,j,rfl,rfl,hc,q⟩:=h
 obtain ⟨t,rfl⟩:=rx
 obtain ⟨t',rfl⟩:=ry
 exact rule i j t t' s _ _ hc ⟨.int (g i j),H,I.tok _,⟨_,rfl⟩,q⟩
theorem opI0 {f:Value→Value→Sem Value}{g:Int→Int→Int}
 (rule:∀ (i j:Int) (t u:Tok) (s:Shared) (Q:Value→Shared→Prop) (E:Value→Shared→Prop),Q (.int (g i j) s.toks) { s with toks:=s.toks+1 }→wpAny (model X.prog X.w) X.A (f (.int i t) (.int j u)) Q E s) :
 OpR X f (rI0 fun i j=>.int (g i j)):=by
 intro pins s σ H x y v u Q I rx ry h
 obtain ⟨i,j,rfl,rfl,q⟩:=h
 obtain ⟨t,rfl⟩:=rx
 obtain ⟨t',rfl⟩:=ry
 exact rule i j t t' s _ _ ⟨.int (g i j),H,I.tok _,⟨_,rfl⟩,q⟩
theorem opB0 {f:Value→Value→Sem Value}{g:Int→Int→Bool}
 (rule:∀ (i j:Int) (t u:Tok) (s:Shared) (Q:Value→Shared→Prop) (E:Value→Shared→Prop),Q (.bool (g i j)) s→wpAny (model X.prog X.w) X.A (f (.int i t) (.int j u)) Q E s) :
 OpR X f (rI0 fun i j=>.bl (g i j)):=by
 intro pins s σ H x y v u Q I rx ry h
 obtain ⟨i,j,rfl,rfl,q⟩:=h
 obtain ⟨t,rfl⟩:=rx
 obtain ⟨t',rfl⟩:=ry
 exact rule i j t t' s _ _ ⟨.bl (g i j),H,I,rfl,q⟩
noncomputable def CPow (i j:Int):Prop:=0≤j∧j≤1000000∧i.natAbs<2^64
noncomputable def CMul (i j:Int):Prop:=(-(2^64)<i∧i<2^64)∨(-(2^64)<j∧j<2^64)
theorem CMul.ok {i j:Int}(h:CMul i j):IntMulOk i j:=by
 rcases h with ⟨h1,h2⟩ | ⟨h1,h2⟩
 · exact .of_left (intBits_le_64 h1 h2)
 · exact .of_right (intBits_le_64 h1 h2)
theorem op_add:OpR X (binaryOp .Add) (rI0 fun i j=>.int (i+j)):=opI0 fun _ _ _ _ _ _ _ q=>add_int q
theorem op_sub:OpR X (binaryOp .Sub) (rI0 fun i j=>.int (i-j)):=opI0 fun _ _ _ _ _ _ _ q=>sub_int q
theorem op_mul:OpR X (binaryOp .Mult) (rI CMul fun i j=>.int (i*j)):=opI fun _ _ _ _ _ _ _ hc q=>mul_int q hc.ok
theorem op_mod:OpR X (binaryOp .Mod) (rI (fun _ j=>0<j) fun i j=>.int (i%j)):=opI fun i j _ _ _ _ _ hc q=>by
 have h1:(0:Int)<j:=hc
 exact mod_int' (by omega) (by rw [Int.fmod_eq_emod_of_nonneg i (by omega)];exact q)
theorem op_pow:OpR X (binaryOp .Pow) (rI CPow fun i j=>.int (i^j.toNat)):=opI fun _ _ _ _ _ _ _ hc q=>pow_int_small hc.1 hc.2.1 hc.2.2 q
theorem unI {f:Value→Sem Value}{g:Int→Int}
 (rule:∀ (i:Int) (t:Tok) (s:Shared) (Q:Value→Shared→Prop) (E:Value→Shared→Prop),Q (.int (g i) s.toks) { s with toks:=s.toks+1 }→wpAny (model X.prog X.w) X.A (f (.int i t)) Q E s) :
 UnR X f (rU fun i=>.int (g i)):=by
 intro pins s σ H x v Q I rx h
 obtain ⟨i,rfl,q⟩:=h
 obtain ⟨t,rfl⟩:=rx
 exact rule i t s _ _ ⟨.int (g i),H,I.tok _,⟨_,rfl⟩,q⟩
theorem un_neg:UnR X (unaryOp .USub) (rU fun i=>.int (-i)):=unI fun _ _ _ _ _ q=>neg_int q
end
noncomputable def scal:V→V→Bool
 | .non,.non=>true | .non,.int _=>true | .int _,.non=>true | .non,.bl _=>true | .bl _,.non=>true | .non,.str _=>true | .str _,.non=>true
 | .int _,.int _=>true | .bl _,.bl _=>true | .str _,.str _=>true | .byt _,.byt _=>true
 | .int _,.str _=>true | .str _,.int _=>true | .bl _,.str _=>true | .str _,.bl _=>true
 | _,_=>false
noncomputable def rEq:R2:=fun x y H Q=>scal x y=true∧Q (.bl (decide (x=y))) H
noncomputable def rNe:R2:=fun x y H Q=>scal x y=true∧Q (.bl (!decide (x=y))) H
theorem dec_int {i j:Int}:decide (V.int i=V.int j)=(i==j):=by
 rw [Bool.eq_iff_iff]
 simp
theorem dec_bl {i j:Bool}:decide (V.bl i=V.bl j)=(i==j):=by
 rw [Bool.eq_iff_iff]
 simp
theorem dec_str {i j:Str}:decide (V.str i=V.str j)=(i==j):=by
 rw [Bool.eq_iff_iff]
 simp
theorem dec_byt {i j:Array UInt8}:decide (V.byt i=V.byt j)=(i.toList==j.toList):=by
 rw [Bool.eq_iff_iff]
 cases i
 cases j
 simp
section
variable {X:Cx}{a b c:Expr}{ta tb tc:TE}{pos:Pos}
theorem fin_bl {pins:List (Addr×Obj)}{σ:St}{H:Hp}{s:Shared}{Q:VK}{k k':Bool}(I:Inv X pins σ H s) (q:Q (.bl k) H) (e:k=k'):EP X pins σ Q (.bool k') s:=by
 subst e
 exact ⟨.bl k,H,I,rfl,q⟩
theorem op_eq:OpR X (compareOp .Eq) rEq:=by
 intro pins s σ H x y v u Q I rx ry h
 obtain ⟨hs,q⟩:=h
 cases x with
 | non=>
  cases rx
  cases y with
  | non=>cases ry;exact PySem.EqNone.eq_none_none (fin_bl I q (by simp))
  | bl j=>cases ry;exact PySem.EqNone.eq_none_bool (fin_bl I q (by simp))
  | int j=>obtain ⟨t',rfl⟩:=ry;exact PySem.EqNone.eq_none_int (fin_bl I q (by simp))
  | str j=>obtain ⟨t',rfl⟩:=ry;exact PySem.EqNone.eq_none_str (fin_bl I q (by simp))
  | _=>exact absurd (show false=true from hs) Bool.false_ne_true
 | bl i=>
  cases rx
  cases y with
  | non=>cases ry;exact PySem.EqNone.eq_bool_none (fin_bl I q (by simp))
  | bl j=>cases ry;exact eq_bool (fin_bl I q dec_bl)
  | str j=>obtain ⟨t',rfl⟩:=ry;exact PySem.EqMixed.eq_bool_str (fin_bl I q (by simp))
  | _=>exact absurd (show false=true from hs) Bool.false_ne_true
 | int i=>
  obtain ⟨t,rfl⟩:=rx
  cases y with
  | non=>cases ry;exact PySem.EqNone.eq_int_none (fin_bl I q (by simp))
  | int j=>obtain ⟨t',rfl⟩:=ry;exact eq_int (fin_bl I q dec_int)
  | str j=>obtain ⟨t',rfl⟩:=ry;exact PySem.EqMixed.eq_int_str (fin_bl I q (by simp))
  | _=>exact absurd (show false=true from hs) Bool.false_ne_true
 | str i=>
  obtain ⟨t,rfl⟩:=rx
  cases y with
  | non=>cases ry;exact PySem.EqNone.eq_str_none (fin_bl I q (by simp))
  | bl j=>cases ry;exact PySem.EqMixed.eq_str_bool (fin_bl I q (by simp))
  | int j=>obtain ⟨t',rfl⟩:=ry;exact PySem.EqMixed.eq_str_int (fin_bl I q (by simp))
  | str j=>obtain ⟨t',rfl⟩:=ry;exact eq_str (fin_bl I q dec_str)
  | _=>exact absurd (show false=true from hs) Bool.false_ne_true
 | byt i=>
  obtain ⟨t,rfl⟩:=rx
  cases y with
  | byt j=>obtain ⟨t',rfl⟩:=ry;exact PySem.W.eq_bytes (fin_bl I q dec_byt)
  | _=>exact absurd (show false=true from hs) Bool.false_ne_true
 | _=>cases y<;>exact absurd (show false=true from hs) Bool.false_ne_true
theorem op_ne:OpR X (compareOp .NotEq) rNe:=by
 intro pins s σ H x y v u Q I rx ry h
 obtain ⟨hs,q⟩:=h
 cases x with
 | non=>
  cases rx
  cases y with
  | non=>cases ry;exact PySem.EqNone.ne_none_none (fin_bl I q (by simp))
  | bl j=>cases ry;exact PySem.EqNone.ne_none_bool (fin_bl I q (by simp))
  | int j=>obtain ⟨t',rfl⟩:=ry;exact PySem.EqNone.ne_none_int (fin_bl I q (by simp))
  | str j=>obtain ⟨t',rfl⟩:=ry;exact PySem.EqNone.ne_none_str (fin_bl I q (by simp))
  | _=>exact absurd (show false=true from hs) Bool.false_ne_true
 | bl i=>
  cases rx
  cases y with
  | non=>cases ry;exact PySem.EqNone.ne_bool_none (fin_bl I q (by simp))
  | bl j=>cases ry;exact ne_bool (fin_bl I q (congrArg not dec_bl))
  | str j=>obtain ⟨t',rfl⟩:=ry;exact PySem.EqMixed.ne_bool_str (fin_bl I q (by simp))
  | _=>exact absurd (show false=true from hs) Bool.false_ne_true
 | int i=>
  obtain ⟨t,rfl⟩:=rx
  cases y with
  | non=>cases ry;exact PySem.EqNone.ne_int_none (fin_bl I q (by simp))
  | int j=>obtain ⟨t',rfl⟩:=ry;exact ne_int (fin_bl I q (congrArg not dec_int))
  | str j=>obtain ⟨t',rfl⟩:=ry;exact PySem.EqMixed.ne_int_str (fin_bl I q (by simp))
  | _=>exact absurd (show false=true from hs) Bool.false_ne_true
 | str i=>
  obtain ⟨t,rfl⟩:=rx
  cases y with
  | non=>cases ry;exact PySem.EqNone.ne_str_none (fin_bl I q (by simp))
  | bl j=>cases ry;exact PySem.EqMixed.ne_str_bool (fin_bl I q (by simp))
  | int j=>obtain ⟨t',rfl⟩:=ry;exact PySem.EqMixed.ne_str_int (fin_bl I q (by simp))
  | str j=>obtain ⟨t',rfl⟩:=ry;exact ne_str (fin_bl I q (congrArg not dec_str))
  | _=>exact absurd (show false=true from hs) Bool.false_ne_true
 | byt i=>
  obtain ⟨t,rfl⟩:=rx
  cases y with
  | byt j=>obtain ⟨t',rfl⟩:=ry;exact PySem.W.ne_bytes (fin_bl I q (congrArg not dec_byt))
  | _=>exact absurd (show false=true from hs) Bool.false_ne_true
 | _=>cases y<;>exact absurd (show false=true from hs) Bool.false_ne_true
theorem op_lt:OpR X (compareOp .Lt) (rI0 fun i j=>.bl (decide (i<j))):=opB0 fun _ _ _ _ _ _ _ q=>lt_int q
theorem op_gt:OpR X (compareOp .Gt) (rI0 fun i j=>.bl (decide (j<i))):=opB0 fun _ _ _ _ _ _ _ q=>gt_int q
theorem op_ge:OpR X (compareOp .GtE) (rI0 fun i j=>.bl (decide (j≤i))):=opB0 fun _ _ _ _ _ _ _ q=>ge_int q
theorem nomark (b:Expr) {op:CmpOp}(h:op≠.In:=by decide) (h2:op≠.NotIn:=by decide):behindInMarks op b=false:=by
 have e1:(op==CmpOp.In)=false:=by cases op<;>first | rfl | exact absurd rfl h
 have e2:(op==CmpOp.NotIn)=false:=by cases op<;>first | rfl | exact absurd rfl h2
 cases b<;>simp [behindInMarks,e1,e2]
theorem pe_cmpR {op:CmpOp}{r:R2}(ho:OpR X (compareOp op) r) (ha:PE X a ta) (hb:PE X b tb) (hm:behindInMarks op b=false):PE X (.Compare a [op] [b] pos) (tOp r ta tb):=by
 intro pins s σ H Q I h
 exact wpAny_Compare1 (binT ha hb I h fun v u s2 x y H2 I2 rx ry q=>ho pins s2 σ H2 x y v u Q I2 rx ry q) hm
noncomputable def tTest (t:TE):TT:=fun σ H Q=>t σ H fun x H'=>∃ k,x = .bl k∧Q k H'
theorem pt_cmpR {op:CmpOp}{r:R2}(ho:OpR X (compareOp op) r) (ha:PE X a ta) (hb:PE X b tb) (hm:behindInMarks op b=false):PT X (.Compare a [op] [b] pos) (tTest (tOp r ta tb)):=by
 intro pins s σ H Q I h
 refine wpAny_isTrue_Compare1 (thn (ha pins s σ H _ I h) fun v s1 ⟨x,H1,I1,r1,q1⟩=>thn (hb pins s1 σ H1 _ I1 q1) fun u s2 ⟨y,H2,I2,r2,q2⟩=>
  thn (ho pins s2 σ H2 x y v u _ I2 r1 r2 q2) fun c s3 ⟨z,H3,I3,r3,k,e,q3⟩=>?_) hm
 subst e
 cases r3
 exact wpAny_truthy_bool ⟨H3,I3,q3⟩
noncomputable def TruV (K:PySem.W.Frag) (x:V) (H:Hp) (k:Bool):Prop:=
 match x with
 | .non=>k=false
 | .bl b=>k=b
 | .int i=>k=(i != 0)
 | .str y=>y.length≤sizeLine∧k=((y.length:Int) != 0)
 | .byt y=>y.size≤sizeLine∧k=((y.size:Int) != 0)
 | .ref p=>(∃ xs,SqL K H p xs∧k = !xs.isEmpty)∨(∃ xs,SqT K H p xs∧k = !xs.isEmpty)∨∃ kvs,H p=some (.dK kvs)∧k = !kvs.isEmpty
 | _=>False
theorem isEmpty_kv {κ:Type}{kvs:List (κ×V)}{vs:List (κ×Value)}(r:KV kvs vs):(!vs.isEmpty) = !kvs.isEmpty:=by
 cases r<;>rfl
theorem isEmpty_of {xs:List V}{its:List Value}(r:Vals xs its):(!its.toArray.isEmpty) = !xs.isEmpty:=by
 cases r<;>simp
theorem line63:(sizeLine:Nat)<2^63:=by rw [sizeLine_eq];decide
theorem tru_ok:TruR X (fun x H Q=>∃ k,TruV X.K x H k∧Q k H):=by
 intro pins s σ H x v Q I rx h
 obtain ⟨k,e,q⟩:=h
 have hl:=line63
 have hs:sizeLine=16777216:=sizeLine_eq
 cases x with
 | non=>
  cases rx
  have e':k=false:=e
  subst e'
  exact truthy_none ⟨H,I,q⟩
 | bl b=>
  cases rx
  have e':k=b:=e
  subst e'
  exact wpAny_truthy_bool ⟨H,I,q⟩
 | int i=>
  obtain ⟨t,rfl⟩:=rx
  have e':k=(i != 0):=e
  subst e'
  exact PySem.P.truthy_int ⟨H,I,q⟩
 | str y=>
  obtain ⟨t,rfl⟩:=rx
  obtain ⟨hy,e'⟩:y.length≤sizeLine∧k=((y.length:Int) != 0):=e
  subst e'
  exact PySem.P.truthy_str (by omega) ⟨H,I.tok _,q⟩
 | byt y=>
  obtain ⟨t,rfl⟩:=rx
  obtain ⟨hy,e'⟩:y.size≤sizeLine∧k=((y.size:Int) != 0):=e
  subst e'
  exact PySem.W.truthy_bytes (by omega) ⟨H,I.tok _,q⟩
 | ref p=>
  cases rx
  have e':(∃ xs,SqL X.K H p xs∧k = !xs.isEmpty)∨(∃ xs,SqT X.K H p xs∧k = !xs.isEmpty)∨∃ kvs,H p=some (.dK kvs)∧k = !kvs.isEmpty:=e
  rcases e' with ⟨xs,hx,e'⟩ | ⟨xs,hx,e'⟩ | ⟨kvs,hx,e'⟩
  · subst e'
    obtain ⟨its,r,pl,hz⟩:=I.list hx
    have hlen:=r.length
    exact wpAny_truthy_list pl.isList (by simp only [List.size_toArray];omega) ⟨H,I.tok _,by rw [isEmpty_of r];exact q⟩
  · subst e'
    obtain ⟨its,r,pl,hz⟩:=I.tuple hx
    have hlen:=r.length
    exact truthy_tuple pl (by simp only [List.size_toArray];omega) ⟨H,I.tok _,by rw [isEmpty_of r];exact q⟩
  · subst e'
    obtain ⟨hz,hS,vs,r,m⟩:kvs.length≤sizeLine∧(p==sysModules)=false∧∃ vs,KV kvs vs∧s.heap.DictOf (mixKind X.prog X.w) p vs:=I.hok p _ hx
    have hlen:kvs.length=vs.length:=Paired.length r
    exact wpAny_truthy_dict hS m (by omega) ⟨H,I.tok _,by rw [isEmpty_kv r];exact q⟩
 | _=>exact (show False from e).elim
theorem pt_truth (ha:PE X a ta) (he:∀ whole,isTrue a X.env whole=(do let v ← whole;standAt a.pos;holding [v] (truthy v))) :
 PT X a (fun σ H Q=>ta σ H fun x H'=>∃ k,TruV X.K x H' k∧Q k H'):=by
 intro pins s σ H Q I h
 exact isTrue_plain (thn (ha pins s σ H _ I h) fun v s1 ⟨x,H1,I1,r1,q1⟩=>tru_ok pins s1 σ H1 x v Q I1 r1 q1) (he _)
theorem vals1 {x:V}{us:List Value}(r:Vals [x] us):∃ u,us=[u]∧RelV x u:=by
 cases r with
 | cons r1 r2=>cases r2;exact ⟨_,rfl,r1⟩
theorem vals2 {x y:V}{us:List Value}(r:Vals [x,y] us):∃ u w',us=[u,w']∧RelV x u∧RelV y w':=by
 cases r with
 | cons r1 r2=>
  cases r2 with
  | cons r3 r4=>cases r4;exact ⟨_,_,rfl,r1,r3⟩
theorem call_abs:CallR X (.builtin "abs") (fun xs H Q=>∃ i,xs=[.int i]∧Q (.int (if i<0 then -i else i)) H):=by
 intro pins s σ H xs us Q I r h
 obtain ⟨i,rfl,q⟩:=h
 obtain ⟨u,rfl,t,rfl⟩:=vals1 r
 exact call_abs_int fun u tk=>⟨.int (if i<0 then -i else i),H,I.tok _,⟨_,rfl⟩,q⟩
theorem call_max2 (hc:X.calm=true):CallR X (.builtin "max") (fun xs H Q=>∃ i j,xs=[.int i,.int j]∧Q (.int (if j>i then j else i)) H):=by
 intro pins s σ H xs us Q I r h
 obtain ⟨i,j,rfl,q⟩:=h
 obtain ⟨u,w',rfl,⟨t,rfl⟩,⟨t',rfl⟩⟩:=vals2 r
 refine max_two_ints (I.ok.hd hc) fun h' tk k=>⟨_,H,I.kept k,?_,q⟩
 by_cases hj:j>i
 · rw [if_pos hj,if_pos hj];exact ⟨_,rfl⟩
 · rw [if_neg hj,if_neg hj];exact ⟨_,rfl⟩
theorem call_min2 (hc:X.calm=true):CallR X (.builtin "min") (fun xs H Q=>∃ i j,xs=[.int i,.int j]∧Q (.int (if j<i then j else i)) H):=by
 intro pins s σ H xs us Q I r h
 obtain ⟨i,j,rfl,q⟩:=h
 obtain ⟨u,w',rfl,⟨t,rfl⟩,⟨t',rfl⟩⟩:=vals2 r
 refine min_two_ints (I.ok.hd hc) fun h' tk k=>⟨_,H,I.kept k,?_,q⟩
 by_cases hj:j<i
 · rw [if_pos hj,if_pos hj];exact ⟨_,rfl⟩
 · rw [if_neg hj,if_neg hj];exact ⟨_,rfl⟩
theorem call_int1:CallR X (.type "int") (fun xs H Q=>(∃ i,xs=[.int i]∧Q (.int i) H)∨∃ k,xs=[.bl k]∧Q (.int (if k then 1 else 0)) H):=by
 intro pins s σ H xs us Q I r h
 rcases h with ⟨i,rfl,q⟩ | ⟨k,rfl,q⟩
 · obtain ⟨u,rfl,t,rfl⟩:=vals1 r
   exact call_int_int ⟨.int i,H,I,⟨_,rfl⟩,q⟩
 · obtain ⟨u,rfl,r1⟩:=vals1 r
   cases r1
   exact call_int_bool ⟨.int (if k then 1 else 0),H,I.tok _,⟨_,rfl⟩,q⟩
end
structure ObjM (h:Heap) (x dx C:Addr) (mA:Str→Option Value):Prop where
 obj:h.get? x=some (PySem.W.instObj C dx)
 ns:h.Ns1 dx mA
 ne:dx≠x
theorem lookIn_ns {h:Heap}{dx:Addr}{mA:Str→Option Value}(n:h.Ns1 dx mA):∃ od,h.get? dx=some od∧∀ name,PySem.W.lookIn name od=some (mA name):=by
 obtain ⟨o,es,ep,ho,hd,hk,_,hm⟩:=n
 refine ⟨o,ho,fun name=>?_⟩
 have e:=hm name
 unfold nsFind findBy at e
 rw [← Array.find?_toList] at e
 unfold PySem.W.lookIn
 rw [hd]
 dsimp only
 split
 · rename_i y q
   rw [q] at e
   exact congrArg some e
 · rename_i q
   rw [q] at e
   have a:es.toList.any (·.refKey)=false:=by
    rw [List.any_eq_false]
    intro y hy
    obtain ⟨z,t,hkey⟩:=hk y (Array.mem_toList_iff.mp hy)
    simp [DictEntry.refKey,hkey]
   have a':¬ es.toList.any (·.refKey)=true:=by rw [a];exact Bool.false_ne_true
   rw [if_neg a']
   exact congrArg some e
theorem ObjM.look {h:Heap}{x dx C:Addr}{mA:Str→Option Value}(I:ObjM h x dx C mA):∃ od,PySem.W.InstAt h x (PySem.W.instObj C dx) C (some od)∧∀ name,PySem.W.lookIn name od=some (mA name):=
 let ⟨od,ho,hl⟩:=lookIn_ns I.ns
 ⟨od,⟨I.obj,rfl,rfl,ho⟩,hl⟩
section
variable {prog:Program}{w:World}{A:Around}{E:Value→Shared→Prop}{s:Shared}{K:PySem.W.Frag}{x dx C f:Addr}{mA:Str→Option Value}{name:Str}{v:Value}
end
noncomputable def putF (f:Str) (v:V):List (Str×V)→List (Str×V)
 | []=>[(f,v)]
 | (g,x)::r=>if g=f then (g,v)::r else (g,x)::putF f v r
section
variable {P:Program}{w:World}{H H':Hp}{h h':Heap}{a C dx:Addr}{fs fs':List (Str×V)}
theorem ins_get (hok:HOk P w H h) (e:H a=some (.ins C dx fs)):∃ mA,ObjM h a dx C mA∧(∀ f,RelO (fs.lookup f) (mA f))∧PySem.Within mA (fs.map (·.1))∧fs.length≤1000∧H dx=some (.own a):=by
 obtain ⟨d,z,ne,ob,mA,n,r,q⟩:=(show ObjOk P w H h a (.ins C dx fs) from hok a _ e)
 exact ⟨mA,⟨ob,n,ne⟩,r,q,z,d⟩
end
structure Cls (K:PySem.W.Frag) (C:Addr):Prop where
 pg:PySem.W.plainGet K C Str.empty=true
 hd:PySem.W.hasDictIn K C=true
 po:PySem.W.plainOver K C=true
 sa:PySem.W.findIn K (.ref C) "__setattr__" = some (some (.builtin "object.__setattr__"))
theorem Cls.get {K:PySem.W.Frag}{C:Addr}(c:Cls K C) (f:Str):PySem.W.plainGet K C f=true:=c.pg
section
variable {X:Cx}{pins:List (Addr×Obj)}{σ:St}{H:Hp}{s:Shared}{a C dx:Addr}{fs:List (Str×V)}{f:Str}{v:V}{A:Around}{E:Value→Shared→Prop}
end
section
variable {X:Cx}{o e value:Expr}{f:Str}{pos pos' tpos:Pos}{ta tv:TE}
end
section
variable {X:Cx}{pins:List (Addr×Obj)}{σ:St}{H:Hp}{s:Shared}{A:Around}{E:Value→Shared→Prop}{Q:Value→Shared→Prop}{c:Value}{b:Bool}
inductive TyOf (K:PySem.W.Frag) (H:Hp):V→Value→Prop where
 | non:TyOf K H .non (.type "NoneType")
 | bl (x:Bool):TyOf K H (.bl x) (.type "bool")
 | int (i:Int):TyOf K H (.int i) (.type "int")
 | str (x:Str):TyOf K H (.str x) (.type "str")
 | flt (x:UInt64):TyOf K H (.flt x) (.type "float")
 | lst {a:Addr} {xs:List V} (e:H a=some (.lst xs)):TyOf K H (.ref a) (.type "list")
 | frz {a:Addr} {o:Obj} {xs:List V} (e:H a=some (.frz o (.lst xs))):TyOf K H (.ref a) (.type "list")
 | tup {a:Addr} {xs:List V} (e:H a=some (.tup xs)):TyOf K H (.ref a) (.type "tuple")
 | dK {a:Addr} {kvs:List (Key×V)} (e:H a=some (.dK kvs)):TyOf K H (.ref a) (.type "dict")
 | dT {a:Addr} {kvs:List (List Key×V)} (e:H a=some (.dT kvs)):TyOf K H (.ref a) (.type "dict")
 | ins {a C dx:Addr} {fs:List (Str×V)} (e:H a=some (.ins C dx fs)) (cl:Cls K C) (ha:PySem.W.findIn K (.ref C) "__class__" = some (some (.builtin "object.__class__")))
  (hn:PySem.W.specialIn K (.builtin "object.__class__") "__get__" = some (some (.builtin "getset_descriptor.__get__"))) (htk:PySem.W.takesIn K (.builtin "object.__class__")=some true)
  (hm:PySem.W.mroIn K C (.type "object")=some true):TyOf K H (.ref a) (.ref C)
theorem isinst_ok {x:V}{u t:Value}(I:Inv X pins σ H s) (rx:RelV x u) (ty:TyOf X.K H x t) (e:PySem.W.kitOne X.K t c=some b) (h:∀ tk,Q (.bool b) { s with toks:=tk }) :
 wpAny (model X.prog X.w) A (call (.builtin "isinstance") [u,c]) Q E s:=by
 cases ty with
 | non=>cases (show u=Value.none from rx);exact PySem.W.kia_one PySem.W.kitx_none I.kIn True.intro e (fun z=>nomatch z) h
 | bl y=>cases (show u=Value.bool y from rx);exact PySem.W.kia_one PySem.W.kitx_bool I.kIn True.intro e (fun z=>nomatch z) h
 | int i=>obtain ⟨t,q⟩:=(show ∃ t,u=Value.int i t from rx);cases q;exact PySem.W.kia_one PySem.W.kitx_int I.kIn True.intro e (fun z=>nomatch z) h
 | str y=>obtain ⟨t,q⟩:=(show ∃ t,u=Value.str y t from rx);cases q;exact PySem.W.kia_one PySem.W.kitx_str I.kIn True.intro e (fun z=>nomatch z) h
 | flt y=>obtain ⟨t,q⟩:=(show ∃ t,u=Value.float y t from rx);cases q;exact PySem.W.kia_one PySem.W.kitx_float I.kIn True.intro e (fun z=>nomatch z) h
 | @lst a xs ea=>
  cases (show u=Value.ref a from rx)
  obtain ⟨_,_,n,_,h1⟩:=(show ObjOk X.prog X.w H s.heap a (.lst xs) from I.hok a _ ea)
  exact PySem.W.kia_one PySem.W.kitx_list I.kIn ⟨_,h1,rfl⟩ e (fun z=>nomatch z) h
 | @frz a ob xs ea=>
  cases (show u=Value.ref a from rx)
  obtain ⟨_,_,_,n,_,h1⟩:=(show ObjOk X.prog X.w H s.heap a (.frz ob (.lst xs)) from I.hok a _ ea)
  exact PySem.W.kia_one PySem.W.kitx_list I.kIn ⟨_,h1,rfl⟩ e (fun z=>nomatch z) h
 | @tup a xs ea=>
  cases (show u=Value.ref a from rx)
  obtain ⟨_,_,_,p⟩:=(show ObjOk X.prog X.w H s.heap a (.tup xs) from I.hok a _ ea)
  obtain ⟨o,h1,h2,_⟩:=p
  exact PySem.W.kia_one PySem.W.kitx_tuple I.kIn ⟨o,h1,h2⟩ e (fun z=>nomatch z) h
 | @dK a kvs ea=>
  cases (show u=Value.ref a from rx)
  obtain ⟨_,_,vs,_,p⟩:=(show ObjOk X.prog X.w H s.heap a (.dK kvs) from I.hok a _ ea)
  obtain ⟨o,es,ep,h1,h2,_⟩:=p
  exact PySem.W.kia_one PySem.W.kitx_dict I.kIn ⟨o,h1,h2.1⟩ e (fun z=>nomatch z) h
 | @dT a kvs ea=>
  cases (show u=Value.ref a from rx)
  obtain ⟨_,_,xs,_,o,es,ep,h1,h2,_⟩:=(show ObjOk X.prog X.w H s.heap a (.dT kvs) from I.hok a _ ea)
  exact PySem.W.kia_one PySem.W.kitx_dict I.kIn ⟨o,h1,h2.1⟩ e (fun z=>nomatch z) h
 | @ins a C dx fs ea cl ha hn htk hm=>
  cases (show u=Value.ref a from rx)
  obtain ⟨mA,O,_⟩:=ins_get I.hok ea
  obtain ⟨od,J,_⟩:=O.look
  exact PySem.W.kia_one (PySem.W.kitx_own (cl.get _) cl.hd ha hn htk hm) I.kIn J e (fun z=>nomatch z) h
end
structure Room (k:Nat) (A:Around):Prop where
 hd:A.handled=none
 dp:A.depth+3*k+5<recursionLimit
 un:A.units+16*k+200<cLine
 gd:A.guards=some []
theorem Room.mono {j k:Nat}{A:Around}(r:Room k A) (h:j≤k):Room j A:=⟨r.hd,by have:=r.dp;omega,by have:=r.un;omega,r.gd⟩
theorem Room.deeper {k:Nat}{A:Around}(r:Room (k+1) A) (env:Env):Room k (A.deeper env):=
 ⟨r.hd,by have:=r.dp;show A.depth+1+3*k+5<_;omega,by have:=r.un;show A.units+3+16*k+200<_;omega,r.gd⟩
theorem Room.depth {k:Nat}{A:Around}(r:Room k A):A.depth<recursionLimit:=by have:=r.dp;omega
theorem Room.units {k:Nat}{A:Around}(r:Room k A):A.units+64<cLine:=by have:=r.un;omega
noncomputable def tNil:TA:=fun _ H Q=>Q [] H
noncomputable def tCons (ta:TE) (tr:TA):TA:=fun σ H Q=>ta σ H fun x H1=>tr σ H1 fun xs H2=>Q (x::xs) H2
section
variable {X:Cx}{e:Expr}{es:List Expr}{te:TE}{t:TA}{pos:Pos}
theorem pa_nil:PA X [] tNil:=fun _ _ _ _ H Q I h=>Calls.spliced_nil ⟨[],H,I,.nil,h⟩
theorem pa_cons (ha:PE X e te) (hr:PA X es t) (hs:starEach (e::es) X.env=(false,eval e X.env)::starEach es X.env:=by rfl):PA X (e::es) (tCons te t):=by
 intro pos pins s σ H Q I h
 rw [hs]
 show wpAny _ _ (spliced ((false,eval e X.env)::backTo pos (starEach es X.env))) _ _ s
 refine Calls.spliced_cons (thn (ha pins s σ H _ I h) fun u s1 ⟨x,H1,I1,r1,q1⟩=>?_)
 exact thn (hr pos pins s1 σ H1 _ I1 q1) fun us s2 ⟨xs,H2,I2,r2,q2⟩=>⟨x::xs,H2,I2,.cons r1 r2,q2⟩
noncomputable def tTup (t:TA):TE:=fun σ H Q=>t σ H fun xs H1=>xs.length≤sizeLine∧∀ p,H1 p=none→Q (.ref p) (upd H1 p (.tup xs))
noncomputable def tLst (t:TA):TE:=fun σ H Q=>t σ H fun xs H1=>xs.length≤sizeLine∧∀ p,H1 p=none→Q (.ref p) (upd H1 p (.lst xs))
theorem pe_tup {x1} (h:PA X es t):PE X (.Tuple es x1 pos) (tTup t):=by
 intro pins s σ H Q I hq
 refine wpAny_Tuple_spliced (thn (h pos pins s σ H _ I hq) fun us s1 ⟨xs,H1,I1,r,z,q⟩=>⟨by rw [← r.length];exact z,?_⟩)
 have hf:H1 s1.heap.objs.size=none:=I1.hok.fresh (Nat.le_refl _)
 refine ⟨.ref s1.heap.objs.size,upd H1 s1.heap.objs.size (.tup xs),I1.laid (t':=s1.toks) (fun b u e=>Heap.get?_push_of_some _ e) (Nat.le_refl _) ?_,rfl,q _ hf⟩
 exact ⟨z,us,r,⟨_,Heap.get?_push_size _ rfl,rfl,_,rfl⟩⟩
theorem pe_lst (h:PA X es t):PE X (.List es pos) (tLst t):=by
 intro pins s σ H Q I hq
 refine wpAny_List_spliced (thn (h pos pins s σ H _ I hq) fun us s1 ⟨xs,H1,I1,r,z,q⟩=>⟨by rw [← r.length];exact z,?_⟩)
 have hf:H1 s1.heap.objs.size=none:=I1.hok.fresh (Nat.le_refl _)
 refine ⟨.ref s1.heap.objs.size,upd H1 s1.heap.objs.size (.lst xs),I1.laid (t':=s1.toks) (fun b u e=>Heap.get?_push_of_some _ e) (Nat.le_refl _) ?_,rfl,q _ hf⟩
 exact ⟨z,us,0,r,Heap.get?_push_size _ rfl⟩
end
noncomputable abbrev Sp:=List V→Hp→VK→XK→Prop
noncomputable abbrev CXT:=List Env→Hp→Shared→XK→Value→Shared→Prop
structure Env0 (P:Program) (w:World) (K:PySem.W.Frag) (mg:Str→Option Value) (base:Heap) (A:Around) (outer:List Env) (s:Shared) (H:Hp):Prop where
 frames:A.frames=some outer
 mod:Mod K mg base
 bs:∀ b o,base.get? b=some o→s.heap.get? b=some o∧H b=none
 bsz:base.objs.size≤s.heap.objs.size
 funs:s.heap.FunFrames base outer
 frf:∀ b∈frs outer,H b=none
 hok:HOk P w H s.heap
 bare:AllBare s.gens
noncomputable def CE (outer:List Env) (P:Program) (w:World) (H:Hp) (s:Shared) (Q:VK) (u:Value) (s':Shared):Prop:=
 ∃ v H',s'.os=s.os∧AllBare s'.gens∧Un (frs outer) [] H H' s.heap s'.heap∧HOk P w H' s'.heap∧RelV v u∧Q v H'
noncomputable def CR (CX:CXT) (outer:List Env) (P:Program) (w:World) (H:Hp) (s:Shared) (Q:VK) (E:XK) (r:Result) (s':Shared):Prop:=
 match r with
 | .ok (.ret u)=>CE outer P w H s Q u s'
 | .ok _=>False
 | .error e=>CX outer H s E e s'
structure FnOk (P:Program) (w:World) (K:PySem.W.Frag) (mg:Str→Option Value) (base:Heap) (CX:CXT) (k:Nat) (f:Addr) (fd:FuncData) (ps:List Str) (sp:Sp):Prop where
 len:∀ vs H Q E,sp vs H Q E→vs.length=ps.length
 run:∀ (A:Around) (outer:List Env) (s:Shared) (H:Hp) (args:Args) (us:List Value) (vs:List V) (Q:VK) (E:XK),Room k A→Env0 P w K mg base A outer s H→BindsTo s fd args (ps.zip us)→Vals vs us→sp vs H Q E →
  codeAny (model P w) A (.call (.ref f) args) (CR CX outer P w H s Q E) s
theorem FnOk.imp {P:Program}{w:World}{K:PySem.W.Frag}{mg:Str→Option Value}{base:Heap}{CX:CXT}{k:Nat}{f:Addr}{fd:FuncData}{ps:List Str}{sp sp':Sp}(F:FnOk P w K mg base CX k f fd ps sp)
 (h:∀ vs H Q E,sp' vs H Q E→sp vs H Q E):FnOk P w K mg base CX k f fd ps sp':=
 ⟨fun vs H Q E q=>F.len vs H Q E (h _ _ _ _ q),fun A outer s H args us vs Q E hr he hb hv hs=>F.run A outer s H args us vs Q E hr he hb hv (h _ _ _ _ hs)⟩
section
variable {X:Cx}{pins:List (Addr×Obj)}{σ:St}{H:Hp}{s s':Shared}
theorem Inv.env0 (I:Inv X pins σ H s):Env0 X.prog X.w X.K X.mg X.base X.A X.stack s H:=
 ⟨I.ok.frames,I.ok.mod,I.bs,Nat.le_trans I.ok.bsz I.sz,I.stack,I.stkFree,I.hok,I.bare⟩
theorem Inv.after {Q:VK}{u:Value}(I:Inv X pins σ H s) (h:CE X.stack X.prog X.w H s Q u s'):EP X pins σ Q u s':=by
 obtain ⟨v,H',os,bare,un,hok,r,q⟩:=h
 obtain ⟨hh,g,d,t,os'⟩:=s'
 obtain rfl:os'=s.os:=os
 exact ⟨v,H',I.call (h':=hh) (g':=g) (d':=d) (t':=t) (ch:=[]) un hok bare (fun b z=>absurd z (by simp)),r,q⟩
end
noncomputable def tCall (sp:Sp) (dvs:List V) (E:XK) (t:TA):TE:=fun σ H Q=>t σ H fun vs H1=>sp (vs++dvs) H1 Q E
noncomputable def Binds (K:PySem.W.Frag) (fd:FuncData) (ps:List Str) (ds:List Value):Prop:=
 ∀ (s:Shared) (us:List Value),K.In s.heap→(us++ds).length=ps.length→BindsTo s fd ⟨us,[]⟩ (ps.zip (us++ds))
theorem Binds.all {K:PySem.W.Frag}{fd:FuncData}{ps:List Str}(h:∀ us:List Value,us.length=ps.length→bindArgs fd ⟨us,[]⟩=pure (ps.zip us)):Binds K fd ps []:=fun s us _ hl=>by
 rw [List.append_nil] at hl ⊢
 exact .of_eq (h us hl)
noncomputable def Passes (CX:CXT) (X:Cx) (E:XK):Prop:=∀ (pins:List (Addr×Obj)) (σ:St) (H:Hp) (s:Shared) (e:Value) (s':Shared),Inv X pins σ H s→CX X.stack H s E e s'→X.xe e s'
section
variable {X:Cx}{CX:CXT}{k:Nat}{f C:Addr}{fd:FuncData}{ps:List Str}{sp:Sp}{dvs:List V}{ds:List Value}{E:XK}{x m:Str}{p pos apos:Pos}{e o:Expr}{es:List Expr}{ta:TE}{t:TA}
theorem run_fn {pins:List (Addr×Obj)}{σ:St}{H:Hp}{s:Shared}{Q:VK}{us:List Value}{vs:List V}(F:FnOk X.prog X.w X.K X.mg X.base CX k f fd ps sp) (hr:Room k X.A) (hb:Binds X.K fd ps ds) (hd:Vals dvs ds) (hx:Passes CX X E)
 (I:Inv X pins σ H s) (r:Vals vs us) (h:sp (vs++dvs) H Q E):wpAny (model X.prog X.w) X.A (call (.ref f) us) (EP X pins σ Q) X.xe s:=by
 have r2:Vals (vs++dvs) (us++ds):=r.append hd
 have hl:(us++ds).length=ps.length:=by rw [← r2.length];exact F.len _ _ _ _ h
 refine wpAny_call (codeAny_mono (F.run X.A X.stack s H ⟨us,[]⟩ (us++ds) (vs++dvs) Q E hr I.env0 (hb s us I.kIn hl) r2 h) fun r s' hq=>?_)
 cases r with
 | error e=>exact hx pins σ H s e s' I hq
 | ok fl=>
  cases fl with
  | ret u=>exact I.after hq
  | next=>exact False.elim hq
  | brk=>exact False.elim hq
  | cont=>exact False.elim hq
theorem pe_call (F:FnOk X.prog X.w X.K X.mg X.base CX k f fd ps sp) (hr:Room k X.A) (hg:Gl X x) (hm:X.mg x=some (.ref f)) (hk:PySem.W.keepIn X.K (.ref f)=true) (hb:Binds X.K fd ps ds) (hd:Vals dvs ds) (hx:Passes CX X E)
 (ha:PA X (e::es) t) (hdb:(x==("__debug__":Str))=false:=by decide) (he:starEach (e::es) X.env=(false,eval e X.env)::starEach es X.env:=by rfl) (hpl:(backTo pos (starEach es X.env)).any (·.1)=false:=by rfl) :
 PE X (.Call (.Name x p) (e::es) [] pos) (tCall sp dvs E t):=by
 intro pins s σ H Q I h
 refine wpAny_Call_Name_kw (ld_glob I hg hm ?_ hdb)
 refine PySem.W.callWith_K (h₀:=X.base) I.ok.mod.kin hk (thn (ha pos pins s σ H _ I h) fun us s1 ⟨vs,H1,I1,r,q⟩=>⟨I1.kIn,?_⟩) he hpl
 exact run_fn F hr hb hd hx I1 r q
end
section
variable {X:Cx}{CX:CXT}{k:Nat}{f C:Addr}{fd:FuncData}{ps ks:List Str}{sp:Sp}{E:XK}{x m:Str}{p pos apos kpos:Pos}{e o:Expr}{es:List Expr}{kws:List Keyword}{te ta:TE}{t tk:TA}{nm:Option Str}
variable {g:List Value→List Value→List Value}{gV:List V→List V→List V}
end
structure FnScope (N P:List Str) (sc:Scope):Prop where
 kind:sc.kind = .function
 co:sc.isCoroutine=false
 gen:sc.isGenerator=false
 nd:N.Nodup
 pre:N.take P.length=P
 par:∀ x∈P,sc.names.lookup x=some .local ∨ sc.names.lookup x=some .cell
 nofree:∀ y∈sc.names,y.2≠.free
theorem bindL_out {kindOf:Str→Option NameKind}{x:Str}:∀ {binds:List (Str×Value)}{m:Str→Option Value},(∀ v,(x,v)∉binds)→bindL kindOf binds m x=m x
 | [],_,_=>rfl
 | (n,v)::r,m,h=>by
  unfold bindL
  rw [bindL_out fun w hw=>h w (List.mem_cons_of_mem _ hw)]
  split
  · have:x≠n:=by rintro rfl;exact h v List.mem_cons_self
    simp [this]
  · rfl
theorem bindC_out {kindOf:Str→Option NameKind}{x:Str}:∀ {binds:List (Str×Value)}{m:Str→Option Value},(∀ v,(x,v)∉binds)→bindC kindOf binds m x=m x
 | [],_,_=>rfl
 | (n,v)::r,m,h=>by
  unfold bindC
  rw [bindC_out fun w hw=>h w (List.mem_cons_of_mem _ hw)]
  split
  · rfl
  · have:x≠n:=by rintro rfl;exact h v List.mem_cons_self
    simp [this]
theorem bindL_get {kindOf:Str→Option NameKind}{x:Str}{v:Value}:∀ {P:List Str}{vs:List Value}{i:Nat}{m:Str→Option Value},P.Nodup→P[i]? = some x→vs[i]? = some v→kindOf x=some .local →
 bindL kindOf (P.zip vs) m x=some v
 | [],_,_,_,_,h,_,_=>by simp at h
 | _::_,[],_,_,_,_,h,_=>by simp at h
 | p::P,w::vs,0,m,nd,h1,h2,hk=>by
  simp at h1 h2;subst h1;subst h2
  show bindL kindOf ((p,w)::P.zip vs) m p=_
  unfold bindL
  rw [bindL_out fun v hv=>(List.nodup_cons.mp nd).1 (List.of_mem_zip hv).1,if_pos hk]
  simp
 | p::P,w::vs,i+1,m,nd,h1,h2,hk=>by
  show bindL kindOf ((p,w)::P.zip vs) m x=_
  unfold bindL
  exact bindL_get (i:=i) (List.nodup_cons.mp nd).2 (by simpa using h1) (by simpa using h2) hk
theorem bindC_get {kindOf:Str→Option NameKind}{x:Str}{v:Value}:∀ {P:List Str}{vs:List Value}{i:Nat}{m:Str→Option Value},P.Nodup→P[i]? = some x→vs[i]? = some v→kindOf x≠some .local →
 bindC kindOf (P.zip vs) m x=some v
 | [],_,_,_,_,h,_,_=>by simp at h
 | _::_,[],_,_,_,_,h,_=>by simp at h
 | p::P,w::vs,0,m,nd,h1,h2,hk=>by
  simp at h1 h2;subst h1;subst h2
  show bindC kindOf ((p,w)::P.zip vs) m p=_
  unfold bindC
  rw [bindC_out fun v hv=>(List.nodup_cons.mp nd).1 (List.of_mem_zip hv).1,if_neg hk]
  simp
 | p::P,w::vs,i+1,m,nd,h1,h2,hk=>by
  show bindC kindOf ((p,w)::P.zip vs) m x=_
  unfold bindC
  exact bindC_get (i:=i) (List.nodup_cons.mp nd).2 (by simpa using h1) (by simpa using h2) hk
noncomputable def start (N:List Str) (vs:List V):St:=vs.map some++List.replicate (N.length-vs.length) none
noncomputable def cxOf (CX:CXT) (P:Program) (w:World) (K:PySem.W.Frag) (mg:Str→Option Value) (base:Heap) (N:List Str) (qual:Str) (scope:Scope) (f:Addr) (cd:Value) (A:Around) (outer:List Env) (s:Shared) (H:Hp) (E:XK):Cx where
 prog:=P
 w:=w
 K:=K
 mg:=mg
 base:=base
 A:=A.deeper (envOfC qual scope s.heap.objs.size f cd)
 N:=N
 s₀:=s
 H₀:=H
 env:=envOfC qual scope s.heap.objs.size f cd
 outer:=outer
 stack:=envOfC qual scope s.heap.objs.size f cd::outer
 ex:=[]
 calm:=true
 fn:=fun _=>true
 pn:=[]
 xe:=fun e s'=>wpAny (model P w) (A.deeper (envOfC qual scope s.heap.objs.size f cd)) (leaving (envOfC qual scope s.heap.objs.size f cd) e) (fun _ s''=>CX outer H s E e s'') (fun e' s''=>CX outer H s E e' s'') s'
theorem cell_has {sc:Scope}{n:Nat}{x:Str}(h:sc.names.lookup x=some .cell):∃ c,(cellsFrom n sc.names []).lookup x=some c:=by
 have q:=PySem.W.cellsFrom_some sc.names n [] (.inl h)
 exact Option.isSome_iff_exists.mp q
theorem inv_start {CX:CXT}{P:Program}{w:World}{K:PySem.W.Frag}{mg:Str→Option Value}{base:Heap}{N ps:List Str}{qual:Str}{scope:Scope}{f:Addr}{cd:Value}{A:Around}{outer:List Env}{s s1:Shared}{H:Hp}{E:XK}{us:List Value}{vs:List V}
 (S:FnScope N ps scope) (hd:A.handled=none) (e0:Env0 P w K mg base A outer s H) (hl:vs.length=ps.length) (r:Vals vs us)
 (x:InCallC s s.heap.objs.size (bindL (envOfC qual scope s.heap.objs.size f cd).kindOf (ps.zip us) fun _=>none) (cellsFrom (s.heap.objs.size+1) scope.names []) (bindC (envOfC qual scope s.heap.objs.size f cd).kindOf (ps.zip us) fun _=>none) s1) :
 Inv (cxOf CX P w K mg base N qual scope f cd A outer s H E) [] (start N vs) H s1:=by
 have hpl:ps.length≤N.length:=by have:=congrArg List.length S.pre;rw [List.length_take] at this;omega
 obtain ⟨h1,tk,rfl,hk⟩:=x.done
 have noA:∀ b:Addr,b∉(cxOf CX P w K mg base N qual scope f cd A outer s H E).ex:=fun b z=>absurd (show b∈([]:List Addr) from z) (by simp)
 refine ⟨⟨e0.mod,S.kind,rfl,rfl,Nat.le_refl _,fun y z c h1 h2=>?_,fun y hy=>?_,fun y c _ h=>?_,fun _=>hd,Around.frames_deeper e0.frames,.inr ⟨rfl,rfl⟩,fun b z=>absurd z (noA b),e0.bs,e0.bsz,fun b _ _=>noA b,fun b z=>absurd z (noA b),e0.funs,e0.frf⟩,
  rfl,e0.bare,Un.kept hk,⟨_,x.toInCall.ns,fun i y v h1 h2 h3=>?_⟩,fun y c h=>⟨_,x.cell y c h⟩,e0.hok.fresh (Nat.le_refl _),fun y c h=>?_,fun p hp=>absurd (show p∈([]:List (Addr×Obj)) from hp) (by simp),e0.hok.kept hk,?_⟩
 · exact name_of_addr x.apart (PySem.mem_of_lookup h1) (PySem.mem_of_lookup h2)
 · have hy:scope.names.lookup y=some .cell∨scope.names.lookup y=some .free:=hy
   rcases hy with hy | hy
   · exact cell_has hy
   · exact absurd rfl (S.nofree _ (PySem.mem_of_lookup hy))
 · exact Nat.le_of_lt (x.above y c (PySem.mem_of_lookup h))
 · have hi:i<vs.length:=by
    unfold start at h2
    by_cases hi:i<vs.length
    · exact hi
    · rw [List.getElem?_append_right (by simpa using hi)] at h2
      rw [List.getElem?_replicate] at h2
      split at h2<;>cases h2
   have ha:vs[i]? = some v:=by
    unfold start at h2
    rw [List.getElem?_append_left (by simpa using hi),List.getElem?_map] at h2
    cases e:vs[i]? with
    | none=>rw [e] at h2;cases h2
    | some a=>rw [e] at h2;cases h2;rfl
   obtain ⟨u,hu,rv⟩:=r.get ha
   have hp:ps[i]? = some y:=by
    rw [← S.pre,List.getElem?_take_of_lt (by omega)];exact h1
   have ndP:ps.Nodup:=by rw [← S.pre];exact S.nd.sublist (List.take_sublist _ _)
   refine ⟨u,rv,?_⟩
   rcases S.par y (List.mem_of_getElem? hp) with k | k
   · exact .inl ⟨k,bindL_get ndP hp hu k⟩
   · obtain ⟨c,e⟩:=cell_has (n:=s.heap.objs.size+1) k
     refine .inr ⟨.inl k,c,e,?_⟩
     have q:=x.cell y c e
     rw [bindC_get ndP hp hu (by show scope.names.lookup y≠_;rw [k];decide)] at q
     exact q
 · exact e0.hok.fresh (Nat.le_of_lt (x.above y c (PySem.mem_of_lookup h)))
 · unfold start
   show _=N.length
   rw [List.length_append,List.length_map,List.length_replicate]
   omega
theorem fn_of {CX:CXT}{P:Program}{w:World}{K:PySem.W.Frag}{mg:Str→Option Value}{base:Heap}{k:Nat}{f:Addr}{name qual:Str}{params:Arguments}{body:List Stmt}{scope:Scope}{dV kV doc pm cdv ct oc:Value}{an od:Option Addr}
 {osl:Array (Option Value)} {N ps:List Str} {sp:Sp} (lk:K.lookup f=some ⟨oc,od,.func (PySem.W.fnOf name qual params body scope dV kV doc pm an cdv ct),osl⟩) (hcd:PySem.W.codeIn K cdv qual=true) (S:FnScope N ps scope)
 (len:∀ vs H Q E,sp vs H Q E→vs.length=ps.length)
 (hbody:∀ (A:Around) (outer:List Env) (s:Shared) (H:Hp) (vs:List V) (Q:VK) (E:XK),Room k (A.deeper (envOfC qual scope s.heap.objs.size f cdv))→sp vs H Q E →
  ∃ t,PSs (cxOf CX P w K mg base N qual scope f cdv A outer s H E) body t∧t { nx:=fun _ H'=>Q .non H',rt:=Q } (start N vs) H) :
 FnOk P w K mg base CX (k+1) f (PySem.W.fnOf name qual params body scope dV kV doc pm an cdv ct) ps sp:=by
 refine ⟨len,fun A outer s H args us vs Q E hr e0 hb r hsp=>?_⟩
 have hl:=len _ _ _ _ hsp
 have KX:K.In s.heap:=e0.mod.kin.keeps fun b o e=>(e0.bs b o e).1
 have lim:s.heap.NoLimit:=e0.mod.nolimit.keeps fun b o e=>(e0.bs b o e).1
 have hkind:∀ y∈ps.zip us,scope.names.lookup y.1=some .local ∨ (scope.names.lookup y.1=some .cell∧((cellsFrom (s.heap.objs.size+1) scope.names []).lookup y.1).isSome=true):=fun ⟨n,v⟩ hy=>by
  rcases S.par n (List.of_mem_zip hy).1 with q | q
  · exact .inl q
  · exact .inr ⟨q,PySem.W.cellsFrom_some _ _ _ (.inl q)⟩
 refine codeAny_call_function hr.depth (KX _ _ lk) rfl S.co S.gen rfl (PySem.W.codeRec_of KX hcd) (hb _ _ _ _ ?_)
 refine wpAny_newFunctionEnv_cells S.kind hkind fun env he s1 x=>?_
 subst he
 refine ⟨lim.keeps x.toInCall.keep,codeAny_func ?_⟩
 obtain ⟨t,ht,hq⟩:=hbody A outer s H vs Q E (hr.deeper _) hsp
 have I:Inv (cxOf CX P w K mg base N qual scope f cdv A outer s H E) [] (start N vs) H s1:=inv_start S hr.hd e0 hl r x
 refine wpAny_mono (ht [] s1 (start N vs) H _ I hq) (fun fl s' hs=>?_) fun e s' hs=>hs
 have fin:∀ {σ':St} {H':Hp} {v:V} {u:Value},Inv (cxOf CX P w K mg base N qual scope f cdv A outer s H E) [] σ' H' s'→RelV v u→Q v H'→CE outer P w H s Q u s':=
  fun {σ' H' v u} J rv q=>⟨v,H',J.os,J.bare,J.base,J.hok,rv,q⟩
 cases fl with
 | ret u=>
  obtain ⟨v,σ',H',J,rv,q⟩:=hs
  exact fin J rv q
 | next=>
  obtain ⟨σ',H',J,q⟩:=hs
  exact fin (v:=V.non) (u:=Value.none) J rfl q
 | brk=>
  obtain ⟨_,_,_,q⟩:=hs
  exact False.elim q
 | cont=>
  obtain ⟨_,_,_,q⟩:=hs
  exact False.elim q
section
variable {X:Cx}{x:Str}{p pos:Pos}{e:Expr}{es:List Expr}{t:TA}{id T:String}{r:List V→Hp→VK→Prop}
noncomputable def tCB (r:List V→Hp→VK→Prop) (t:TA):TE:=fun σ H Q=>t σ H fun vs H1=>r vs H1 Q
theorem pe_callB (hc:CallR X (.builtin id) r) (hg:Gl X x) (hm:X.mg x=none) (hv:bootBuiltins x=some (.builtin id)) (ha:PA X (e::es) t) (hn:x≠"__name__":=by decide) (hdb:(x==("__debug__":Str))=false:=by decide)
 (he:starEach (e::es) X.env=(false,eval e X.env)::starEach es X.env:=by rfl) (hpl:(backTo pos (starEach es X.env)).any (·.1)=false:=by rfl):PE X (.Call (.Name x p) (e::es) [] pos) (tCB r t):=by
 intro pins s σ H Q I h
 refine wpAny_Call_Name_kw (ld_blt I hg hm hv ?_ hn hdb)
 exact PyProof.Rows.callWith_builtin1 (thn (ha pos pins s σ H _ I h) fun us s1 ⟨vs,H1,I1,r1,q1⟩=>hc pins s1 σ H1 vs us Q I1 r1 q1) he hpl
theorem pe_callTy (hc:CallR X (.type T) r) (hg:Gl X x) (hm:X.mg x=none) (hv:bootBuiltins x=some (.type T)) (ha:PA X (e::es) t) (hn:x≠"__name__":=by decide) (hdb:(x==("__debug__":Str))=false:=by decide)
 (he:starEach (e::es) X.env=(false,eval e X.env)::starEach es X.env:=by rfl) (hpl:(backTo pos (starEach es X.env)).any (·.1)=false:=by rfl):PE X (.Call (.Name x p) (e::es) [] pos) (tCB r t):=by
 intro pins s σ H Q I h
 refine wpAny_Call_Name_kw (ld_blt I hg hm hv ?_ hn hdb)
 exact PyProof.Rows.callWith_type1 (thn (ha pos pins s σ H _ I h) fun us s1 ⟨vs,H1,I1,r1,q1⟩=>hc pins s1 σ H1 vs us Q I1 r1 q1) he hpl
end
end L2
namespace HT
open PySem PyProof.Rows
section
open PySem.SeqAt
open PySem.AutoSeq1 (wpAny_loadPart')
open PySem.MeetsSeq PySem.MeetsSeq2 PySem.MeetsSeq3
end
section
variable {prog:Program}{w:World}{A:Around}{E:Value→Shared→Prop}{s:Shared}
theorem cat_tup {t b:Addr}{vs ws:List Value}{Q:Value→Shared→Prop}(ht:IsTup s.heap t vs.toArray) (hb:IsTup s.heap b ws.toArray) (hv:vs≠[])
 (h1:ws=[]→Q (.ref t) s) (h2:ws≠[]→Q (.ref s.heap.objs.size) { s with heap:=s.heap.push { cls:=.type "tuple",data:=.seq (vs++ws).toArray } })
 (hsz:vs.length+ws.length≤sizeLine):wpAny (model prog w) A (binaryOp .Add (.ref t) (.ref b)) Q E s:=by
 obtain ⟨⟨cls,dd,data,sl⟩,ho,hc,n,hd⟩:=id ht
 obtain ⟨⟨cls2,dd2,data2,sl2⟩,ho2,hc2,n2,hd2⟩:=id hb
 simp only at hc hd hc2 hd2
 subst hc hd hc2 hd2
 have e:vs.toArray++ws.toArray=(vs++ws).toArray:=by simp
 by_cases hw:ws=[]
 · exact concat_meets ⟨_,ho,rfl⟩ ⟨_,ho2,rfl⟩ noFill_tuple_add seq_tuple_add PySem.F.slot_tuple_add PySem.F.entry_tuple_add (PySem.F.args_tuple_add_2 _ _)
    (tuple_addW1 t b vs.toArray ws.toArray n n2 dd dd2 sl sl2 (by simpa using hv) (by simp [hw])) ⟨ho,ho2,h1 hw⟩
 · refine concat_meets ⟨_,ho,rfl⟩ ⟨_,ho2,rfl⟩ noFill_tuple_add seq_tuple_add PySem.F.slot_tuple_add PySem.F.entry_tuple_add (PySem.F.args_tuple_add_2 _ _)
    (tuple_addW2 t b vs.toArray ws.toArray n n2 dd dd2 sl sl2 (by simpa using hv) (by simpa using hw) (by rw [List.size_toArray,List.size_toArray];exact hsz)) ⟨ho,ho2,?_⟩
   rw [e]
   exact h2 hw
noncomputable def sIx (n d:Nat):Option Int→Nat
 | none=>d
 | some v=>if v<0 then (v+(n:Int)).toNat else min v.toNat n
theorem sIx_none (n d:Nat):sIx n d none=d:=rfl
theorem sIx_nat (n d k:Nat):sIx n d (some (k:Int))=min k n:=by
 show (if (k:Int)<0 then ((k:Int)+(n:Int)).toNat else min (k:Int).toNat n)=min k n
 rw [if_neg (by omega),Int.toNat_natCast]
theorem sIx_le (n d:Nat) (hd:d≤n) (o:Option Int):sIx n d o≤n:=by
 cases o with
 | none=>exact hd
 | some v=>
  show (if v<0 then (v+(n:Int)).toNat else min v.toNat n)≤n
  by_cases hv:v<0
  · rw [if_pos hv];omega
  · rw [if_neg hv];exact Nat.min_le_right _ _
theorem clip_eq (v:Int) (n d:Nat):(if v<0 then max (v+(n:Int)) 0 else min v (n:Int))=((sIx n d (some v):Nat):Int):=by
 show (if v<0 then max (v+(n:Int)) 0 else min v (n:Int))=(((if v<0 then (v+(n:Int)).toNat else min v.toNat n):Nat):Int)
 by_cases hv:v<0
 · simp only [if_pos hv];omega
 · simp only [if_neg hv];omega
theorem adjust_gen (lo hi:Option Int) (n:Nat):Builtin.Slice.sliceAdjust lo hi 1 (n:Int)=(((sIx n 0 lo:Nat):Int),((sIx n n hi:Nat):Int)):=by
 have h1:¬ ((1:Int)<0):=by omega
 unfold Builtin.Slice.sliceAdjust
 simp only [h1,if_false]
 refine Prod.ext ?_ ?_
 · cases lo with
   | none=>rfl
   | some v=>exact clip_eq v n 0
 · cases hi with
   | none=>rfl
   | some v=>exact clip_eq v n n
theorem places_gen (i j:Nat):Builtin.Slice.slicePlaces (i:Int) (j:Int) 1=j-i:=by
 unfold Builtin.Slice.slicePlaces
 have h1:(1:Int)>0:=by omega
 simp only [h1,if_true,Int.ediv_one]
 split<;>omega
theorem slicePart_ {v:Value}{o:Option Int}{Q:Option Int→Shared→Prop}(p:IsPart v o) (h:Q o s):wpAny (model prog w) A (Builtin.Slice.slicePartIndex v) Q E s:=by
 cases p with
 | none=>exact slicePart_none h
 | int i t=>exact slicePart_int h
theorem sliceApplied_gen {sl:Addr}{vl vu:Value}{lo hi:Option Int}{n:Nat}{Q:Int×Int×Nat→Shared→Prop}(hs:s.heap.IsSliceOf sl vl vu .none) (pl:IsPart vl lo) (pu:IsPart vu hi)
 (h:Q (((sIx n 0 lo:Nat):Int),1,sIx n n hi-sIx n 0 lo) s):wpAny (model prog w) A (Builtin.Slice.sliceApplied (.ref sl) (pure (n:Int))) Q E s:=by
 obtain ⟨os,hos,hcs,hds⟩:=id hs
 unfold Builtin.Slice.sliceApplied Builtin.Slice.sliceFields
 refine wpAny_bind (wpAny_bind (wpAny_field hos hds (x:=vl) rfl (wpAny_bind (wpAny_field hos hds (x:=vu) rfl (wpAny_bind (wpAny_field hos hds (x:=.none) rfl (wpAny_pure ?_)))))))
 refine wpAny_bind (slicePart_none ?_)
 show wpAny _ _ (if ((1:Int)==0)=true then _ else _) _ _ s
 rw [if_neg (by decide)]
 refine wpAny_bind (slicePart_ pl (wpAny_bind (slicePart_ pu (wpAny_bind (wpAny_pure ?_)))))
 show wpAny _ _ (match Builtin.Slice.sliceAdjust lo hi 1 (n:Int) with | (lo,hi)=>pure (lo,(1:Int),Builtin.Slice.slicePlaces lo hi 1)) _ _ s
 rw [adjust_gen lo hi n]
 show wpAny _ _ (pure (((sIx n 0 lo:Nat):Int),(1:Int),Builtin.Slice.slicePlaces ((sIx n 0 lo:Nat):Int) ((sIx n n hi:Nat):Int) 1)) _ _ s
 rw [places_gen]
 exact wpAny_pure h
theorem pick_gen (xs:Array Value) (i k:Nat):((List.range k).filterMap fun (m:Nat)=>xs[((i:Int)+(m:Int)*1).toNat]?).toArray=((xs.toList.drop i).take k).toArray:=by
 have e:(fun (m:Nat)=>xs[((i:Int)+(m:Int)*1).toNat]?)=fun m=>xs[i+m]?:=by
  funext m
  have:((i:Int)+(m:Int)*1).toNat=i+m:=by omega
  rw [this]
 rw [e]
 have:=pick_run xs i k
 rw [List.filterMap_map] at this
 have e2:((fun x=>xs[x]?)∘fun x=>i+x)=fun m=>xs[i+m]?:=rfl
 rw [e2] at this
 rw [this]
theorem getItem_tuple_cut {t sl:Addr}{items:Array Value}{vl vu:Value}{lo hi:Option Int}{Q:Value→Shared→Prop}(ht:IsTup s.heap t items) (hs:s.heap.IsSliceOf sl vl vu .none) (pl:IsPart vl lo) (pu:IsPart vu hi)
 (hw:¬ (sIx items.size 0 lo=0∧sIx items.size items.size hi=items.size))
 (h:Q (.ref s.heap.objs.size) { s with heap:=s.heap.push { cls:=.type "tuple",data:=.seq ((items.toList.drop (sIx items.size 0 lo)).take (sIx items.size items.size hi-sIx items.size 0 lo)).toArray } })
 (hsz:items.size≤sizeLine):wpAny (model prog w) A (getItem (.ref t) (.ref sl)) Q E s:=by
 have htake:sizeOk (.seq ((items.toList.drop (sIx items.size 0 lo)).take (sIx items.size items.size hi-sIx items.size 0 lo)).toArray):=by
  show ((items.toList.drop (sIx items.size 0 lo)).take (sIx items.size items.size hi-sIx items.size 0 lo)).toArray.size≤sizeLine
  rw [List.size_toArray,List.length_take,List.length_drop,Array.length_toList]
  omega
 have hj:sIx items.size items.size hi≤items.size:=sIx_le _ _ (Nat.le_refl _) hi
 obtain ⟨os,hos,hcs,hds⟩:=id hs
 have hTs:s.TypeIs (.ref sl) "slice":=⟨os,hos,hcs⟩
 unfold getItem
 try with_reducible refine wpAny_holding ?_
 first | refine wpAny_bind (wpAny_pure ?_) | skip
 refine wpAny_bind (wpAny_sequenceKey ht.typeIs (by decide) ?_)
 refine wpAny_bind (wpAny_callSpecial?_slot (name:=Str.ofString "__getitem__") ht.typeIs PyProof.Rows.slot_tuple_getitem
  (wpAny_call_entry PyProof.Rows.slot_tuple_getitem ht.typeIs entry_tuple_getitem ?_ (args_tuple_getitem _ _)))
 show wpAny _ _ (Builtin.Tuple.tupleItemsOf (.ref t) >>= _) _ _ s
 refine wpAny_bind (tupleItemsOf_ ht ?_)
 refine wpAny_bind (wpAny_typeOf hTs ?_)
 rw [if_pos (by decide)]
 refine wpAny_bind (sliceApplied_gen hs pl pu ?_)
 have hno:¬ ((((sIx items.size 0 lo:Nat):Int)==0&&(1:Int)==1&&(sIx items.size items.size hi-sIx items.size 0 lo)==items.size)=true):=by
  intro q
  rw [Bool.and_eq_true,Bool.and_eq_true] at q
  have q1:((sIx items.size 0 lo:Nat):Int)=0:=eq_of_beq q.1.1
  have q2:sIx items.size items.size hi-sIx items.size 0 lo=items.size:=eq_of_beq q.2
  exact hw ⟨by omega,by omega⟩
 show wpAny _ _ (if (((sIx items.size 0 lo:Nat):Int)==0&&(1:Int)==1&&(sIx items.size items.size hi-sIx items.size 0 lo)==items.size)=true then _ else _) _ _ s
 rw [if_neg hno,pick_gen]
 first
  | exact wpAny_bind (m:=Builtin.Tuple.tupleExact _) (wpAny_newObj_type (wpAny_pure ⟨_,rfl,wpAny_pure h⟩) htake)
  | exact wpAny_bind (m:=Builtin.Tuple.tupleExact _) (wpAny_newObj_type (wpAny_bind (wpAny_pure (wpAny_pure ⟨_,rfl,wpAny_pure h⟩))) htake)
  | exact wpAny_bind (wpAny_bind (m:=Builtin.Tuple.tupleExact _) (wpAny_newObj_type (wpAny_pure (wpAny_pure ⟨_,rfl,wpAny_pure h⟩)) htake))
  | exact wpAny_bind (wpAny_bind (m:=Builtin.Tuple.tupleExact _) (wpAny_newObj_type (wpAny_pure ⟨_,rfl,wpAny_pure h⟩) htake))
end
end HT
namespace L2
open PySem PySem.Spec PyProof.Rows
noncomputable abbrev TO:=St→Hp→(Option Int→Hp→Prop)→Prop
noncomputable def PO (X:Cx) (e:Option Expr) (t:TO):Prop:=
 ∀ (pins:List (Addr×Obj)) (s:Shared) (σ:St) (H:Hp) (Q:Option Int→Hp→Prop),Inv X pins σ H s→t σ H Q →
  wpAny (model X.prog X.w) X.A (evalPart e X.env) (fun u s'=>∃ o H',Inv X pins σ H' s'∧IsPart u o∧Q o H') X.xe s
noncomputable def tNoPart:TO:=fun _ H Q=>Q none H
noncomputable def tPart (t:TE):TO:=fun σ H Q=>t σ H fun x H1=>∃ i,x = .int i∧Q (some i) H1
theorem intsAre_of {ns:List Int}:∀ {us:List Value},Vals (ns.map V.int) us→IntsAre us ns:=by
 induction ns with
 | nil=>intro us r;rw [List.map_nil] at r;cases r;exact .nil
 | cons n ns ih=>
  intro us r
  rw [List.map_cons] at r
  cases r with
  | cons r1 r2=>
   obtain ⟨t,e⟩:=r1
   subst e
   exact .cons n t (ih r2)
section
variable {X:Cx}{e:Expr}{te:TE}{lo hi:Option Expr}{tl th:TO}{pos p2:Pos}
theorem po_none:PO X none tNoPart:=by
 intro pins s σ H Q I h
 rw [evalPart_none]
 exact wpAny_pure ⟨none,H,I,.none,h⟩
theorem po_some (h:PE X e te):PO X (some e) (tPart te):=by
 intro pins s σ H Q I hw
 rw [evalPart_some]
 refine thn (h pins s σ H _ I hw) fun u s1 ⟨x,H1,I1,r1,q1⟩=>?_
 obtain ⟨i,rfl,q⟩:=q1
 obtain ⟨t,rfl⟩:=r1
 exact ⟨some i,H1,I1,.int i t,q⟩
noncomputable def SlR (X:Cx) (r:V→Option Int→Option Int→Hp→VK→Prop):Prop:=
 ∀ (pins:List (Addr×Obj)) (s:Shared) (σ:St) (H:Hp) (x:V) (v vl vu:Value) (lo hi:Option Int) (sl:Addr) (Q:VK),Inv X pins σ H s→RelV x v→s.heap.IsSliceOf sl vl vu .none→IsPart vl lo→IsPart vu hi→r x lo hi H Q →
  ∃ T id,typeLookup (.type T) "__getitem__" = pure (some (.builtin id))∧s.TypeIs v T∧wpAny (model X.prog X.w) X.A (getItem v (.ref sl)) (EP X pins σ Q) X.xe s
noncomputable def tSl (r:V→Option Int→Option Int→Hp→VK→Prop) (te:TE) (tl th:TO):TE:=fun σ H Q=>te σ H fun x H1=>tl σ H1 fun l H2=>th σ H2 fun u H3=>r x l u H3 Q
theorem pe_slice {r:V→Option Int→Option Int→Hp→VK→Prop}(hr:SlR X r) (he:PE X e te) (hl:PO X lo tl) (hu:PO X hi th):PE X (.Subscript e (.Slice lo hi none p2) pos) (tSl r te tl th):=by
 intro pins s σ H Q I h
 refine Subscript_ (thn (he pins s σ H _ I h) fun v s1 ⟨x,H1,I1,r1,q1⟩=>?_)
 refine wpAny_Slice (thn (hl pins s1 σ H1 _ I1 q1) fun vl s2 ⟨l,H2,I2,pl,q2⟩=>thn (hu pins s2 σ H2 _ I2 q2) fun vu s3 ⟨u,H3,I3,pu,q3⟩=>?_)
 rw [evalPart_none]
 refine wpAny_pure ?_
 have I4:Inv X pins σ H3 { s3 with heap:=s3.heap.push { cls:=.type "slice",data:=.fields #[vl,vu,.none] } }:=I3.kept (t':=s3.toks) fun b ob q=>Heap.get?_push_of_some _ q
 obtain ⟨T,id,hT,ht,hg⟩:=hr pins { s3 with heap:=s3.heap.push { cls:=.type "slice",data:=.fields #[vl,vu,.none] } } σ H3 x v vl vu l u s3.heap.objs.size Q I4 r1 (Heap.IsSliceOf.new ..) pl pu q3
 show wpAny (model X.prog X.w) X.A (subscriptTail e (.Slice lo hi none p2) v (.ref s3.heap.objs.size)) (EP X pins σ Q) X.xe { s3 with heap:=s3.heap.push { cls:=.type "slice",data:=.fields #[vl,vu,.none] } }
 exact tail_any (ops:=[.ref s3.heap.objs.size,v]) ht hT hg (by with_unfolding_all rfl)
noncomputable def cutV (xs:List V) (lo hi:Option Int):List V:=(xs.drop (HT.sIx xs.length 0 lo)).take (HT.sIx xs.length xs.length hi-HT.sIx xs.length 0 lo)
theorem cutV_length (xs:List V) (lo hi:Option Int):(cutV xs lo hi).length≤xs.length:=by
 unfold cutV
 rw [List.length_take,List.length_drop]
 omega
noncomputable def rSlT (K:PySem.W.Frag):V→Option Int→Option Int→Hp→VK→Prop:=fun x lo hi H Q=>∃ a xs,x = .ref a∧SqT K H a xs ∧
 ¬ (HT.sIx xs.length 0 lo=0∧HT.sIx xs.length xs.length hi=xs.length)∧∀ p,H p=none→Q (.ref p) (upd H p (.tup (cutV xs lo hi)))
theorem sl_tup:SlR X (rSlT X.K):=by
 intro pins s σ H x v vl vu lo hi sl Q I rx hs pl pu h
 obtain ⟨a,xs,rfl,hx,hw,q⟩:=h
 cases rx
 obtain ⟨its,r,ht,hz⟩:=I.tuple hx
 have hlen:its.toArray.size=xs.length:=by rw [List.size_toArray];exact r.length.symm
 refine ⟨"tuple",_,PyProof.Rows.slot_tuple_getitem.lookup,ht.typeIs,?_⟩
 refine HT.getItem_tuple_cut ht hs pl pu (by rw [hlen];exact hw) ?_ (by rw [hlen];exact hz)
 rw [hlen]
 refine ⟨.ref s.heap.objs.size,_,I.laid (t':=s.toks) (o:=.tup (cutV xs lo hi)) (fun b ob q=>Heap.get?_push_of_some _ q) (Nat.le_refl _) ?_,rfl,q _ (I.hok.fresh (Nat.le_refl _))⟩
 exact ⟨Nat.le_trans (cutV_length xs lo hi) hz,_,(r.drop (HT.sIx xs.length 0 lo)).take (HT.sIx xs.length xs.length hi-HT.sIx xs.length 0 lo),IsTup.new _ _⟩
noncomputable def rCatT (K:PySem.W.Frag):R2:=fun x y H Q=>∃ a b xs ys,x = .ref a∧y = .ref b∧SqT K H a xs∧SqT K H b ys∧xs≠[]∧xs.length+ys.length≤sizeLine ∧
 (ys=[]→Q (.ref a) H)∧(ys≠[]→∀ p,H p=none→Q (.ref p) (upd H p (.tup (xs++ys))))
theorem Vals.nil_iff {xs:List V}{us:List Value}(r:Vals xs us):us=[]↔xs=[]:=by
 cases r with
 | nil=>simp
 | cons _ _=>simp
theorem op_catT:OpR X (binaryOp .Add) (rCatT X.K):=by
 intro pins s σ H x y v u Q I rx ry h
 obtain ⟨a,b,xs,ys,rfl,rfl,ha,hb,hx,hz,q1,q2⟩:=h
 cases rx
 cases ry
 obtain ⟨its,r1,p1,_⟩:=I.tuple ha
 obtain ⟨its2,r2,p2,_⟩:=I.tuple hb
 refine HT.cat_tup p1 p2 (fun z=>hx (r1.nil_iff.mp z)) (fun z=>⟨.ref a,H,I,rfl,q1 (r2.nil_iff.mp z)⟩) (fun z=>?_) (by rw [← r1.length,← r2.length];exact hz)
 refine ⟨.ref s.heap.objs.size,_,I.laid (t':=s.toks) (o:=.tup (xs++ys)) (fun b ob q=>Heap.get?_push_of_some _ q) (Nat.le_refl _) ?_,rfl,q2 (fun w=>z (r2.nil_iff.mpr w)) _ (I.hok.fresh (Nat.le_refl _))⟩
 exact ⟨by rw [List.length_append];exact hz,_,r1.append r2,IsTup.new _ _⟩
end
noncomputable def ixN (n:Nat) (i:Int):Option Nat:=if 0≤i then (if i<n then some i.toNat else none) else if -(n:Int)≤i then some (i+n).toNat else none
noncomputable def atI {α:Type}(xs:List α) (i:Int):Option α:=(ixN xs.length i).bind fun j=>xs[j]?
theorem ixN_seq {n:Nat}{i:Int}{j:Nat}(h:ixN n i=some j):seqIndex? i n=some j∧j<n∧-(n:Int)≤i∧i<n:=by
 unfold ixN at h
 by_cases h0:0≤i
 · rw [if_pos h0] at h
   by_cases h1:i<n
   · rw [if_pos h1] at h
     have e:i.toNat=j:=Option.some.inj h
     exact ⟨by rw [seqIndex_of h0 h1,e],by omega,by omega,h1⟩
   · rw [if_neg h1] at h;cases h
 · rw [if_neg h0] at h
   by_cases h1:-(n:Int)≤i
   · rw [if_pos h1] at h
     have e:(i+n).toNat=j:=Option.some.inj h
     exact ⟨by rw [seqIndex_neg (by omega) h1,e],by omega,h1,by omega⟩
   · rw [if_neg h1] at h;cases h
theorem atI_get {α:Type}{xs:List α}{i:Int}{v:α}(h:atI xs i=some v):∃ j,seqIndex? i xs.length=some j∧xs[j]? = some v∧j<xs.length∧-(xs.length:Int)≤i∧i<xs.length:=by
 unfold atI at h
 cases e:ixN xs.length i with
 | none=>rw [e] at h;cases h
 | some j=>
  rw [e] at h
  obtain ⟨h1,h2,h3,h4⟩:=ixN_seq e
  exact ⟨j,h1,h,h2,h3,h4⟩
theorem atI_nat {α:Type}{xs:List α}{j:Nat}{v:α}(h:xs[j]? = some v):atI xs (j:Int)=some v:=by
 have hj:j<xs.length:=(List.getElem?_eq_some_iff.mp h).1
 have e:ixN xs.length (j:Int)=some j:=by
  unfold ixN
  rw [if_pos (by omega),if_pos (by omega)];simp
 unfold atI;rw [e];exact h
noncomputable def PlainIx (b:Expr):Prop:=∀ o i,subscripted b false o i=operate [o,i] (getItem o i)
noncomputable def IxR (X:Cx) (r:R2):Prop:=
 ∀ (value slice:Expr) (pins:List (Addr×Obj)) (s:Shared) (σ:St) (H:Hp) (x y:V) (v u:Value) (Q:VK),Inv X pins σ H s→RelV x v→RelV y u→r x y H Q →
  subscripted slice false v u=operate [v,u] (getItem v u)→wpAny (model X.prog X.w) X.A (subscriptTail value slice v u) (EP X pins σ Q) X.xe s
noncomputable def MtR (X:Cx) (id:String) (r:V→List V→Hp→VK→Prop):Prop:=
 ∀ (pins:List (Addr×Obj)) (s:Shared) (σ:St) (H:Hp) (x:V) (xs:List V) (v:Value) (us:List Value) (Q:VK),Inv X pins σ H s→RelV x v→Vals xs us→r x xs H Q →
  wpAny (model X.prog X.w) X.A (call (.builtin id) (v::us)) (EP X pins σ Q) X.xe s
section
variable {X:Cx}{a b:Expr}{ta tb:TE}{pos:Pos}
theorem pe_ix {r:R2}(hr:IxR X r) (ha:PE X a ta) (hb:PE X b tb) (hs:PlainIx b):PE X (.Subscript a b pos) (tOp r ta tb):=by
 intro pins s σ H Q I h
 exact Subscript_ (binT ha hb I h fun v u s2 x y H2 I2 rx ry q=>hr a b pins s2 σ H2 x y v u Q I2 rx ry q (hs _ _))
noncomputable def rIxL (K:PySem.W.Frag):R2:=fun x y H Q=>∃ p xs i v,x = .ref p∧y = .int i∧SqL K H p xs∧atI xs i=some v∧Q v H
noncomputable def rIxT (K:PySem.W.Frag):R2:=fun x y H Q=>∃ p xs i v,x = .ref p∧y = .int i∧SqT K H p xs∧atI xs i=some v∧Q v H
theorem ix_list:IxR X (rIxL X.K):=by
 intro value slice pins s σ H x y v u Q I rx ry h hs
 obtain ⟨p,xs,i,z,rfl,rfl,hq,he,q⟩:=h
 cases rx
 obtain ⟨t,rfl⟩:=ry
 obtain ⟨its,r,pl,hz⟩:=I.list hq
 obtain ⟨j,h1,h2,h3,h4,h5⟩:=atI_get he
 obtain ⟨w,ew,rw'⟩:=r.get h2
 have hl:=r.length
 have hn:=line63
 have fin:EP X pins σ Q w s:=⟨z,H,I,rw',q⟩
 by_cases h0:0≤i
 · have hj:i.toNat=j:=by
    rw [seqIndex_of h0 h5] at h1
    exact Option.some.inj h1
   exact item_listR pl.isList h0 (by omega) (by rw [hj];simpa using ew) fin hs
 · have hj:(i+(its.toArray.size:Int)).toNat=j:=by
    rw [seqIndex_neg (by omega) h4] at h1
    rw [List.size_toArray,← hl]
    exact Option.some.inj h1
   exact subscriptTail_builtinR (x:=w) pl.isList.typeIs slot_list_getitem.lookup
    (wpAny_getItem_list_neg (Q:=fun r s'=>r=w∧EP X pins σ Q r s') pl.isList (by omega) (by rw [List.size_toArray]<;>omega) (by omega) (by rw [hj];simpa using ew) ⟨rfl,fin⟩) hs
theorem ix_tup:IxR X (rIxT X.K):=by
 intro value slice pins s σ H x y v u Q I rx ry h hs
 obtain ⟨p,xs,i,z,rfl,rfl,hq,he,q⟩:=h
 cases rx
 obtain ⟨t,rfl⟩:=ry
 obtain ⟨its,r,pl,hz⟩:=I.tuple hq
 obtain ⟨j,h1,h2,h3,h4,h5⟩:=atI_get he
 obtain ⟨w,ew,rw'⟩:=r.get h2
 have hl:=r.length
 have hn:=line63
 have fin:EP X pins σ Q w s:=⟨z,H,I,rw',q⟩
 exact subscriptTail_builtinR (x:=w) pl.typeIs slot_tuple_getitem.lookup
  (getItem_tuple (j:=j) (Q:=fun r s'=>r=w∧EP X pins σ Q r s') pl (by omega) (by omega) (by rw [List.size_toArray,← hl];exact h1) (by simpa using ew) ⟨rfl,fin⟩) hs
theorem mapSeq_set (its:List Value) (n j:Nat) (u:Value):Obj.mapSeq (·.setIfInBounds j u) { cls:=.type "list",data:=.seq its.toArray n } = { cls:=.type "list",data:=.seq (its.set j u).toArray n }:=by
 simp [Obj.mapSeq]
theorem Inv.lst {pins:List (Addr×Obj)}{σ:St}{H:Hp}{s:Shared}{p:Addr}{xs:List V}(I:Inv X pins σ H s) (h:H p=some (.lst xs)) :
 ∃ (its:List Value) (n:Nat),Vals xs its∧s.heap.get? p=some { cls:=.type "list",data:=.seq its.toArray n }∧xs.length≤sizeLine:=by
 obtain ⟨z,its,n,r,e⟩:=I.hok p _ h
 exact ⟨its,n,r,e,z⟩
theorem Inv.lstUpd {pins:List (Addr×Obj)}{σ:St}{H:Hp}{s:Shared}{p:Addr}{xs ys:List V}{its its':List Value}{n n':Nat}{f:Obj→Obj}(I:Inv X pins σ H s) (h:H p=some (.lst xs))
 (ho:s.heap.get? p=some { cls:=.type "list",data:=.seq its.toArray n }) (hf:f { cls:=.type "list",data:=.seq its.toArray n } = { cls:=.type "list",data:=.seq its'.toArray n' }) (r:Vals ys its') (hz:ys.length≤sizeLine) (t:Nat) :
 Inv X pins σ (upd H p (.lst ys)) { s with heap:=s.heap.update p f,toks:=t }:=by
 have e:(s.heap.update p f).get? p=some { cls:=.type "list",data:=.seq its'.toArray n' }:=by
  rw [Heap.get?_update_self f ho (by rw [hf]<;>rfl),hf]
 refine I.write (x:=p) (e:=p) (by rw [h];trivial) (.inl rfl) (fun b u hb q=>(Heap.get?_update_other _ _ (Ne.symm hb)).trans q) ⟨_,e⟩ ?_
 exact ⟨hz,its',n',r,e⟩
noncomputable def rSetL:V→V→V→Hp→(Hp→Prop)→Prop:=fun o i v H Q=>∃ p xs k j,o = .ref p∧i = .int k∧H p=some (.lst xs)∧ixN xs.length k=some j∧Q (upd H p (.lst (xs.set j v)))
theorem set_list:PSet X rSetL:=by
 intro pins s σ H o i v ov iv u Q I ro ri rv h
 obtain ⟨p,xs,k,j,rfl,rfl,hp,hj,q⟩:=h
 cases ro
 obtain ⟨t,rfl⟩:=ri
 obtain ⟨its,n,r,ho,hz⟩:=I.lst hp
 obtain ⟨h1,h2,h3,h4⟩:=ixN_seq hj
 have hl:=r.length
 have hn:=line63
 have I':Inv X pins σ (upd H p (.lst (xs.set j v))) { s with heap:=s.heap.update p (Obj.mapSeq (·.setIfInBounds j u)) }:=
  I.lstUpd hp ho (mapSeq_set its n j u) (r.set rv j) (by rw [List.length_set];exact hz) s.toks
 by_cases h0:0≤k
 · have hk:k.toNat=j:=by
    rw [seqIndex_of h0 h4] at h1
    exact Option.some.inj h1
   exact PySem.W.ki_setAt ho h0 (by omega) (by rw [List.size_toArray,← hl];exact h4) (by rw [hk];exact ⟨_,I',q⟩)
 · have hk:(k+(its.toArray.size:Int)).toNat=j:=by
    rw [seqIndex_neg (by omega) h3] at h1
    rw [List.size_toArray,← hl]
    exact Option.some.inj h1
   exact PySem.W.ki_setBack ho (by omega) (by rw [List.size_toArray,← hl];exact h3) (by omega) (by rw [hk];exact ⟨_,I',q⟩)
theorem slice_bounds (lo hi:Option Int) (n:Nat):(sliceBounds lo hi none n).1=((HT.sIx n 0 lo:Nat):Int)∧(sliceBounds lo hi none n).2.1=((HT.sIx n n hi:Nat):Int)∧(sliceBounds lo hi none n).2.2=1:=by
 refine ⟨?_,?_,rfl⟩
 · cases lo with
   | none=>simp [sliceBounds,HT.sIx]
   | some i=>
    simp only [sliceBounds,HT.sIx,Option.getD_none,show (1:Int)>0 by decide,if_true]
    by_cases h:i<0
    · simp only [h,if_true]<;>omega
    · simp only [h,if_false]<;>omega
 · cases hi with
   | none=>simp [sliceBounds,HT.sIx]
   | some i=>
    simp only [sliceBounds,HT.sIx,Option.getD_none,show (1:Int)>0 by decide,if_true]
    by_cases h:i<0
    · simp only [h,if_true]<;>omega
    · simp only [h,if_false]<;>omega
theorem slicePick_cut (its:List Value) (lo hi:Option Int):slicePick its.toArray lo hi none=((its.drop (HT.sIx its.length 0 lo)).take (HT.sIx its.length its.length hi-HT.sIx its.length 0 lo)).toArray:=by
 obtain ⟨h1,h2,h3⟩:=slice_bounds lo hi its.toArray.size
 unfold slicePick
 rw [h1,h2,h3]
 simp only [sliceRange_one,pick_run,List.size_toArray]<;>rfl
noncomputable def rSlL (K:PySem.W.Frag):V→Option Int→Option Int→Hp→VK→Prop:=fun x lo hi H Q=>∃ a xs,x = .ref a∧SqL K H a xs∧∀ p,H p=none→Q (.ref p) (upd H p (.lst (cutV xs lo hi)))
theorem sl_list:SlR X (rSlL X.K):=by
 intro pins s σ H x v vl vu lo hi sl Q I rx hs pl pu h
 obtain ⟨a,xs,rfl,hx,q⟩:=h
 cases rx
 obtain ⟨its,r,ht,hz⟩:=I.list hx
 have hlen:=r.length
 refine ⟨"list",_,slot_list_getitem.lookup,ht.isList.typeIs,?_⟩
 refine wpAny_getItem_list_slice ht.isList hs pl pu .none (by simp) ?_ (by rw [List.size_toArray]<;>omega)
 rw [slicePick_cut,← hlen]
 refine ⟨.ref s.heap.objs.size,_,I.laid (t':=s.toks) (o:=.lst (cutV xs lo hi)) (fun b ob q=>Heap.get?_push_of_some _ q) (Nat.le_refl _) ?_,rfl,q _ (I.hok.fresh (Nat.le_refl _))⟩
 exact ⟨Nat.le_trans (cutV_length xs lo hi) hz,_,0,(r.drop (HT.sIx xs.length 0 lo)).take (HT.sIx xs.length xs.length hi-HT.sIx xs.length 0 lo),Heap.get?_push_size _ rfl⟩
theorem call_len_seq:CallR X (.builtin "len") (fun xs H Q=>∃ p ys,xs=[.ref p]∧(SqL X.K H p ys∨SqT X.K H p ys)∧Q (.int ys.length) H):=by
 intro pins s σ H xs us Q I r h
 obtain ⟨p,ys,rfl,hq,q⟩:=h
 obtain ⟨u,rfl,rx⟩:=vals1 r
 cases rx
 have hn:=line63
 rcases hq with hq | hq
 · obtain ⟨its,r',pl,hz⟩:=I.list hq
   have hlen:=r'.length
   exact Calls.call_len_list pl.isList (by simp only [List.size_toArray]<;>omega) ⟨.int ys.length,H,I.tok _,⟨s.toks+1,by rw [List.size_toArray,hlen]⟩,q⟩
 · obtain ⟨its,r',pl,hz⟩:=I.tuple hq
   have hlen:=r'.length
   exact len_tuple pl (by simp only [List.size_toArray]<;>omega) ⟨.int ys.length,H,I.tok _,⟨s.toks+1,by rw [List.size_toArray,hlen]⟩,q⟩
theorem call_list_of:CallR X (.type "list") (fun xs H Q=>∃ p ys,xs=[.ref p]∧(SqL X.K H p ys∨SqT X.K H p ys)∧∀ l,H l=none→Q (.ref l) (upd H l (.lst ys))):=by
 intro pins s σ H xs us Q I r h
 obtain ⟨p,ys,rfl,hq,q⟩:=h
 obtain ⟨u,rfl,rx⟩:=vals1 r
 cases rx
 have fin:∀ (its:List Value),Vals ys its→ys.length≤sizeLine→∀ (h':Heap) (c':Nat),(∀ b o',s.heap.get? b=some o'→h'.get? b=some o') →
  h'.get? s.heap.objs.size=some { cls:=.type "list",dict:=none,data:=.seq its.toArray c',slots:=#[] }→EP X pins σ Q (.ref s.heap.objs.size) { s with heap:=h' }:=fun its r' hz h' c' kp e=>
  ⟨.ref s.heap.objs.size,_,I.laid (t':=s.toks) kp (Nat.le_refl _) (show ObjOk X.prog X.w _ h' _ (.lst ys) from ⟨hz,its,c',r',e⟩),rfl,q _ (I.hok.fresh (Nat.le_refl _))⟩
 rcases hq with hq | hq
 · obtain ⟨its,r',pl,hz⟩:=I.list hq
   have hlen:=r'.length
   obtain ⟨o,ho,hc,n,hd⟩:=pl.isList
   exact call_list_seq p (.inl rfl) ho hc hd (fun h' c' kp e=>fin its r' hz h' c' kp e) (by simp only [List.size_toArray]<;>omega)
 · obtain ⟨its,r',pl,hz⟩:=I.tuple hq
   have hlen:=r'.length
   obtain ⟨o,ho,hc,n,hd⟩:=pl
   exact call_list_seq p (.inr rfl) ho hc hd (fun h' c' kp e=>fin its r' hz h' c' kp e) (by simp only [List.size_toArray]<;>omega)
theorem call_tuple_of:CallR X (.type "tuple") (fun xs H Q=>∃ p ys,xs=[.ref p]∧((SqL X.K H p ys∧∀ l,H l=none→Q (.ref l) (upd H l (.tup ys)))∨(SqT X.K H p ys∧Q (.ref p) H))):=by
 intro pins s σ H xs us Q I r h
 obtain ⟨p,ys,rfl,h⟩:=h
 obtain ⟨u,rfl,rx⟩:=vals1 r
 cases rx
 rcases h with ⟨hq,q⟩ | ⟨hq,q⟩
 · obtain ⟨its,r',pl,hz⟩:=I.list hq
   have hlen:=r'.length
   refine call_tuple_list pl.isList (fun h' kp=>?_) (by simp only [List.size_toArray]<;>omega)
   have I1:Inv X pins σ H { s with heap:=h' }:=I.kept (t':=s.toks) kp
   have I2:Inv X pins σ (upd H h'.objs.size (.tup ys)) { s with heap:=h'.push { cls:=.type "tuple",data:=.seq its.toArray } }:=
    I1.laid (t':=s.toks) (fun b o e=>Heap.get?_push_of_some _ e) (Nat.le_refl _) (show ObjOk X.prog X.w _ _ _ (.tup ys) from ⟨hz,its,r',IsTup.new _ _⟩)
   exact ⟨.ref h'.objs.size,_,I2,rfl,q _ (I1.hok.fresh (Nat.le_refl _))⟩
 · obtain ⟨its,r',pl,hz⟩:=I.tuple hq
   exact call_tuple_same pl ⟨.ref p,H,I,rfl,q⟩
noncomputable def tyV (K:PySem.W.Frag) (T:String) (x:V) (H:Hp):Prop:=match x with
 | .str _=>T = "str"
 | .int _=>T = "int"
 | .ref p=>(T = "list"∧∃ xs,SqL K H p xs)∨(T = "tuple"∧∃ o,K.lookup p=some o∧o.cls = .type "tuple"∧o.dict=none) ∨
  (T = "dict"∧((∃ kvs,H p=some (.dK kvs))∨∃ kvs,H p=some (.dT kvs)))∨(T = "set"∧∃ S n,H p=some (.set S n))
 | _=>False
theorem tyV_is {pins:List (Addr×Obj)}{σ:St}{H:Hp}{s:Shared}{T:String}{x:V}{v:Value}(I:Inv X pins σ H s) (r:RelV x v) (ty:tyV X.K T x H) :
 s.TypeIs v T∧∀ a,v = .ref a→∃ ob,s.heap.get? a=some ob∧ob.dict=none:=by
 cases x with
 | str z=>
  obtain ⟨t,rfl⟩:=r
  cases (show T = "str" from ty)
  exact ⟨typeIs_str s z t,fun _ e=>nomatch e⟩
 | int i=>
  obtain ⟨t,rfl⟩:=r
  cases (show T = "int" from ty)
  exact ⟨typeIs_int s i t,fun _ e=>nomatch e⟩
 | ref p=>
  cases r
  rcases ty with ⟨rfl,xs,hq⟩ | ⟨rfl,o,hk,hc,hd⟩ | ⟨rfl,hk⟩ | ⟨rfl,S,n,hk⟩
  · obtain ⟨its,_,pl,_⟩:=I.list hq
    refine ⟨pl.isList.typeIs,fun a e=>?_⟩
    cases e
    obtain ⟨o,n,e,c,hd,_⟩:=pl
    exact ⟨o,e,hd⟩
  · refine ⟨⟨o,I.kIn p o hk,hc⟩,fun a e=>?_⟩
    cases e
    exact ⟨o,I.kIn _ o hk,hd⟩
  · have z:∃ o,s.heap.get? p=some o∧o.ExactDict:=by
     rcases hk with ⟨kvs,hk⟩ | ⟨kvs,hk⟩
     · obtain ⟨_,_,_,_,o,_,_,e,ex,_⟩:=I.hok p _ hk
       exact ⟨o,e,ex⟩
     · obtain ⟨_,_,_,_,o,_,_,e,ex,_⟩:=I.hok p _ hk
       exact ⟨o,e,ex⟩
    obtain ⟨o,e,ex⟩:=z
    refine ⟨⟨o,e,ex.1⟩,fun a e2=>?_⟩
    cases e2
    exact ⟨o,e,ex.2.1⟩
  · obtain ⟨o,_,_,_,e,ex,_⟩:=I.hok p _ hk
    refine ⟨⟨o,e,ex.1⟩,fun a e2=>?_⟩
    cases e2
    exact ⟨o,e,ex.2.1⟩
 | _=>exact False.elim ty
noncomputable def tBM (K:PySem.W.Frag) (T:String) (r:V→List V→Hp→VK→Prop) (to:TE) (t:TA):TE:=fun σ H Q=>to σ H fun x H1=>tyV K T x H1∧t σ H1 fun xs H2=>r x xs H2 Q
variable {o e:Expr}{es:List Expr}{to:TE}{t:TA}{name:Str}{apos cpos:Pos}{T id:String}{r:V→List V→Hp→VK→Prop}
theorem pe_bm (pa:PlainAttrs T) (slot:Slot T name id) (hty:typeOf (.builtin id)=pure (.type "method_descriptor")) (hm:MtR X id r) (ho:PE X o to) (ha:PA X (e::es) t)
 (hbase:attributeBase o name X.env (eval o X.env)=eval o X.env:=by rfl)
 (hfew:((backTo cpos (starEach (e::es) X.env)).all (fun x=>!x.1)&&(backToKw cpos (keywordEach [] X.env)).all (fun x=>x.1.isSome)
  && decide ((e::es).length+([]:List Keyword).length+(if ([]:List Keyword).isEmpty then 0 else 1)<30))=true:=by rfl)
 (hline:(apos.endLine==cpos.line)=true:=by rfl) (hs:starEach (e::es) X.env=(false,eval e X.env)::starEach es X.env:=by rfl) (hplain:(backTo cpos (starEach es X.env)).any (·.1)=false:=by rfl) :
 PE X (.Call (.Attribute o name apos) (e::es) [] cpos) (tBM X.K T r to t):=by
 intro pins s σ H Q I h
 refine wpAny_Call_method_late hbase hfew hline rfl (thn (ho pins s σ H _ I h) fun v s1 ⟨x,H1,I1,r1,ty,q1⟩=>?_)
 obtain ⟨h1,h2⟩:=tyV_is I1 r1 ty
 refine ⟨T,id,pa,slot,hty,h1,h2,?_⟩
 have hA:=ha cpos pins s1 σ H1 _ I1 q1
 rw [hs] at hA ⊢
 refine Calls.callWith_builtin (by show (false||(backTo cpos (starEach es X.env)).any (·.1))=false;rw [hplain]<;>rfl) (Calls.evalArgs_plain ?_)
 exact thn hA fun us s2 ⟨vs,H2,I2,r2,q2⟩=>hm pins s2 σ H2 x vs v us Q I2 r1 r2 q2
end
noncomputable def MtM (X:Cx) (id:String) (r:V→List V→Hp→VK→Prop):Prop:=
 ∀ (pins:List (Addr×Obj)) (s:Shared) (σ:St) (H:Hp) (x:V) (xs:List V) (v:Value) (us:List Value) (Q:VK),Inv X pins σ H s→RelV x v→Vals xs us→r x xs H Q →
  wpAny (model X.prog X.w) X.A (call (.builtin id) (v::us)) (EP X pins σ Q) X.xe s
theorem Vals.one:∀ {x:V}{us:List Value},Vals [x] us→∃ u,us=[u]∧RelV x u
 | _,_,.cons r .nil=>⟨_,rfl,r⟩
theorem Vals.eraseIdx:∀ {xs:List V}{us:List Value}(i:Nat),Vals xs us→Vals (xs.eraseIdx i) (us.eraseIdx i)
 | _,_,_,.nil=>.nil
 | _,_,0,.cons _ t=>t
 | _,_,i+1,.cons r t=>.cons r (Vals.eraseIdx i t)
theorem Vals.rep {xs:List V}{us:List Value}(h:Vals xs us):∀ k:Nat,Vals (List.replicate k xs).flatten (List.replicate k us).flatten
 | 0=>.nil
 | k+1=>by
  rw [List.replicate_succ,List.replicate_succ,List.flatten_cons,List.flatten_cons]
  exact Vals.append h (Vals.rep h k)
theorem len_erase {α:Type}:∀ (l:List α) (i:Nat),(l.eraseIdx i).length≤l.length
 | [],_=>Nat.le_refl _
 | _::_,0=>Nat.le_succ _
 | _::r,i+1=>Nat.succ_le_succ (len_erase r i)
theorem foldl_rep (its:List Value):∀ (k:Nat) (acc:List Value),
 List.foldl (fun x1 x2=>x1++x2) acc.toArray (List.replicate k its.toArray)=(acc++(List.replicate k its).flatten).toArray
 | 0,acc=>by simp
 | k+1,acc=>by
  have e:acc.toArray++its.toArray=(acc++its).toArray:=by simp
  have e2:(acc++its)++(List.replicate k its).flatten=acc++(List.replicate (k+1) its).flatten:=by
   rw [List.replicate_succ,List.flatten_cons,List.append_assoc]
  rw [← e2,← foldl_rep its k (acc++its),← e,List.replicate_succ,List.foldl_cons]
section
variable {X:Cx}{pins:List (Addr×Obj)}{σ:St}{H:Hp}{s:Shared}{l b:Addr}{xs ys zs:List V}
theorem Inv.lset {its its':List Value}{n:Nat}{f:Array Value→Array Value}{t':Nat}(I:Inv X pins σ H s) (hH:H l=some (.lst xs))
 (e:s.heap.get? l=some { cls:=.type "list",data:=.seq its.toArray n }) (hf:f its.toArray=its'.toArray) (hv:Vals ys its') (hz:ys.length≤sizeLine) :
 Inv X pins σ (upd H l (.lst ys)) { s with heap:=s.heap.update l (Obj.mapSeq f),toks:=t' }:=by
 have q:=PySem.IsL.update e f
 rw [hf] at q
 refine I.write (x:=l) (e:=l) (by rw [hH];exact trivial) (.inl rfl) (fun b' u hb hu=>(Heap.get?_update_other s.heap (Obj.mapSeq f) (Ne.symm hb)).trans hu) ⟨_,q⟩ ?_
 exact ⟨hz,its',_,hv,q⟩
theorem Inv.lnew {its:List Value}{t':Nat}(I:Inv X pins σ H s) (hv:Vals ys its) (hz:ys.length≤sizeLine) :
 Inv X pins σ (upd H s.heap.objs.size (.lst ys)) { s with heap:=s.heap.push { cls:=.type "list",data:=.seq its.toArray },toks:=t' }:=
 I.laid (fun _ _ q=>Heap.get?_push_of_some _ q) (Nat.le_refl _) ⟨hz,its,0,hv,Heap.get?_push_size _ rfl⟩
theorem Inv.fresh (I:Inv X pins σ H s):H s.heap.objs.size=none:=I.hok.fresh (Nat.le_refl _)
theorem Inv.lstM (I:Inv X pins σ H s) (hH:H l=some (.lst xs)):xs.length≤sizeLine∧∃ (its:List Value) (n:Nat),Vals xs its∧xs.length=its.length∧s.heap.get? l=some { cls:=.type "list",data:=.seq its.toArray n }:=by
 obtain ⟨z,its,n,r,e⟩:=I.hok l _ hH
 exact ⟨z,its,n,r,r.length,e⟩
theorem notLongL {n:Nat}(h:n≤sizeLine):Builtin.List.listTooLong n=false:=by
 unfold Builtin.List.listTooLong
 exact decide_eq_false (by omega)
end
section
variable {X:Cx}
noncomputable def rAppend:V→List V→Hp→VK→Prop:=fun x vs H Q=>∃ l xs y,x = .ref l∧vs=[y]∧H l=some (.lst xs)∧xs.length<sizeLine∧Q .non (upd H l (.lst (xs++[y])))
theorem mt_append:MtM X "list.append" rAppend:=by
 intro pins s σ H x vs v us Q I rx rv h
 obtain ⟨l,xs,y,rfl,rfl,hH,hz,q⟩:=h
 cases rx
 obtain ⟨u,rfl,ru⟩:=rv.one
 obtain ⟨z,its,n,r,hl,e⟩:=I.lstM hH
 refine call_meets F.slot_list_append ⟨_,e,rfl⟩ F.entry_list_append (F.args_list_append_2 _ _) (PySem.list_append l its.toArray n u (by rw [List.size_toArray];omega)) ⟨e,?_⟩
 refine ⟨.non,_,I.lset (its':=its++[u]) hH e (by simp) (r.append (.cons ru .nil)) ?_,rfl,q⟩
 rw [List.length_append,List.length_singleton]
 omega
noncomputable def rCat:R2:=fun x y H Q=>∃ l b xs zs,x = .ref l∧y = .ref b∧H l=some (.lst xs)∧H b=some (.lst zs)∧xs.length+zs.length≤sizeLine∧∀ p,H p=none→Q (.ref p) (upd H p (.lst (xs++zs)))
theorem op_cat:OpR X (binaryOp .Add) rCat:=by
 intro pins s σ H x y v u Q I rx ry h
 obtain ⟨l,b,xs,zs,rfl,rfl,hH,hB,hz,q⟩:=h
 cases rx
 cases ry
 obtain ⟨z,its,n,r,hl,e⟩:=I.lstM hH
 obtain ⟨z2,its2,n2,r2,hl2,e2⟩:=I.lstM hB
 refine PySem.P.add_list e e2 ?_ (by rw [List.size_toArray,List.size_toArray];omega)
 have ea:its.toArray++its2.toArray=(its++its2).toArray:=by simp
 rw [ea]
 exact ⟨.ref _,_,I.lnew (t':=s.toks) (r.append r2) (by rw [List.length_append];omega),rfl,q _ I.fresh⟩
noncomputable def rRep:R2:=fun x y H Q=>∃ l k xs,x = .ref l∧y = .int k∧H l=some (.lst xs)∧-(2^63)≤k∧k<2^63∧xs.length*k.toNat≤sizeLine ∧
 ∀ p,H p=none→Q (.ref p) (upd H p (.lst (List.replicate k.toNat xs).flatten))
theorem len_rep {α:Type}(xs:List α) (k:Nat):(List.replicate k xs).flatten.length=k*xs.length:=by
 induction k with
 | zero=>simp
 | succ k ih=>rw [List.replicate_succ,List.flatten_cons,List.length_append,ih,Nat.succ_mul,Nat.add_comm]
theorem op_rep:OpR X (binaryOp .Mult) rRep:=by
 intro pins s σ H x y v u Q I rx ry h
 obtain ⟨l,k,xs,rfl,rfl,hH,h1,h2,hz,q⟩:=h
 cases rx
 obtain ⟨t,rfl⟩:=ry
 obtain ⟨z,its,n,r,hl,e⟩:=I.lstM hH
 have hlen:its.toArray.size*k.toNat≤sizeLine:=by rw [List.size_toArray,← hl];exact hz
 have hcap:¬ its.toArray.size*k.toNat>(2^63-1)/8:=by
  have:(sizeLine:Nat)≤(2^63-1)/8:=by decide
  omega
 have hfit:¬ (!Builtin.List.listFitsIndex k)=true:=by
  rw [fitsIndex_both h1 h2]
  exact Bool.false_ne_true
 have hlong:¬ Builtin.List.listTooLong (its.toArray.size*k.toNat)=true:=by
  rw [notLongL hlen]
  exact Bool.false_ne_true
 have hnew:List.foldl (fun x1 x2=>x1++x2) #[] (List.replicate (if its.toArray.isEmpty=true then 0 else k.toNat) its.toArray)=(List.replicate k.toNat its).flatten.toArray:=by
  have f0:∀ m:Nat,List.foldl (fun x1 x2=>x1++x2) #[] (List.replicate m its.toArray)=(List.replicate m its).flatten.toArray:=fun m=>by
   have:=foldl_rep its m []
   rw [List.nil_append] at this
   exact this
  rw [f0]
  cases its with
  | nil=>simp
  | cons a r'=>rw [if_neg (by simp)]
 refine wpAny_binaryOp_repeat_ref (T:="list") (U:="int") (by decide) ⟨_,e,rfl⟩ (fun s'=>typeIs_int s' k t) noFill_list_mul F.fills_int_mul F.slot_int_rmul repeat_list F.slot_int_index.lookup
  (call_meets F.slot_int_rmul (typeIs_int s k t) F.entry_int_rmul (F.args_int_rmul_2 _ _) (int___rmul___int_list k t l its.toArray n)
   ⟨e,rfl,⟨_,e,rfl⟩,call_meets F.slot_list_mul ⟨_,e,rfl⟩ F.entry_list_mul (F.args_list_mul_2 _ _) (AutoListH.list___mul___list_int_3 l its.toArray n k t hfit hcap hlong) ⟨e,?_⟩⟩)
 rw [hnew]
 exact ⟨.ref _,_,I.lnew (t':=s.toks) (r.rep k.toNat) (by rw [len_rep,Nat.mul_comm];exact hz),rfl,q _ I.fresh⟩
end
section
variable {prog:Program}{w:World}{A:Around}{E:Value→Shared→Prop}{s:Shared}
end
section
variable {X:Cx}
end
section
variable {κ:Type} [DecidableEq κ]
noncomputable def valV (kvs:List (κ×V)) (k:κ):Option V:=(kvs.find? fun kv=>decide (kv.1=k)).map (·.2)
noncomputable def putK (kvs:List (κ×V)) (k:κ) (v:V):List (κ×V):=
 if (kvs.any fun kv=>decide (kv.1=k))=true then kvs.map (fun kv=>if kv.1=k then (kv.1,v) else kv) else kvs++[(k,v)]
theorem valV_pos {p:κ×V}{r:List (κ×V)}{k:κ}(e:p.1=k):valV (p::r) k=some p.2:=by simp [valV,List.find?_cons,e]
theorem valV_neg {p:κ×V}{r:List (κ×V)}{k:κ}(e:¬ p.1=k):valV (p::r) k=valV r k:=by simp [valV,List.find?_cons,e]
theorem valV_any (k:κ):∀ kvs:List (κ×V),(kvs.any fun kv=>decide (kv.1=k))=(valV kvs k).isSome
 | []=>rfl
 | p::r=>by
  rw [List.any_cons]
  by_cases e:p.1=k
  · simp only [valV_pos e,decide_eq_true e,Bool.true_or,Option.isSome_some]
  · rw [valV_neg e,decide_eq_false e,Bool.false_or];exact valV_any k r
theorem length_putK (kvs:List (κ×V)) (k:κ) (v:V):(putK kvs k v).length≤kvs.length+1:=by
 unfold putK
 split
 · rw [List.length_map];omega
 · rw [List.length_append,List.length_cons,List.length_nil];omega
theorem RelO.isSome_eq {o:Option V}{u:Option Value}(r:RelO o u):o.isSome=u.isSome:=by
 cases o with
 | none=>cases u with
  | none=>rfl
  | some _=>exact (show False from r).elim
 | some _=>cases u with
  | none=>exact (show False from r).elim
  | some _=>rfl
theorem KV.val {kvs:List (κ×V)}{vs:List (κ×Value)}(r:KV kvs vs) (k:κ):RelO (valV kvs k) (valueAt vs k):=by
 unfold KV at r
 induction r with
 | nil=>exact True.intro
 | @cons p q ps qs h t ih=>
  obtain ⟨h1,h2⟩:=h
  by_cases e:p.1=k
  · have e':q.1=k:=h1.symm.trans e
    have b:valueAt (q::qs) k=some q.2:=by simp [valueAt,List.find?_cons,e']
    rw [valV_pos e,b];exact h2
  · have e':¬ q.1=k:=fun z=>e (h1.trans z)
    have b:valueAt (q::qs) k=valueAt qs k:=by simp [valueAt,List.find?_cons,e']
    rw [valV_neg e,b];exact ih
theorem KV.any {kvs:List (κ×V)}{vs:List (κ×Value)}(r:KV kvs vs) (k:κ):(kvs.any fun kv=>decide (kv.1=k))=vs.any fun kv=>decide (kv.1=k):=by
 unfold KV at r
 induction r with
 | nil=>rfl
 | cons h t ih=>rw [List.any_cons,List.any_cons,ih,h.1]
theorem KV.repl {kvs:List (κ×V)}{vs:List (κ×Value)}(r:KV kvs vs) (k:κ) {y:V}{u:Value}(ry:RelV y u) :
 KV (kvs.map fun kv=>if kv.1=k then (kv.1,y) else kv) (vs.map fun kv=>if kv.1=k then (kv.1,u) else kv):=by
 unfold KV at r ⊢
 induction r with
 | nil=>exact .nil
 | @cons p q ps qs h t ih=>
  rw [List.map_cons,List.map_cons]
  refine .cons ?_ ih
  obtain ⟨h1,h2⟩:=h
  by_cases e:p.1=k
  · rw [if_pos e,if_pos (h1.symm.trans e)];exact ⟨h1,ry⟩
  · rw [if_neg e,if_neg (fun z=>e (h1.trans z))];exact ⟨h1,h2⟩
theorem KV.put {kvs:List (κ×V)}{vs:List (κ×Value)}(r:KV kvs vs) (k:κ) {y:V}{u:Value}(ry:RelV y u):KV (putK kvs k y) (stored vs k u):=by
 unfold putK stored
 rw [r.any k]
 by_cases e:(vs.any fun kv=>decide (kv.1=k))=true
 · rw [if_pos e,if_pos e];exact r.repl k ry
 · rw [if_neg e,if_neg e];exact Paired.snoc r ⟨rfl,ry⟩
theorem KV.length {kvs:List (κ×V)}{vs:List (κ×Value)}(r:KV kvs vs):kvs.length=vs.length:=Paired.length r
end
theorem kV_is {P:Program}{w:World}{k:Key}{u:Value}(r:RelV (kV k) u):(mixKind P w).is k u=true:=by
 cases k with
 | inl i=>obtain ⟨t,e⟩:=(show ∃ t,u=Value.int i t from r);subst e;exact mixKind_int P w i t
 | inr x=>obtain ⟨t,e⟩:=(show ∃ t,u=Value.str x t from r);subst e;exact mixKind_str P w x t
theorem items_are {P:Program}{w:World}:∀ {ks:List Key}{us:List Value},Vals (ks.map kV) us→ItemsAre (mixKind P w) ks us
 | [],_,r=>by rw [List.map_nil] at r;cases r;exact .nil
 | k::ks,_,r=>by
  rw [List.map_cons] at r
  cases r with
  | cons h t=>exact .cons (kV_is h) (items_are t)
noncomputable abbrev KT (H:Hp):List (List Key×V)→List (List Key×Addr×Value)→Prop:=Paired fun p q=>p.1=q.1∧H q.2.1=some (.tup (p.1.map kV))∧RelV p.2 q.2.2
theorem KT.val {H:Hp}{kvs:List (List Key×V)}{xs:List (List Key×Addr×Value)}(r:KT H kvs xs) (k:List Key):RelO (valV kvs k) ((atKey xs k).map (·.2)):=by
 induction r with
 | nil=>exact True.intro
 | @cons p q ps qs h t ih=>
  obtain ⟨h1,_,h2⟩:=h
  by_cases e:p.1=k
  · have e':q.1=k:=h1.symm.trans e
    have b:atKey (q::qs) k=some q.2:=by simp [atKey,List.find?_cons,e']
    rw [valV_pos e,b];exact h2
  · have e':¬ q.1=k:=fun z=>e (h1.trans z)
    have b:atKey (q::qs) k=atKey qs k:=by simp [atKey,List.find?_cons,e']
    rw [valV_neg e,b];exact ih
theorem KT.repl {H:Hp}{kvs:List (List Key×V)}{xs:List (List Key×Addr×Value)}(r:KT H kvs xs) (k:List Key) {y:V}{u:Value}(ry:RelV y u) :
 KT H (kvs.map fun kv=>if kv.1=k then (kv.1,y) else kv) (xs.map (putAt k u)):=by
 induction r with
 | nil=>exact .nil
 | @cons p q ps qs h t ih=>
  rw [List.map_cons,List.map_cons]
  refine .cons ?_ ih
  obtain ⟨h1,h2,h3⟩:=h
  unfold putAt
  by_cases e:p.1=k
  · rw [if_pos e,if_pos (h1.symm.trans e)];exact ⟨h1,h2,ry⟩
  · rw [if_neg e,if_neg (fun z=>e (h1.trans z))];exact ⟨h1,h2,h3⟩
theorem KT.put {H:Hp}{kvs:List (List Key×V)}{xs:List (List Key×Addr×Value)}(r:KT H kvs xs) (k:List Key) {b:Addr}{y:V}{u:Value}(hb:H b=some (.tup (k.map kV))) (ry:RelV y u) :
 KT H (putK kvs k y) (storedH xs k b u):=by
 have e:(kvs.any fun kv=>decide (kv.1=k))=(atKey xs k).isSome:=by
  rw [valV_any,(r.val k).isSome_eq,Option.isSome_map]
 unfold putK storedH
 rw [e]
 by_cases q:(atKey xs k).isSome=true
 · rw [if_pos q,if_pos q];exact r.repl k ry
 · rw [if_neg q,if_neg q];exact Paired.snoc r ⟨rfl,hb,ry⟩
theorem KT.keeps {H H':Hp}{kvs:List (List Key×V)}{xs:List (List Key×Addr×Value)}(r:KT H kvs xs) (ht:∀ b ys,H b=some (.tup ys)→H' b=some (.tup ys)):KT H' kvs xs:=
 Paired.mapP r fun _ _ z=>⟨z.1,ht _ _ z.2.1,z.2.2⟩
section
variable {P:Program}{w:World}{H:Hp}{h:Heap}{a:Addr}
theorem rd_of {u:HO}(ok:HOk P w H h) (e:Rd H a u):ObjOk P w H h a u:=e.ok ok
theorem dk_rd {kvs:List (Key×V)}(ok:HOk P w H h) (e:Rd H a (.dK kvs)):kvs.length≤sizeLine∧(a==sysModules)=false∧∃ vs,KV kvs vs∧h.DictOf (mixKind P w) a vs:=
 show ObjOk P w H h a (.dK kvs) from rd_of ok e
theorem dk_of {kvs:List (Key×V)}(ok:HOk P w H h) (e:H a=some (.dK kvs)):kvs.length≤sizeLine∧(a==sysModules)=false∧∃ vs,KV kvs vs∧h.DictOf (mixKind P w) a vs:=dk_rd ok (.inl e)
theorem key_of {ks:List Key}(ok:HOk P w H h) (e:H a=some (.tup (ks.map kV))):(tupleKind (mixKind P w)).is h ks a:=by
 obtain ⟨_,its,r,o,h1,h2,n,h3⟩:=(show ObjOk P w H h a (.tup (ks.map kV)) from ok a _ e)
 exact ⟨o,its.toArray,n,h1,h2,h3,by simpa using items_are r⟩
theorem dt_rd {kvs:List (List Key×V)}(ok:HOk P w H h) (e:Rd H a (.dT kvs)):kvs.length≤sizeLine∧(a==sysModules)=false ∧
 ∃ xs,KT H kvs xs∧h.DictOfH (tupleKind (mixKind P w)) a xs:=by
 obtain ⟨z,y,xs,r,o,es,ep,h1,h2,h3,h4,h5⟩:=(show ObjOk P w H h a (.dT kvs) from rd_of ok e)
 refine ⟨z,y,xs,r,o,es,ep,h1,h2,h3,h4,fun x hx=>?_,h5⟩
 have all:∀ {l:List (List Key×V)} {m:List (List Key×Addr×Value)},KT H l m→∀ x∈m,(tupleKind (mixKind P w)).is h x.1 x.2.1:=by
  intro l m q
  induction q with
  | nil=>intro x hx;exact nomatch hx
  | @cons p q ps qs hq t ih=>
   intro x hx
   rcases List.mem_cons.mp hx with e | hx
   · subst e
     exact key_of ok (by rw [← hq.1];exact hq.2.1)
   · exact ih x hx
 exact all r x hx
theorem dt_of {kvs:List (List Key×V)}(ok:HOk P w H h) (e:H a=some (.dT kvs)):kvs.length≤sizeLine∧(a==sysModules)=false ∧
 ∃ xs,KT H kvs xs∧h.DictOfH (tupleKind (mixKind P w)) a xs:=dt_rd ok (.inl e)
end
noncomputable def DGet (H:Hp) (a:Addr) (y:V) (r:Option V):Prop:=
 (∃ kvs k,Rd H a (.dK kvs)∧y=kV k∧r=valV kvs k)∨∃ kvs k b,Rd H a (.dT kvs)∧y = .ref b∧H b=some (.tup (k.map kV))∧r=valV kvs k
noncomputable def DPut (H:Hp) (a:Addr) (y v:V) (H':Hp):Prop:=
 (∃ kvs k,H a=some (.dK kvs)∧y=kV k∧kvs.length<sizeLine∧H'=upd H a (.dK (putK kvs k v))) ∨
 ∃ kvs k b,H a=some (.dT kvs)∧y = .ref b∧H b=some (.tup (k.map kV))∧kvs.length<sizeLine∧H'=upd H a (.dT (putK kvs k v))
theorem DPut.k {H:Hp}{a:Addr}{kvs:List (Key×V)}{k:Key}{v:V}(e:H a=some (.dK kvs)) (hl:kvs.length<sizeLine):DPut H a (kV k) v (upd H a (.dK (putK kvs k v))):=.inl ⟨kvs,k,e,rfl,hl,rfl⟩
section
variable {X:Cx}{pins:List (Addr×Obj)}{σ:St}{H:Hp}{s:Shared}{a:Addr}{y v:V}{u r:Value}{o:Option V}{A:Around}{E:Value→Shared→Prop}
theorem Inv.big (I:Inv X pins σ H s):sysModules<s.heap.objs.size:=by
 have h:mainGlobals<s.heap.objs.size:=(I.mod.glob.keeps I.bk).lt
 exact Nat.lt_trans (by decide) h
theorem d_notIn {Q:Value→Shared→Prop}(hu:A.units+1<cLine) (I:Inv X pins σ H s) (g:DGet H a y o) (ry:RelV y u) (h:∀ s',Inv X pins σ H s'→Q (.bool (!o.isSome)) s') :
 wpAny (model X.prog X.w) A (compareOp .NotIn u (.ref a)) Q E s:=by
 rcases g with ⟨kvs,k,e,ey,l⟩ | ⟨kvs,k,b,e,ey,eb,l⟩
 · subst ey
   obtain ⟨z,hd,vs,rel,dd⟩:=dk_rd I.hok e
   refine wpAny_notIn_of (kV_is ry) hd dd.mapOf ?_
   rw [← (rel.val k).isSome_eq,← l]
   exact h _ (I.tok _)
 · subst ey
   cases (show u=Value.ref b from ry)
   obtain ⟨z,hd,xs,rel,dd⟩:=dt_rd I.hok e
   refine wpAny_notIn_heap (tupleKind_room_in1 hu) (key_of I.hok eb) hd dd ?_
   have q:=(rel.val k).isSome_eq
   rw [Option.isSome_map] at q
   rw [← q,← l]
   exact h _ (I.tok _)
theorem d_write {h':Heap}{t':Nat}{ob:HO}(I:Inv X pins σ H s) (mu:Mut (H a)) (hs:Heap.SameBut a s.heap h') (he:∃ q,h'.get? a=some q) (new:ObjOk X.prog X.w (upd H a ob) h' a ob) :
 Inv X pins σ (upd H a ob) { s with heap:=h',toks:=t' }:=
 I.write (x:=a) (e:=a) mu (.inl rfl) (fun b q hb z=>(hs.2 b hb).trans z) he new
theorem dk_new {P:Program}{w:World}{H':Hp}{h':Heap}{kvs:List (Key×V)}{vs:List (Key×Value)}(z:kvs.length≤sizeLine) (hd:(a==sysModules)=false) (rel:KV kvs vs) (dd:h'.DictOf (mixKind P w) a vs) :
 ObjOk P w H' h' a (.dK kvs):=⟨z,hd,vs,rel,dd⟩
theorem d_setItem {H':Hp}{Q:Unit→Shared→Prop}(hu:A.units+1<cLine) (I:Inv X pins σ H s) (g:DPut H a y v H') (ry:RelV y u) (rv:RelV v r) (h:∀ s',Inv X pins σ H' s'→Q () s') :
 wpAny (model X.prog X.w) A (setItem (.ref a) u r) Q E s:=by
 rcases g with ⟨kvs,k,e,ey,l,eH⟩ | ⟨kvs,k,b,e,ey,eb,l,eH⟩
 · subst ey eH
   obtain ⟨z,hd,vs,rel,dd⟩:=dk_of I.hok e
   have hz:vs.length≤sizeLine:=by rw [← rel.length];exact z
   have hl:(putK kvs k v).length≤sizeLine:=by have:=length_putK kvs k v;omega
   refine wpAny_setItem_pairs (hsz:=hz) (kV_is ry) dd fun h' dd' hs=>h _ ?_
   have he:∃ q,h'.get? a=some q:=let ⟨q,_,_,hq,_⟩:=dd';⟨q,hq⟩
   exact d_write I (by rw [e];exact True.intro) hs he (dk_new hl hd (rel.put k rv) dd')
 · subst ey eH
   cases (show u=Value.ref b from ry)
   obtain ⟨z,hd,xs,rel,dd⟩:=dt_of I.hok e
   have hz:xs.length≤sizeLine:=by rw [← Paired.length rel];exact z
   have hl:(putK kvs k v).length≤sizeLine:=by have:=length_putK kvs k v;omega
   refine wpAny_setItem_heap (hsz:=hz) (tupleKind_room_in1 hu) (key_of I.hok eb) dd fun h' dd' hs=>h _ ?_
   obtain ⟨q,es,ep,hq,h2,h3,h4,_,h5⟩:=dd'
   refine d_write I (by rw [e];exact True.intro) hs ⟨q,hq⟩ ⟨hl,hd,_,(rel.put k eb rv).keeps fun c ys ec=>?_,q,es,ep,hq,h2,h3,h4,h5⟩
   rw [upd_ne (ne_of ec e (fun z=>nomatch z))]
   exact ec
end
section
variable {X:Cx}{pins:List (Addr×Obj)}{σ:St}{H:Hp}{s:Shared}{a:Addr}{kvs:List (Key×V)}{k:Key}{u:Value}{A:Around}{E:Value→Shared→Prop}
end
noncomputable def tDIn (ty td:TE):TE:=fun σ H Q=>ty σ H fun y H1=>td σ H1 fun x H2=>∃ a o,x = .ref a∧DGet H2 a y o∧Q (.bl o.isSome) H2
noncomputable def tDNotIn (ty td:TE):TE:=fun σ H Q=>ty σ H fun y H1=>td σ H1 fun x H2=>∃ a o,x = .ref a∧DGet H2 a y o∧Q (.bl (!o.isSome)) H2
noncomputable def sDPut (td ty tv:TE):TS:=fun D σ H=>tv σ H fun v H1=>td σ H1 fun x H2=>ty σ H2 fun y H3=>∃ a H4,x = .ref a∧DPut H3 a y v H4∧D.nx σ H4
section
variable {X:Cx}{o i e value:Expr}{pos pos' tpos:Pos}{td ty tv:TE}
theorem pc_dnotin (hu:X.A.units+1<cLine) (hi:PE X i ty) (ho:PE X o td):PC X .NotIn i o (tDNotIn ty td):=by
 intro pins s σ H Q I h
 refine thn (hi pins s σ H _ I h) fun iv s1 ⟨y,H1,I1,ry,q1⟩=>thn (ho pins s1 σ H1 _ I1 q1) fun u s2 ⟨x,H2,I2,rx,a,ov,ex,g,q2⟩=>?_
 subst ex
 obtain rfl:u=Value.ref a:=rx
 exact d_notIn hu I2 g ry fun s3 I3=>⟨.bl (!ov.isSome),H2,I3,rfl,q2⟩
theorem ps_dput (hu:X.A.units+1<cLine) (ho:PE X o td) (hi:PE X i ty) (hv:PE X value tv) (hs:swapsWith value (some (.Subscript o i pos')) pos.line X.env=pure false) :
 PS X (.Assign [.Subscript o i pos'] value pos) (sDPut td ty tv):=by
 intro pins s σ H D I h
 refine wpAny_Assign_Subscript (thn (hv pins s σ H _ I h) fun r s1 ⟨v,H1,I1,rv,q1⟩=>thn (ho pins s1 σ H1 _ I1 q1) fun u s2 ⟨x,H2,I2,rx,q2⟩=>thn (hi pins s2 σ H2 _ I2 q2) fun iv s3 ⟨y,H3,I3,ry,a,H4,ex,g,q3⟩=>?_) hs
 subst ex
 obtain rfl:u=Value.ref a:=rx
 exact d_setItem hu I3 g ry rv fun s4 I4=>⟨σ,H4,I4,q3⟩
end
theorem dk_empty {P:Program}{w:World}{H:Hp}(h:Heap) (hb:sysModules<h.objs.size):ObjOk P w H (h.push { cls:=.type "dict",data:=.dict #[] }) h.objs.size (.dK []):=
 ⟨Nat.zero_le _,beq_eq_false_iff_ne.mpr (Ne.symm (Nat.ne_of_lt hb)),[],.nil,Heap.DictOf.new h⟩
noncomputable def tDNewK:TE:=fun _ H Q=>∀ p,H p=none→Q (.ref p) (upd H p (.dK []))
section
variable {X:Cx}{pos:Pos}
theorem pe_dnewK:PE X (.Dict [] [] pos) tDNewK:=fun pins s σ H Q I h=>
 wpAny_Dict_empty ⟨.ref s.heap.objs.size,_,I.laid (a:=s.heap.objs.size) (o:=.dK []) (t':=s.toks) (fun _ _ q=>Heap.get?_push_of_some _ q) (Nat.le_refl _) (dk_empty s.heap I.big),rfl,h _ (I.hok.fresh (Nat.le_refl _))⟩
end
noncomputable def IsD (H:Hp) (a:Addr):Prop:=(∃ kvs,Rd H a (.dK kvs))∨∃ kvs,Rd H a (.dT kvs)
theorem isD_at {X:Cx}{pins:List (Addr×Obj)}{σ:St}{H:Hp}{s:Shared}{a:Addr}(I:Inv X pins σ H s) (d:IsD H a) :
 s.TypeIs (.ref a) "dict"∧(∀ b,Value.ref a = .ref b→∃ ob,s.heap.get? b=some ob∧ob.dict=none)∧(a==sysModules)=false:=by
 rcases d with ⟨kvs,e⟩ | ⟨kvs,e⟩
 · obtain ⟨_,hd,vs,_,dd⟩:=dk_rd I.hok e
   refine ⟨dd.typeIs,fun b q=>?_,hd⟩
   cases q
   obtain ⟨ob,_,_,h1,h2,_⟩:=dd
   exact ⟨ob,h1,h2.2.1⟩
 · obtain ⟨_,hd,xs,_,dd⟩:=dt_rd I.hok e
   refine ⟨dd.typeIs,fun b q=>?_,hd⟩
   cases q
   obtain ⟨ob,_,_,h1,h2,_⟩:=dd
   exact ⟨ob,h1,h2.2.1⟩
section
variable {X:Cx}{pins:List (Addr×Obj)}{σ:St}{H:Hp}{s:Shared}{a:Addr}{y d:V}{u r:Value}{o:Option V}{A:Around}{E:Value→Shared→Prop}
end
section
variable {X:Cx}{o e f:Expr}{apos cpos:Pos}{td ty tx:TE}
end
section
variable {X:Cx}{pins:List (Addr×Obj)}{σ:St}{H:Hp}{s:Shared}{a:Addr}{kvs:List (Key×V)}{A:Around}{E:Value→Shared→Prop}
end
section
variable {X:Cx}{pins:List (Addr×Obj)}{σ:St}{H:Hp}{s:Shared}{a:Addr}{y:V}{u:Value}{A:Around}{E:Value→Shared→Prop}
end
end L2
namespace Att
open PySem PySem.W PySem.Calls PyProof.Rows
theorem ints_of_wellAll {P:Params}{h:Heap}:∀ (ns:List Int) (vs:List Value),WellAll P h vs (ns.map WData.int)→IntsAre vs ns:=by
 intro ns
 induction ns with
 | nil=>
  intro vs w
  rw [List.map_nil] at w
  cases w
  exact .nil
 | cons n ns ih=>
  intro vs w
  rw [List.map_cons] at w
  cases w with
  | cons a b=>
   cases a
   exact .cons _ _ (ih _ b)
theorem script_of {l:OpenLaw}{n:Nat}(hn:l.most=some n) {P:Params}{h:Heap}{args:List WData}{vals:List Value}
 (hpre:l.row.toRowW.claim.pre args=true) (hwl:WellAll P h vals args) :
 ∃ a vs ns,vals=[Value.ref a]∧args=[WData.list (ns.map WData.int)]∧h.get? a=some { cls:=.type "list",data:=.seq vs.toArray }∧IntsAre vs ns∧ns.length≤n:=by
 have hsh:WShape.hasAll [] args [.list .int]=true:=(pre_splitW hpre).1
 have hc:l.pre.holds [] { args:=args }=true:=(pre_splitW hpre).2
 obtain ⟨d,r,rfl,h1,h2⟩:=hasAllW_cons hsh
 obtain rfl:=hasAllW_nil h2
 obtain ⟨xs,rfl,h3⟩:=hasW_list h1
 obtain ⟨ns,rfl⟩:=items_int h3
 have hlen:ns.length≤n:=by
  unfold OpenLaw.pre at hc
  have h4:(WTm.not (.lt (.lit (.int (n:Int))) (.len (.arg 0)))).holds [] { args:=[.list (ns.map .int)] }=true:=by
   have h4:=(holds_andW hc).1
   rw [hn] at h4
   exact h4
  have h5:=condW_of h4 (w_not (w_lt w_lit (w_len_list (w_arg rfl))))
  rw [List.length_map] at h5
  refine Nat.le_of_not_lt fun q=>?_
  have q':(n:Int)<((ns.length:Nat):Int):=by omega
  first
   | (rw [decide_eq_true q'] at h5;exact absurd h5 (by decide))
   | (simp at h5;omega)
 cases hwl with
 | cons w1 w2=>
  cases w2
  cases w1 with
  | list ho hall=>exact ⟨_,_,ns,rfl,rfl,ho,ints_of_wellAll ns _ hall,hlen⟩
theorem post_true (l:OpenLaw) (args:List WData):l.row.toRowW.claim.post args (.bool true) args=true:=
 postW_of (r:=l.row.toRowW) (X:=(true==true))
  (show WShape.has [] (.bool true) .bool=true by first | rfl | decide | simp [WShape.has,WShape.arms,WShape.armsAll])
  (show (WTm.eq .res (.lit (.bool true))).value [] { args:=args,res:=some (.bool true),after:=args }=some (.bool (true==true)) from w_eq_bool (w_res rfl) w_lit) rfl
theorem attach_call {l:OpenLaw}{n:Nat}{q:Program}{loose:List Str}{XP:(Str→Option Value)→Heap→Prop}{YP:World→Heap→Prop}{d:DefRec}
 (hn:l.most=some n) (hdf:d.params.defaults=[])
 (call:∀ (w:World) (s₀ s₁:Shared) (mg mb:Str→Option Value) (fa:Addr) (o:Obj) (pm cd doc:Value) (a:Addr) (vs:List Value) (ns:List Int),
  Ground q loose [] XP w s₀ mg mb s₁.heap→YP w s₁.heap →
  s₁.heap.get? fa=some o→o.data = .func (docDef d.name d.params d.body d.scope pm cd doc)→s₁.heap.CodeRec cd d.name→mg d.name=some (.ref fa) →
  s₁.heap.get? a=some { cls:=.type "list",data:=.seq vs.toArray }→IntsAre vs ns→ns.length≤n→s₁.gens = #[] →
  codeAny (model l.prog w) callerA (.call (.ref fa) ⟨[.ref a],[]⟩) (fun r s'=>r = .ok (.ret (.bool true))∧OldK s₁.heap s'.heap∧s'.os=s₁.os∧AllBare s'.gens) s₁) :
 WalkO q loose XP YP l.row.toRowW d [] (fun f vs=>PySem.call f vs):=by
 intro w s₀ s₁ mg mb G Y fa o pm cd doc dV kV ho hd hcd hD hmg hg args vals as hpre hlay hrd hwl hlo
 obtain rfl:dV = .none:=Dflts.none hD hdf
 obtain rfl:kV = .none:=Dflts.noKw hD
 obtain ⟨a,vs,ns,rfl,rfl,hobj,hints,hlen⟩:=script_of hn hpre hwl
 refine enter_call (codeAny_mono (call w s₀ s₁ mg mb fa o pm cd doc a vs ns G Y ho (fd_plain hd) hcd hmg hobj hints hlen hg) fun r s' hq=>?_)
 obtain ⟨rfl,h2,h3,h4⟩:=hq
 exact ⟨.inl ⟨.bool true,.bool true,[],rfl,fun _=>rfl,.bool true,post_true l _,fun _=>⟨List.Pairwise.nil,fun _ hm=>(nomatch hm)⟩⟩,h2,h3,h4⟩
section
variable {prog:Program}{w:World}{A:Around}{E:Value→Shared→Prop}{s:Shared}{K:Frag}
end
end Att
namespace L2
open PySem PySem.Spec PyProof.Rows
theorem vals_ints:∀ {vs:List Value}{ns:List Int},IntsAre vs ns→Vals (ns.map V.int) vs
 | _,_,.nil=>.nil
 | _,_,.cons n t h=>.cons ⟨t,rfl⟩ (vals_ints h)
noncomputable def Only (H:Hp):Prop:=∀ b,H b=none∨∃ o xs,H b=some (.frz o (.lst xs))
noncomputable def defArgs (s:Stmt):Arguments:=match s with
 | .FunctionDef _ a _ _ _ _ _ _ _ _=>a
 | _=>{ posonlyargs:=[],args:=[],vararg:=none,kwonlyargs:=[],kw_defaults:=[],kwarg:=none,defaults:=[] }
noncomputable def defBody (s:Stmt):List Stmt:=match s with
 | .FunctionDef _ _ b _ _ _ _ _ _ _=>b
 | _=>[]
noncomputable def defScope (s:Stmt):Scope:=match s with
 | .FunctionDef _ _ _ _ _ _ sc _ _ _=>sc
 | _=>{ kind:=.function,names:=[],isGenerator:=false,isCoroutine:=false }
noncomputable abbrev CX0:CXT:=fun _ _ _ _ _ _=>False
noncomputable abbrev E0:XK:=fun _ _ _=>False
theorem pass0 {X:Cx}:Passes CX0 X E0:=fun _ _ _ _ _ _ _ h=>h.elim
structure Fun (K:PySem.W.Frag) (x qual:Str) (st:Stmt) (f:Addr) (fd:FuncData):Prop where
 ex:∃ (oc:Value) (od:Option Addr) (kV doc pm:Value) (an:Option Addr) (cdv ct:Value) (osl:Array (Option Value)),
  fd=PySem.W.fnOf x qual (defArgs st) (defBody st) (defScope st) .none kV doc pm an cdv ct∧K.lookup f=some ⟨oc,od,.func fd,osl⟩∧PySem.W.codeIn K cdv qual=true
 kp:PySem.W.keepIn K (.ref f)=true
section
variable {P:Program}{w:World}{K:PySem.W.Frag}{mg:Str→Option Value}{base:Heap}
theorem Fun.ok {x qual:Str}{st:Stmt}{f:Addr}{fd:FuncData}{N ps:List Str}{k:Nat}{sp:Sp}(F:Fun K x qual st f fd) (S:FnScope N ps (defScope st)) (len:∀ vs H Q E,sp vs H Q E→vs.length=ps.length)
 (hbody:∀ (cdv:Value) (A:Around) (outer:List Env) (s:Shared) (H:Hp) (vs:List V) (Q:VK) (E:XK),Room k (A.deeper (envOfC qual (defScope st) s.heap.objs.size f cdv))→sp vs H Q E →
  ∃ t,PSs (cxOf CX0 P w K mg base N qual (defScope st) f cdv A outer s H E).nox (defBody st) t∧t { nx:=fun _ H'=>Q .non H',rt:=Q } (start N vs) H):FnOk P w K mg base CX0 (k+1) f fd ps sp:=by
 obtain ⟨oc,od,kV,doc,pm,an,cdv,ct,osl,rfl,lk,hcd⟩:=F.ex
 refine fn_of lk hcd S len fun A outer s H vs Q E hr hsp=>?_
 obtain ⟨t,h,q⟩:=hbody cdv A outer s H vs Q E hr hsp
 exact ⟨t,h.nox,q⟩
theorem Fun.binds {x qual:Str}{st:Stmt}{f:Addr}{fd:FuncData}{ps:List Str}(F:Fun K x qual st f fd)
 (h:∀ (kV doc pm:Value) (an:Option Addr) (cdv ct:Value) (us:List Value),us.length=ps.length→bindArgs (PySem.W.fnOf x qual (defArgs st) (defBody st) (defScope st) .none kV doc pm an cdv ct) ⟨us,[]⟩=pure (ps.zip us)):Binds K fd ps []:=by
 obtain ⟨oc,od,kV,doc,pm,an,cdv,ct,osl,rfl,lk,hcd⟩:=F.ex
 exact .all (h kV doc pm an cdv ct)
theorem fun_mk {x qual:Str}{st:Stmt}{f:Addr}{oc:Value}{od an:Option Addr}{osl:Array (Option Value)}{kV doc pm cdv ct:Value}(l:K.lookup f=some ⟨oc,od,.func (PySem.W.fnOf x qual (defArgs st) (defBody st) (defScope st) .none kV doc pm an cdv ct),osl⟩)
 (c:PySem.W.codeIn K cdv qual=true) (k:PySem.W.keepIn K (.ref f)=true):Fun K x qual st f (PySem.W.fnOf x qual (defArgs st) (defBody st) (defScope st) .none kV doc pm an cdv ct):=⟨⟨oc,od,kV,doc,pm,an,cdv,ct,osl,rfl,l,c⟩,k⟩
end
theorem hu_of {A:Around}{k:Nat}(hr:Room k A):A.units+1<cLine:=Nat.lt_of_le_of_lt (Nat.add_le_add_left (by decide:1≤64) _) hr.units
theorem small1000 {n:Nat}(h:n≤1000):n<sizeLine:=Nat.lt_of_le_of_lt h (by decide)
section
variable {X:Cx}
theorem pv (i:Nat) {x:Str}{pos:Pos}(hN:X.N[i]? = some x:=by rfl) (hv:Vis X.env.scope x:=by first | exact Or.inl rfl | exact Or.inr (Or.inl rfl) | exact Or.inr (Or.inr rfl)) (hd:(x==("__debug__":Str))=false:=by decide)
 (hcd:(x==("__classdict__":Str))=false:=by decide):PE X (.Name x pos) (tVar i):=pe_var hN hv hd hcd
end
theorem iteF {A B:Prop}(h:B):if false=true then A else B:=by
 rw [if_neg Bool.false_ne_true]
 exact h
theorem iteT {A B:Prop}(h:A):if true=true then A else B:=by
 rw [if_pos rfl]
 exact h
section
variable {κ:Type} [DecidableEq κ]
end
theorem law_callS {P:Program}{w:World}{K:PySem.W.Frag}{mg mb:Str→Option Value}{CX:CXT}{k:Nat}{fa a:Addr}{fd:FuncData}{x:Str}{sp:Sp}{s₁:Shared}{vs:List Value}{ns:List Int}
 (KX:K.In s₁.heap) (hns:s₁.heap.Ns mainGlobals mg) (hb:s₁.heap.Ns builtinsNs mb) (hbb:∀ x:Str,x≠"__name__"→mb x=bootBuiltins x) (hlim:s₁.heap.NoLimit) (hse:s₁.heap.NoSeer) (hg:s₁.gens = #[])
 (ha:s₁.heap.get? a=some { cls:=.type "list",data:=.seq vs.toArray }) (hi:IntsAre vs ns) (hl:ns.length≤sizeLine) (hr:Room k callerA)
 (F:∀ base:Heap,K.In base→base.Ns mainGlobals mg→base.NoSeer→FnOk P w K mg base CX k fa fd [x] sp) (hbind:∀ (s:Shared) (u:Value),BindsTo s fd ⟨[u],[]⟩ [(x,u)])
 (hsp:∀ H:Hp,Only H→SqL K H a (ns.map V.int)→sp [.ref a] H (fun v _=>v = .bl true) fun _ _ _=>False)
 (hCX:∀ H e s',CX [] H s₁ (fun _ _ _=>False) e s'→False) :
 codeAny (model P w) callerA (.call (.ref fa) ⟨[.ref a],[]⟩) (fun r s'=>r = .ok (.ret (.bool true))∧OldK s₁.heap s'.heap∧s'.os=s₁.os∧AllBare s'.gens) s₁:=by
 have rv:=vals_ints hi
 have lenV:=hi.length
 -- from an abstract heap in which nothing but the script may be tracked
 have core:∀ H:Hp,Only H→SqL K H a (ns.map V.int)→HOk P w H s₁.heap→(∀ b,H b≠none→b=a)→(H a≠none→K.lookup a=none) →
  codeAny (model P w) callerA (.call (.ref fa) ⟨[.ref a],[]⟩) (fun r s'=>r = .ok (.ret (.bool true))∧OldK s₁.heap s'.heap∧s'.os=s₁.os∧AllBare s'.gens) s₁:=by
  intro H hO hS hok hA hK
  have base_of:∀ {b:Addr} {o:Obj},s₁.heap.get? b=some o→H b=none→(hidT s₁.heap H).get? b=some o:=fun e n=>hidT_get e n
  have noA:∀ {b:Addr} {o:Obj} {es:Array DictEntry} {ep:Nat},s₁.heap.get? b=some o→o.data = .dict es ep→H b=none:=fun {b o es ep} e d=>by
   cases q:H b with
   | none=>rfl
   | some u=>
    have e':b=a:=hA b (by rw [q];simp)
    subst e'
    rw [ha] at e;cases e
    have d':Data.seq vs.toArray _=Data.dict es ep:=d
    cases d'
  have nsK:∀ {b:Addr} {m:Str→Option Value},s₁.heap.Ns b m→(hidT s₁.heap H).Ns b m:=fun {b m} ⟨o,es,ep,e,d,r⟩=>⟨o,es,ep,base_of e (noA e d),d,r⟩
  have hKb:K.In (hidT s₁.heap H):=fun b o e=>base_of (KX b o e) (by
   cases q:H b with
   | none=>rfl
   | some u=>
    have e':b=a:=hA b (by rw [q];simp)
    subst e'
    rw [hK (by rw [q];simp)] at e;cases e)
  have hM:Mod K mg (hidT s₁.heap H):=⟨hKb,nsK hns,⟨mb,nsK hb,hbb⟩,let ⟨mc,h1,h2⟩:=hlim;⟨mc,nsK h1,h2⟩⟩
  have hSe:(hidT s₁.heap H).NoSeer:=by
   obtain ⟨⟨mc,a1,a2,a3⟩,⟨mm,b1,b2⟩,⟨mb',c1,c2⟩,⟨mg',bm,ob,d1,d2,d3,d4,d5⟩⟩:=hse
   refine ⟨⟨mc,nsK a1,a2,a3⟩,⟨mm,nsK b1,b2⟩,⟨mb',nsK c1,c2⟩,⟨mg',bm,ob,nsK d1,d2,base_of d3 ?_,d4,d5⟩⟩
   cases q:H bm with
   | none=>rfl
   | some u=>
    have e':bm=a:=hA bm (by rw [q];simp)
    subst e'
    rw [ha] at d3;cases d3
    injection d4 with z
    exact absurd z (by decide)
  have e0:Env0 P w K mg (hidT s₁.heap H) callerA [] s₁ H:=⟨rfl,hM,fun b o e=>of_hidT e,Nat.le_of_eq (hidT_size _ _),trivial,fun b hb=>absurd (show b∈([]:List Addr) from hb) (by simp),hok,.of_eq hg⟩
  refine codeAny_mono ((F _ hKb (nsK hns) hSe).run callerA [] s₁ H ⟨[.ref a],[]⟩ [.ref a] [.ref a] _ _ hr e0 (hbind s₁ (.ref a)) (.cons rfl .nil) (hsp H hO hS)) fun r s' h=>?_
  cases r with
  | error e=>exact (hCX H e s' h).elim
  | ok fl=>
   cases fl with
   | next=>exact False.elim h
   | brk=>exact False.elim h
   | cont=>exact False.elim h
   | ret u=>
    obtain ⟨v,H',os,bare,un,hok',r',q⟩:=h
    have q':v = .bl true:=q
    subst q'
    obtain rfl:u=Value.bool true:=r'
    refine ⟨rfl,OldK.of_keep fun b o e=>?_,os,bare⟩
    cases q:H b with
    | none=>exact un.keep b o e q (by intro z;exact absurd (show b∈([]:List Addr) from z) (by simp)) (by simp)
    | some u=>
     rcases hO b with z | ⟨ob,xs,z⟩
     · rw [q] at z;cases z
     · have z2:=un.frzs b ob _ z
       obtain ⟨e1,_⟩:=hok b _ z
       obtain ⟨e2,_⟩:=hok' b _ z2
       rw [e] at e1;cases e1
       exact e2
 cases hk:K.lookup a with
 | some o=>
  -- the script is one of the module's own objects
  have e:=KX a o hk
  rw [ha] at e
  cases e
  refine core (fun _=>none) (fun _=>.inl rfl) (.inr ⟨_,vs.toArray,_,hk,rfl,rfl,rfl,by rw [List.size_toArray,lenV];exact hl,by simpa using rv⟩) (fun b u z=>by have z':(none:Option HO)=some u:=z;cases z') (fun b z=>absurd rfl z) fun z=>absurd rfl z
 | none=>
  refine core (fun b=>if b=a then some (.frz { cls:=.type "list",data:=.seq vs.toArray } (.lst (ns.map V.int))) else none) (fun b=>?_) (.inl (.inr ⟨{ cls:=.type "list",data:=.seq vs.toArray },if_pos rfl⟩)) (fun b u z=>?_) (fun b z=>?_) fun _=>hk
  · by_cases hb:b=a
    · exact .inr ⟨_,_,if_pos hb⟩
    · exact .inl (if_neg hb)
  · by_cases hb:b=a
    · have z':=(if_pos hb).symm.trans z
      cases z'
      subst hb
      exact ⟨ha,by rw [List.length_map];exact hl,vs,_,rv,ha⟩
    · have z':=(if_neg hb).symm.trans z
      cases z'
  · by_cases hb:b=a
    · exact hb
    · exact absurd (if_neg hb) z
theorem walk_ofS {l:PySem.W.OpenLaw}{n k:Nat}{q:Program}{loose:List Str}{XP:(Str→Option Value)→Heap→Prop}{YP:World→Heap→Prop}{d:DefRec}{K:Params→PySem.W.Frag}{CX:World→CXT}{sp:World→Sp}{x:Str}
 (hn:l.most=some n) (hn2:n≤sizeLine) (hdf:d.params.defaults=[]) (hr:Room k callerA) (hi:importsNone q=true)
 (hY:∀ (w:World) (h:Heap),YP w h→(K w.params).In h)
 (F:∀ (w:World) (mg:Str→Option Value) (fa:Addr) (h:Heap),(K w.params).In h→h.Ns mainGlobals mg→mg d.name=some (.ref fa) →
  ∃ fd:FuncData,(∀ (s:Shared) (u:Value),BindsTo s fd ⟨[u],[]⟩ [(x,u)]) ∧
   ∀ base:Heap,(K w.params).In base→base.Ns mainGlobals mg→base.NoSeer→FnOk l.prog w (K w.params) mg base (CX w) k fa fd [x] (sp w))
 (hsp:∀ (w:World) (H:Hp) (a:Addr) (ns:List Int),ns.length≤n→Only H→SqL (K w.params) H a (ns.map V.int)→sp w [.ref a] H (fun v _=>v = .bl true) fun _ _ _=>False)
 (hCX:∀ (w:World) (H:Hp) (s:Shared) (e:Value) (s':Shared),CX w [] H s (fun _ _ _=>False) e s'→False) :
 PySem.W.WalkO q loose XP YP l.row.toRowW d [] (fun f vs=>PySem.call f vs):=by
 refine Att.attach_call hn hdf fun w s₀ s₁ mg mb fa o pm cd doc a vs ns G Y ho hd hcd hmg hobj hints hlen hg=>?_
 have KX:=hY w _ Y
 obtain ⟨fd,hb,hF⟩:=F w mg fa _ KX G.T.g hmg
 exact law_callS KX G.T.g G.T.b G.T.builtins G.T.nolimit (G.T.seer hi) hg hobj hints (Nat.le_trans hlen hn2) hr hF hb (fun H hO hS=>hsp w H a ns hlen hO hS) fun H e s'=>hCX w H s₁ e s'
end L2
set_option maxHeartbeats 4000000
namespace L2
open PySem PySem.Spec PyProof.Rows
noncomputable abbrev NoE:Value→Shared→Prop:=fun _ _=>False
theorem compLoop_go {prog:Program}{w:World}{A:Around}{R:Result→Shared→Prop}{s:Shared}{elt target iter:Expr}{ifs:List Expr}{scope:Scope}{pos:Pos}{it acc:Value}{env:Env}(I:Nat→Shared→Prop)
 (turn:∀ n s,I n s→wpAny (model prog w) A (pyNext it) (fun r s₁=>match r with
  | none=>R (.ok .next) s₁
  | some v=>wpAny (model prog w) A (letOwnedTupleGo target it v) (fun _ s₁'=>wpAny (model prog w) A (assign target env v) (fun _ s₂=>
   wpAny (model prog w) A (forIn ifs true fun c r=>if r=true then do let ok ← isTrue c env (eval c env);pure (ForInStep.yield ok) else pure (ForInStep.yield r)) (fun ok s₃=>
    if ok=true then wpAny (model prog w) A (eval elt env) (fun x s₄=>
     wpAny (model prog w) A (call (.builtin "list.append") [acc,x]) (fun _ s₅=>∃ m,m<n∧I m s₅) NoE s₄) NoE s₃
    else ∃ m,m<n∧I m s₃) NoE s₂) NoE s₁') NoE s₁) NoE s)
 (n:Nat) (h:I n s) :
 codeAny (model prog w) A (.compLoop (.ListComp elt [⟨target,iter,ifs,0⟩] scope pos) 0 it acc env) R s:=by
 refine codeAny_loop rfl I (fun n s hI=>?_) n h
 show wpAny _ A ((compTurn (.ListComp elt [⟨target,iter,ifs,0⟩] scope pos) 0 it acc env).onRaise (fun x=>do noteFrame x env;theTreesLotGoes x)) _ _ s
 refine wpAny_noted ?_
 rw [compTurn_list]
 refine wpAny_bind (wpAny_standAt (wpAny_bind (wpAny_mono (turn n s hI) (fun r s₁ h₁=>?_) fun _ _ f=>f.elim)))
 cases r with
 | none=>exact wpAny_pure h₁
 | some v=>
  refine wpAny_bind (wpAny_mono h₁ (fun _ s₁' h₁'=>wpAny_bind (wpAny_mono h₁' (fun _ s₂ h₂=>wpAny_bind (wpAny_mono h₂ (fun ok s₃ h₃=>?_) fun _ _ f=>f.elim)) fun _ _ f=>f.elim)) fun _ _ f=>f.elim)
  cases ok with
  | false=>exact wpAny_pure ⟨rfl,h₃⟩
  | true=>
   exact wpAny_bind (wpAny_bind (wpAny_mono h₃ (fun x s₄ h₄=>wpAny_bind (wpAny_mono h₄ (fun _ s₅ h₅=>wpAny_pure (wpAny_pure ⟨rfl,h₅⟩)) fun _ _ f=>f.elim)) fun _ _ f=>f.elim))
noncomputable def closeL (env:Env):List (Str×NameKind)→List (Str×Addr)→List (Str×Addr)
 | [],cs=>cs
 | (n,k)::r,cs=>closeL env r (if (k==NameKind.free)=true then (n,(env.cells.lookup n).getD 0)::cs else cs)
theorem closureFor_eq {scope:Scope}{env:Env}(h:∀ x∈scope.names,x.2 = .free→∃ c,env.cells.lookup x.1=some c):closureFor scope env=pure (closeL env scope.names []):=by
 have key:∀ (l:List (Str×NameKind)) (cs:List (Str×Addr)),(∀ x∈l,x.2 = .free→∃ c,env.cells.lookup x.1=some c) →
  (forIn (m:=Sem) l cs fun (x:Str×NameKind) (r:List (Str×Addr))=>if (x.2==NameKind.free)=true then (do let c ← cellOf env x.1;pure (ForInStep.yield ((x.1,c)::r))) else (do pure PUnit.unit;pure (ForInStep.yield r)))=pure (closeL env l cs):=by
  intro l
  induction l with
  | nil=>intro cs _;rfl
  | cons x r ih=>
   intro cs hx
   obtain ⟨n,k⟩:=x
   rw [List.forIn_cons]
   by_cases hk:k = .free
   · subst hk
     obtain ⟨c,hc⟩:=hx _ List.mem_cons_self rfl
     have e:cellOf env n=pure c:=by unfold cellOf;rw [show env.cells.lookup n=some c from hc]
     simp only [beq_self_eq_true,if_true,e,pure_bind]
     rw [ih _ fun y hy=>hx y (List.mem_cons_of_mem _ hy)]
     simp only [closeL,beq_self_eq_true,if_true]
     rw [show env.cells.lookup n=some c from hc]
     rfl
   · have hb:(k==NameKind.free)=false:=by simpa using hk
     simp only [hb,Bool.false_eq_true,if_false,pure_bind]
     rw [ih _ fun y hy=>hx y (List.mem_cons_of_mem _ hy)]
     simp only [closeL,hb,Bool.false_eq_true,if_false]
 unfold closureFor
 have:=key scope.names [] h
 show ((forIn (m:=Sem) scope.names ([]:List (Str×Addr)) _) >>= _)=_
 refine Eq.trans (congrArg (fun z=>z >>= _) (Eq.trans ?_ this)) ?_
 · congr 1
 · rfl
theorem closeL_mem {env:Env}:∀ {l:List (Str×NameKind)}{cs:List (Str×Addr)},(∀ x∈l,x.2 = .free→∃ c,env.cells.lookup x.1=some c)→(∀ p∈cs,env.cells.lookup p.1=some p.2)→∀ p∈closeL env l cs,env.cells.lookup p.1=some p.2
 | [],_,_,hc=>hc
 | (n,k)::r,cs,hx,hc=>by
  unfold closeL
  refine closeL_mem (fun y hy=>hx y (List.mem_cons_of_mem _ hy)) fun p hp=>?_
  by_cases hk:k = .free
  · subst hk
    simp only [beq_self_eq_true,if_true] at hp
    rcases List.mem_cons.mp hp with rfl | hp
    · obtain ⟨c,e⟩:=hx _ List.mem_cons_self rfl
      have e:env.cells.lookup n=some c:=e
      show env.cells.lookup n=some ((env.cells.lookup n).getD 0)
      rw [e]
      rfl
    · exact hc p hp
  · have hb:(k==NameKind.free)=false:=by simpa using hk
    simp only [hb,Bool.false_eq_true,if_false] at hp
    exact hc p hp
theorem closeL_sub {env:Env}:∀ {l:List (Str×NameKind)}{cs:List (Str×Addr)}{p:Str×Addr},p∈cs→p∈closeL env l cs
 | [],_,_,h=>h
 | (n,k)::r,cs,p,h=>by
  unfold closeL
  refine closeL_sub ?_
  split
  · exact List.mem_cons_of_mem _ h
  · exact h
theorem closeL_has {env:Env}:∀ {l:List (Str×NameKind)}{cs:List (Str×Addr)}{x:Str},(x,NameKind.free)∈l→∃ c,(x,c)∈closeL env l cs
 | [],_,_,h=>by cases h
 | (n,k)::r,cs,x,h=>by
  unfold closeL
  rcases List.mem_cons.mp h with e | h
  · cases e
    simp only [beq_self_eq_true,if_true]
    exact ⟨_,closeL_sub List.mem_cons_self⟩
  · exact closeL_has h
theorem lookup_mem_some {α:Type}{x:Str}{c:α}:∀ {l:List (Str×α)},(x,c)∈l→∃ d,l.lookup x=some d
 | [],h=>by cases h
 | (n,k)::r,h=>by
  rw [List.lookup_cons]
  cases hx:x==n with
  | true=>exact ⟨k,rfl⟩
  | false=>
   rcases List.mem_cons.mp h with e | h
   · cases e;simp at hx
   · exact lookup_mem_some h
theorem relabel_cases {env:Env}{x:Str}:∀ {names:List (Str×NameKind)}{k:NameKind},
 (names.map fun (n,k)=>if (k==NameKind.free&&env.scope.kind == .function&&env.kindOf n==some .cell) then (n,NameKind.cell) else (n,k)).lookup x=some k→names.lookup x=some k∨(k = .cell∧names.lookup x=some .free)
 | [],_,h=>by simp at h
 | (n,j)::r,k,h=>by
  have ih:=@relabel_cases env x r k
  rw [List.map_cons] at h
  rw [List.lookup_cons]
  dsimp only at h
  by_cases hc:(j==NameKind.free&&env.scope.kind == .function&&env.kindOf n==some .cell)=true
  · rw [if_pos hc,List.lookup_cons] at h
    cases hx:x==n with
    | true=>
     rw [hx] at h
     simp only [Bool.and_eq_true] at hc
     have:j = .free:=by simpa using hc.1.1
     subst this
     cases h
     exact .inr ⟨rfl,rfl⟩
    | false=>rw [hx] at h;exact ih h
  · rw [if_neg hc,List.lookup_cons] at h
    cases hx:x==n with
    | true=>rw [hx] at h;exact .inl h
    | false=>rw [hx] at h;exact ih h
theorem relabel_free {env:Env}{x:Str}:∀ {names:List (Str×NameKind)},names.lookup x=some .free →
 (names.map fun (n,k)=>if (k==NameKind.free&&env.scope.kind == .function&&env.kindOf n==some .cell) then (n,NameKind.cell) else (n,k)).lookup x=some .cell ∨
 (names.map fun (n,k)=>if (k==NameKind.free&&env.scope.kind == .function&&env.kindOf n==some .cell) then (n,NameKind.cell) else (n,k)).lookup x=some .free
 | [],h=>by simp at h
 | (n,j)::r,h=>by
  have ih:=@relabel_free env x r
  rw [List.lookup_cons] at h
  rw [List.map_cons]
  dsimp only
  by_cases hc:(j==NameKind.free&&env.scope.kind == .function&&env.kindOf n==some .cell)=true
  · rw [if_pos hc,List.lookup_cons]
    cases hx:x==n with
    | true=>exact .inl rfl
    | false=>rw [hx] at h;exact ih h
  · rw [if_neg hc,List.lookup_cons]
    cases hx:x==n with
    | true=>rw [hx] at h;cases h;exact .inr rfl
    | false=>rw [hx] at h;exact ih h
noncomputable def cxComp (X:Cx) (N':List Str) (scope:Scope) (C:Addr) (s:Shared) (H:Hp) (fp:List Addr):Cx where
 prog:=X.prog
 w:=X.w
 K:=X.K
 mg:=X.mg
 base:=X.base
 A:=X.A
 N:=N'
 s₀:=s
 H₀:=H
 env:=compEnvC scope (closeL X.env scope.names []) C X.env
 outer:=X.stack
 stack:=X.stack
 ex:=fp
 fn:=fun _=>false
 calm:=X.calm
 pn:=[]
 xe:=NoE
structure CompScope (sc:Scope) (N:List Str) (scope:Scope) (N':List Str) (k:Nat) (idx:List Nat):Prop where
 kind:scope.kind = .function
 nocell:∀ x∈scope.names,x.2≠.cell
 loc:∀ x∈scope.names,x.2 = .local → scope.names.lookup x.1=some .local
 fr:∀ x∈scope.names,x.2 = .free→sc.names.lookup x.1=some .cell∨sc.names.lookup x.1=some .free
 nd:N'.Nodup
 free:∀ x∈N'.drop k,scope.names.lookup x=some .free
 ix:(N'.drop k).map some=idx.map fun i=>N[i]?
 len:N'.length=k+idx.length
noncomputable def startC (k:Nat) (idx:List Nat) (σ:St):St:=List.replicate k none++idx.map fun i=>(σ[i]?).join
section
variable {X:Cx}{pins:List (Addr×Obj)}{σ:St}{H:Hp}{s:Shared}{scope:Scope}{N':List Str}{k:Nat}{idx:List Nat}{sc:Scope}{N:List Str}
theorem comp_start (I:Inv X pins σ H s) (S:CompScope sc N scope N' k idx) (hsc:X.env.scope=sc) (hNN:X.N=N) {fp:List Addr}(hf:∀ b∈fp,FpOk X pins H b) (hlt:∀ b∈fp,b<s.heap.objs.size) {h':Heap}{t':Nat}
 (hn:h'.Ns s.heap.objs.size (fun _=>none)) (hk:∀ b o,s.heap.get? b=some o→h'.get? b=some o) :
 Inv (cxComp X N' scope s.heap.objs.size s H fp) [] (startC k idx σ) H { s with heap:=h',toks:=t' }:=by
 have hcell:∀ x∈scope.names,x.2 = .free→∃ c,X.env.cells.lookup x.1=some c:=fun x hx hfree=>I.ok.has x.1 (by
  show X.env.scope.names.lookup x.1=_∨X.env.scope.names.lookup x.1=_
  rw [hsc];exact S.fr x hx hfree)
 have hcl:∀ x c,(closeL X.env scope.names []).lookup x=some c→X.env.cells.lookup x=some c:=fun x c e=>closeL_mem hcell (fun p hp=>by cases hp) (x,c) (PySem.mem_of_lookup e)
 have hok:(cxComp X N' scope s.heap.objs.size s H fp).Ok:={
  mod:=I.ok.mod
  kind:=S.kind
  glob:=I.ok.glob
  blt:=I.ok.blt
  above:=Nat.le_refl _
  inj:=fun x y c e1 e2=>I.ok.inj x y c (hcl x c e1) (hcl y c e2)
  has:=fun x hx=>by
   have hfree:scope.names.lookup x=some .free:=by
    rcases hx with hx | hx
    · rcases relabel_cases (env:=X.env) (names:=scope.names) hx with h | ⟨_,h⟩
      · exact absurd rfl (S.nocell _ (PySem.mem_of_lookup h))
      · exact h
    · rcases relabel_cases (env:=X.env) (names:=scope.names) hx with h | ⟨h,_⟩
      · exact h
      · cases h
   obtain ⟨c,hc⟩:=closeL_has (env:=X.env) (cs:=[]) (PySem.mem_of_lookup hfree)
   exact lookup_mem_some hc
  cab:=fun x c h=>by cases h
  hd:=I.ok.hd
  frames:=I.ok.frames
  stk:=.inl rfl
  exf:=fun b hb=>⟨Nat.ne_of_lt (hlt b hb),fun x c e=>(hf b hb).2.2.2.2.1 x c (hcl x c e)⟩
  bs:=I.bs
  bsz:=Nat.le_trans I.ok.bsz I.sz
  noex:=fun b o e hb=>by
   rcases (hf b hb).2.2.2.1 with z | z
   · exact I.ok.noex b o e z
   · exact absurd (Nat.lt_of_lt_of_le (Heap.lt_size e) (Nat.le_trans I.ok.bsz z)) (Nat.lt_irrefl _)
  exfs:=fun b hb hz=>by
   rcases List.mem_cons.mp (I.stkSub b hz) with e | e
   · exact (hf b hb).2.1 e
   · exact (hf b hb).2.2.1 e
  funs:=I.stack
  frf:=I.stkFree }
 refine ⟨hok,rfl,I.bare,Un.kept hk,⟨_,hn,fun i x v e1 e2 e3=>?_⟩,fun x c e=>?_,I.hok.fresh (Nat.le_refl _),fun x c e=>I.freeC x c (hcl x c e),(fun p hp=>by cases hp),I.hok.kept hk,?_⟩
 · -- a name with a value is one of the others
   have hi:k≤i:=by
    rcases Nat.lt_or_ge i k with h | h
    · have e2:(startC k idx σ)[i]? = some (some v):=e2
      unfold startC at e2
      rw [List.getElem?_append_left (by simpa using h),List.getElem?_replicate] at e2
      split at e2<;>cases e2
    · exact h
   have e1':(N'.drop k)[i-k]? = some x:=by
    rw [List.getElem?_drop,show k+(i-k)=i by omega];exact e1
   have hfree:=S.free x (List.mem_of_getElem? e1')
   have e2':(idx.map fun i=>(σ[i]?).join)[i-k]? = some (some v):=by
    have e2:(startC k idx σ)[i]? = some (some v):=e2
    unfold startC at e2
    rw [List.getElem?_append_right (by simpa using hi),List.length_replicate] at e2
    exact e2
   rw [List.getElem?_map] at e2'
   cases hj:idx[i-k]? with
   | none=>rw [hj] at e2';cases e2'
   | some j=>
    rw [hj] at e2'
    have e3':(σ[j]?).join=some v:=by simpa using e2'
    have eσ:σ[j]? = some (some v):=by
     cases q:σ[j]? with
     | none=>rw [q] at e3';cases e3'
     | some o=>rw [q] at e3';cases o with
      | none=>cases e3'
      | some z=>cases e3';rfl
    have eN:X.N[j]? = some x:=by
     rw [hNN]
     have:=congrArg (fun l=>l[i-k]?) S.ix
     simp only [List.getElem?_map,e1',hj,Option.map_some] at this
     exact (Option.some.inj this).symm
    have hvk:=S.fr _ (PySem.mem_of_lookup hfree) rfl
    obtain ⟨m,hm,hl⟩:=I.loc
    obtain ⟨u,ru,lk⟩:=hl j x v eN eσ (by rw [hsc];exact .inr hvk)
    refine ⟨u,ru,.inr ⟨relabel_free (env:=X.env) hfree,?_⟩⟩
    rcases lk with ⟨kl,_⟩ | ⟨_,c,ec,z⟩
    · have kl:X.env.scope.names.lookup x=some .local := kl
      rw [hsc] at kl
      rcases hvk with q | q<;>(rw [kl] at q;cases q)
    · obtain ⟨d,hd⟩:=closeL_has (env:=X.env) (cs:=[]) (PySem.mem_of_lookup hfree)
      obtain ⟨d',hd'⟩:=lookup_mem_some hd
      have e:=hcl x d' hd'
      rw [ec] at e
      cases e
      obtain ⟨o,ho,hod⟩:=z
      exact ⟨c,hd',o,hk c o ho,hod⟩
 · obtain ⟨v,o,ho,hod⟩:=I.cell x c (hcl x c e)
   exact ⟨v,o,hk c o ho,hod⟩
 · show (startC k idx σ).length=N'.length
   unfold startC
   rw [S.len,List.length_append,List.length_replicate,List.length_map]
end
noncomputable def PTs (X:Cx) (ifs:List Expr) (t:TT):Prop:=
 ∀ (pins:List (Addr×Obj)) (s:Shared) (σ:St) (H:Hp) (Q:Bool→Hp→Prop),Inv X pins σ H s→t σ H Q →
  wpAny (model X.prog X.w) X.A (forIn ifs true fun c r=>if r=true then do let ok ← isTrue c X.env (eval c X.env);pure (ForInStep.yield ok) else pure (ForInStep.yield r)) (TP X pins σ Q) X.xe s
noncomputable def tNoTest:TT:=fun _ H Q=>Q true H
theorem pts_nil {X:Cx}:PTs X [] tNoTest:=fun pins s σ H Q I h=>wpAny_tests_nil ⟨H,I,h⟩
theorem pts_one {X:Cx}{c:Expr}{t:TT}(h:PT X c t):PTs X [c] t:=fun pins s σ H Q I q=>wpAny_tests_one (h pins s σ H Q I q)
noncomputable def cTurns (J:It) (g:TG) (tt:TT) (te:TE) (l:Addr) (σ0:St) (H0:Hp) (Q:Hp→Prop):Prop:=
 ∃ W:Nat→Nat→St→Hp→Prop,(∃ m,W 0 m σ0 H0)∧∀ i m σ H,W i m σ H →
  (J.stop i H∧Q H)∨(J.go i H∧∀ x H',J.yld i H x H'→g x σ H' fun σ2 H2=>tt σ2 H2 fun c H3=>
   if c=true then te σ2 H3 fun y H4=>∃ xs,H4 l=some (.lst xs)∧xs.length<sizeLine∧∃ m',m'<m∧W (i+1) m' σ2 (upd H4 l (.lst (xs++[y])))
   else ∃ m',m'<m∧W (i+1) m' σ2 H3)
noncomputable def tComp (wi:TI) (k:Nat) (idx:List Nat) (g:TG) (tt:TT) (te:TE):TE:=fun σ H Q=>wi σ H fun J H1=>∀ l,H1 l=none→cTurns J g tt te l (startC k idx σ) (upd H1 l (.lst [])) fun H2=>Q (.ref l) H2
section
variable {X:Cx}{tg iter elt:Expr}{ifs:List Expr}{scope sc:Scope}{N N':List Str}{k:Nat}{idx:List Nat}{wi:TI}{g:TG}{tt:TT}{te:TE}{pos:Pos}
structure Free1 (X:Cx) (pins:List (Addr×Obj)) (H:Hp) (C:Addr):Prop where
 loc:C≠X.env.locals
 cel:∀ x c,X.env.cells.lookup x=some c→c≠C
 fr:H C=none
 new:X.s₀.heap.objs.size≤C
 pin:∀ p∈X.pn++pins,p.1≠C
theorem Inv.freed {X:Cx}{pins:List (Addr×Obj)}{σ:St}{H:Hp}{s:Shared}{C:Addr}{h':Heap}(I:Inv X pins σ H s) (f:Free1 X pins H C) (hs:Heap.SameBut C s.heap h'):Inv X pins σ H { s with heap:=h' }:=
 I.turned (t':=s.toks) (it:=C) (fun b o hb e=>(hs.2 b hb).trans e) f.fr f.loc (.inr f.new) f.cel f.pin
theorem comp_block {pins:List (Addr×Obj)}{s:Shared}{σ:St}{E:Value→Shared→Prop}{RR:Value→Addr→Result→Shared→Prop}{itv:Value}{Qe:Addr→Hp→Prop}
 (hc:X.calm=true) (S:CompScope sc N scope N' k idx) (hsc:X.env.scope=sc) (hNN:X.N=N)
 (hg:∀ C s H fp,PG (cxComp X N' scope C s H fp) tg g) (ht:∀ C s H fp,PTs (cxComp X N' scope C s H fp) ifs tt) (he:∀ C s H fp,PE (cxComp X N' scope C s H fp) elt te)
 (hit:PIE X pins σ tg (fun J H1=>∀ l,H1 l=none→cTurns J g tt te l (startC k idx σ) (upd H1 l (.lst [])) fun H2=>Qe l H2) itv s)
 (hRR:∀ l H2 C s2,Inv X pins σ H2 s2→(∃ m,s2.heap.Ns C m)→Free1 X pins H2 C→Qe l H2→RR (.ref l) C (.ok .next) s2) :
 wpAny (model X.prog X.w) X.A (newList []) (fun acc s₃=>wpAny (model X.prog X.w) X.A (newFunctionEnv scope X.env.globals (closeL X.env scope.names []) [] X.env.qual none .none (some X.env)) (fun cenv s₄=>
  codeAny (model X.prog X.w) X.A (.compStart (.ListComp elt [⟨tg,iter,ifs,0⟩] scope pos) 0 itv acc { cenv with scope:=relabel scope X.env }) (RR acc cenv.locals) s₄) E s₃) E s:=by
 obtain ⟨it,fp,tn,J,H1,rfl,I1,T,st1,f1,q⟩:=hit
 refine wpAny_newObj_type ?_
 have hf0:H1 s.heap.objs.size=none:=I1.hok.fresh (Nat.le_refl _)
 have hflt:∀ b∈fp,b<s.heap.objs.size:=fun b hb=>let ⟨_,e,_⟩:=T.obj _ _ st1 b hb;Heap.lt_size e
 generalize hl:s.heap.objs.size=l at *
 have I2:Inv X pins σ (upd H1 l (.lst [])) { s with heap:=s.heap.push { cls:=.type "list",dict:=none,data:=.seq ([]:List Value).toArray } }:=
  I1.laid (t':=s.toks) (fun b u e=>Heap.get?_push_of_some _ e) (Nat.le_of_eq hl) (show ObjOk _ _ _ _ l (.lst []) from ⟨Nat.zero_le _,[],0,.nil,by rw [← hl];exact Heap.get?_push_size _ rfl⟩)
 have st2:tn 0 (s.heap.push { cls:=.type "list",dict:=none,data:=.seq ([]:List Value).toArray }):=T.keep _ _ _ st1 fun b _ o e=>Heap.get?_push_of_some _ e
 have f2:∀ b∈fp,FpOk X pins (upd H1 l (.lst [])) b:=fun b hb=>⟨by rw [upd_ne (Nat.ne_of_lt (hflt b hb))];exact (f1 b hb).1,(f1 b hb).2⟩
 have hsz2:(s.heap.push { cls:=.type "list",dict:=none,data:=.seq ([]:List Value).toArray }).objs.size=l+1:=by rw [Heap.size_push,hl]
 have q2:=q l hf0
 generalize hs2:({ s with heap:=s.heap.push { cls:=.type "list",dict:=none,data:=.seq ([]:List Value).toArray } }:Shared)=s2 at I2 ⊢
 have st2:tn 0 s2.heap:=by rw [← hs2];exact st2
 have hsz2:s2.heap.objs.size=l+1:=by rw [← hs2];exact hsz2
 refine wpAny_newFunctionEnv S.nocell (by intro y hy;simp at hy) (fun h₁ hns₁ hsb₁=>?_) S.kind
 have hk1:∀ b o,s2.heap.get? b=some o→h₁.get? b=some o:=fun b o e=>hsb₁.extBut b o (Nat.ne_of_lt (Heap.lt_size e)) (Heap.get?_push_of_some _ e)
 have hlt2:∀ b∈fp,b<s2.heap.objs.size:=fun b hb=>by rw [hsz2];exact Nat.lt_succ_of_lt (hflt b hb)
 have I3:=comp_start (t':=s2.toks+([]:List (Str×Value)).length) I2 S hsc hNN f2 hlt2 (by simpa using hns₁) hk1
 generalize hC:s2.heap.objs.size=C at *
 have st3:tn 0 h₁:=T.keep _ _ _ st2 fun b _ o e=>hk1 b o e
 obtain ⟨W,⟨m0,w0⟩,turn⟩:=q2
 -- back to the frame around
 have back:∀ {σ':St} {H':Hp} {s':Shared},Inv (cxComp X N' scope C s2 (upd H1 l (.lst [])) fp) [] σ' H' s'→Inv X pins σ H' s':=fun {σ' H' s'} I'=>
  I2.call' I'.os I'.base I'.hok I'.bare fun b hb=>⟨(f2 b hb).2.2.2.1,(f2 b hb).2.1,(f2 b hb).2.2.2.2.1,(f2 b hb).2.2.2.2.2⟩
 have loop:∀ s₃:Shared,s₃ = { s2 with heap:=h₁,toks:=s2.toks+([]:List (Str×Value)).length } →
  codeAny (model X.prog X.w) X.A (.compLoop (.ListComp elt [⟨tg,iter,ifs,0⟩] scope pos) 0 (.ref it) (.ref l) (compEnvC scope (closeL X.env scope.names []) C X.env)) (RR (.ref l) C) s₃:=by
  rintro s₃ rfl
  refine compLoop_go (fun n s'=>∃ i σ' H',Inv (cxComp X N' scope C s2 (upd H1 l (.lst [])) fp) [] σ' H' s'∧tn i s'.heap∧(∀ b∈fp,H' b=none)∧W i n σ' H') ?_ m0 ⟨0,_,_,I3,st3,fun b hb=>(f2 b hb).1,w0⟩
  rintro n s4 ⟨i,σ4,H4,I4,st4,fr4,w4⟩
  have stat:∀ {H':Hp},(∀ b∈fp,H' b=none)→∀ b∈fp,FpOk (cxComp X N' scope C s2 (upd H1 l (.lst [])) fp) [] H' b:=fun {H'} hn b hb=>
   ⟨hn b hb,(I4.ok.exf b hb).1,I4.ok.exfs b hb,.inl hb,(I4.ok.exf b hb).2,fun p hp=>by cases hp⟩
  rcases turn i n σ4 H4 w4 with ⟨stop,qn⟩ | ⟨go,step⟩
  · refine thn (T.done (cxComp X N' scope C s2 (upd H1 l (.lst [])) fp) rfl rfl rfl hc i [] s4 σ4 H4 NoE I4 (stat fr4) st4 stop) fun r s5 ⟨hr,I5⟩=>?_
    subst hr
    have IX:=back I5
    have hCl:C≠X.env.locals:=fun e=>by
     have:=I2.lt
     rw [hC,← e] at this
     exact Nat.lt_irrefl _ this
    have hCc:∀ x c,X.env.cells.lookup x=some c→c≠C:=fun x c e z=>by
     obtain ⟨v,o,ho,_⟩:=I2.cell x c e
     have:=Heap.lt_size ho
     rw [hC,z] at this
     exact Nat.lt_irrefl _ this
    obtain ⟨m5,hm5,_⟩:=I5.loc
    refine hRR l H4 C s5 IX ⟨m5,hm5⟩ ⟨hCl,hCc,I5.free,by rw [← hC];exact I2.sz,fun p hp z=>?_⟩ qn
    obtain ⟨e,_⟩:=I2.pin p hp
    have:=Heap.lt_size e
    rw [hC,z] at this
    exact Nat.lt_irrefl _ this
  · refine thn (T.item (cxComp X N' scope C s2 (upd H1 l (.lst [])) fp) rfl rfl rfl hc i [] s4 σ4 H4 NoE I4 (stat fr4) st4 go) fun r s5 ⟨u,hr,h5⟩=>?_
    subst hr
    refine thn h5 fun _ s6 ⟨x,H6,I6,r6,y6,st6,fr6⟩=>?_
    have I6':=I6.pinned (stat fr6) (T.obj _ _ st6)
    have keepT:∀ {σ7:St} {H7:Hp} {s7:Shared},Inv (cxComp X N' scope C s2 (upd H1 l (.lst [])) fp) ([]++pinsAt fp s6.heap) σ7 H7 s7→tn (i+1) s7.heap∧∀ b∈fp,H7 b=none:=fun {σ7 H7 s7} I7=>
     ⟨T.keep _ _ _ st6 fun b hb o e=>(I7.pin (b,o) (List.mem_append_right _ (List.mem_append_right _ (mem_pinsAt hb e)))).1,fun b hb=>by
      obtain ⟨o,e,d⟩:=T.obj _ _ st6 b hb
      exact (I7.pin (b,o) (List.mem_append_right _ (List.mem_append_right _ (mem_pinsAt hb e)))).2.1⟩
    refine thn (hg C s2 (upd H1 l (.lst [])) fp _ s6 σ4 H6 x u _ I6' r6 (step x H6 y6)) fun _ s7 ⟨σ7,H7,I7,q7⟩=>?_
    refine thn (ht C s2 (upd H1 l (.lst [])) fp _ s7 σ7 H7 _ I7 q7) fun ok s8 ⟨H8,I8,q8⟩=>?_
    cases ok with
    | false=>
     rw [if_neg (by decide)] at q8 ⊢
     obtain ⟨m',hm,w8⟩:=q8
     have kt:=keepT I8
     exact ⟨m',hm,i+1,σ7,H8,I8.unpinned,kt.1,kt.2,w8⟩
    | true=>
     rw [if_pos rfl] at q8 ⊢
     refine thn (he C s2 (upd H1 l (.lst [])) fp _ s8 σ7 H8 _ I8 q8) fun v s9 ⟨y,H9,I9,r9,xs,e9,z9,m',hm,w9⟩=>?_
     refine thn (mt_append _ s9 σ7 H9 (.ref l) [y] (.ref l) [v] (fun z H10=>z = .non∧H10=upd H9 l (.lst (xs++[y]))) I9 rfl (.cons r9 .nil) ⟨l,xs,y,rfl,rfl,e9,z9,rfl,rfl⟩) fun _ s10 ⟨z,H10,I10,_,_,e10⟩=>?_
     subst e10
     have kt:=keepT I10
     exact ⟨m',hm,i+1,σ7,_,I10.unpinned,kt.1,kt.2,w9⟩
 have e2:(newEnv scope C X.env.globals (closeL X.env scope.names []) X.env.qual none .none (some X.env) builtinsNs).locals=C:=rfl
 show codeAny _ _ (.compStart _ 0 (.ref it) (.ref l) (compEnvC scope (closeL X.env scope.names []) C X.env)) (RR (.ref l) C) _
 exact codeAny_compStart_list (loop _ rfl) (T.self _ 0 _ _ _ st3 (loop _ rfl))
theorem pe_comp (hc:X.calm=true) (S:CompScope sc N scope N' k idx) (hsc:X.env.scope=sc) (hNN:X.N=N) (hi:PI X tg iter wi)
 (hg:∀ C s H fp,PG (cxComp X N' scope C s H fp) tg g) (ht:∀ C s H fp,PTs (cxComp X N' scope C s H fp) ifs tt) (he:∀ C s H fp,PE (cxComp X N' scope C s H fp) elt te)
 (hs:∀ x,foldedSetIterable iter X.env x=pure x:=by intro _;rfl):PE X (.ListComp elt [⟨tg,iter,ifs,0⟩] scope pos) (tComp wi k idx g tt te):=by
 intro pins s σ H Q I h
 rw [eval_ListComp]
 have hclos:closureFor scope X.env=pure (closeL X.env scope.names []):=closureFor_eq fun x hx hfree=>I.ok.has x.1 (by
  show X.env.scope.names.lookup x.1=_∨X.env.scope.names.lookup x.1=_
  rw [hsc];exact S.fr x hx hfree)
 refine wpAny_comprehension_free (use:=none) rfl hs hclos S.kind S.loc (thn (hi pins s σ H _ I h) fun v s1 h1=>thn h1 fun itv s2 h2=>?_)
 refine comp_block (RR:=fun acc C=>compPost (model X.prog X.w) X.A X.xe none (EP X pins σ Q) acc C) (Qe:=fun l H2=>Q (.ref l) H2) hc S hsc hNN hg ht he h2 ?_
 intro l H2 C s2 I2 hm f q
 obtain ⟨m,hm⟩:=hm
 exact ⟨m,hm,fun h' hs'=>⟨.ref l,H2,I2.freed f hs',rfl,q⟩⟩
noncomputable def tSetComp (i:Nat) (wi:TI) (k:Nat) (idx:List Nat) (g:TG) (tt:TT) (te:TE):TS:=fun D σ H=>wi σ H fun J H1=>∀ l,H1 l=none→cTurns J g tt te l (startC k idx σ) (upd H1 l (.lst [])) fun H2=>D.nx (σ.set i (some (.ref l))) H2
theorem ps_setcomp {i:Nat}{y:Str}{py spos:Pos}(hc:X.calm=true) (hN:X.N.Nodup) (hiN:X.N[i]? = some y) (hy:X.env.scope.names.lookup y=some .local) (S:CompScope sc N scope N' k idx) (hsc:X.env.scope=sc) (hNN:X.N=N) (hi:PI X tg iter wi)
 (hg:∀ C s H fp,PG (cxComp X N' scope C s H fp) tg g) (ht:∀ C s H fp,PTs (cxComp X N' scope C s H fp) ifs tt) (he:∀ C s H fp,PE (cxComp X N' scope C s H fp) elt te)
 (hsw:swapsWith (.ListComp elt [⟨tg,iter,ifs,0⟩] scope pos) (some (.Name y py)) spos.line X.env=pure true:=by rfl)
 (hs:∀ x,foldedSetIterable iter X.env x=pure x:=by intro _;rfl):PS X (.Assign [.Name y py] (.ListComp elt [⟨tg,iter,ifs,0⟩] scope pos) spos) (tSetComp i wi k idx g tt te):=by
 intro pins s σ H D I h
 rw [exec_Assign_Name_used _ _ _ _ hsw]
 refine wpAny_bind (wpAny_standAt (wpAny_bind ?_))
 show wpAny _ X.A (do let _ ← comprehension (.ListComp elt [⟨tg,iter,ifs,0⟩] scope pos) scope X.env _ (newList []) false (eval iter X.env) (some (assign (.Name y py) X.env))) _ _ s
 have hclos:closureFor scope X.env=pure (closeL X.env scope.names []):=closureFor_eq fun x hx hfree=>I.ok.has x.1 (by
  show X.env.scope.names.lookup x.1=_∨X.env.scope.names.lookup x.1=_
  rw [hsc];exact S.fr x hx hfree)
 refine wpAny_bind (wpAny_mono (wpAny_comprehension_free (use:=some (assign (.Name y py) X.env)) (Q:=fun _ s'=>SP X pins D .next s') rfl hs hclos S.kind S.loc (thn (hi pins s σ H _ I h) fun v s1 h1=>thn h1 fun itv s2 h2=>?_))
  (fun _ s' hq=>wpAny_pure (wpAny_pure hq)) fun _ _ e=>e)
 refine comp_block (RR:=fun acc C=>compPost (model X.prog X.w) X.A X.xe (some (assign (.Name y py) X.env)) (fun _ s'=>SP X pins D .next s') acc C) (Qe:=fun l H2=>D.nx (σ.set i (some (.ref l))) H2) hc S hsc hNN hg ht he h2 ?_
 intro l H2 C s2 I2 hm f q
 obtain ⟨m,hm⟩:=hm
 show wpAny _ X.A (assign (.Name y py) X.env (.ref l)) _ _ _
 refine wpAny_assign_Name (store_ok2 (v:=.ref l) I2 hN hiN (.inl hy) rfl (fun s' I' hch=>?_) (.inr hy))
 obtain ⟨a,hsb,ha⟩:=hch
 have haC:C≠a:=fun z=>by
  rcases ha with e | e
  · exact f.loc (z.trans e)
  · exact f.cel y a e z.symm
 exact ⟨m,hm.sameBut hsb haC,fun h' hs'=>⟨_,H2,I'.freed f hs',q⟩⟩
end
noncomputable def keyD:Key→PyData
 | .inl i=>.int i
 | .inr s=>.str s
noncomputable def epO (o:Obj):Nat:=match o.data with
 | .dict _ ep=>ep
 | _=>0
noncomputable def fzK (ep:Nat) (ks:List Key) (ds:List PyData):List (PyData×PyData):=(.none,.int (ep:Nat))::List.zipWith (fun k d=>(keyD k,d)) ks ds
noncomputable def objK (C:Addr) (ns:List Str) (ds:List PyData):List (PyData×PyData):=(.int (C:Nat),.none)::List.zipWith (fun n d=>(PyData.str n,d)) ns ds
mutual
inductive Rep (ex:List Addr) (H:Hp):PyData→V→Prop
 | none:Rep ex H .none .non
 | bool (b:Bool):Rep ex H (.bool b) (.bl b)
 | int (i:Int):Rep ex H (.int i) (.int i)
 | str (x:Str):Rep ex H (.str x) (.str x)
 | tuple {a:Addr} {xs:List V} {ds:List PyData} (e:H a=some (.tup xs)) (n:a∉ex) (z:xs.length≤sizeLine) (r:Reps ex H ds xs):Rep ex H (.tuple ds) (.ref a)
 | list {a:Addr} {xs:List V} {ds:List PyData} (e:H a=some (.lst xs)) (n:a∉ex) (z:xs.length≤sizeLine) (r:Reps ex H ds xs):Rep ex H (.list ds) (.ref a)
 | obj {a C dx:Addr} {fs:List (Str×V)} {ds:List PyData} {kvs:List (PyData×PyData)} (e:H a=some (.ins C dx fs)) (n:a∉ex) (k:kvs=objK C (fs.map (·.1)) ds) (r:Reps ex H ds (fs.map (·.2))):Rep ex H (.dict kvs) (.ref a)
 | dctf {a:Addr} {ob:Obj} {kws:List (Key×V)} {ds:List PyData} {kvs:List (PyData×PyData)} (e:H a=some (.frz ob (.dK kws))) (n:a∉ex) (k:kvs=fzK (epO ob) (kws.map (·.1)) ds) (r:Reps ex H ds (kws.map (·.2))):Rep ex H (.dict kvs) (.ref a)
inductive Reps (ex:List Addr) (H:Hp):List PyData→List V→Prop
 | nil:Reps ex H [] []
 | cons {d:PyData} {v:V} {ds:List PyData} {vs:List V}:Rep ex H d v→Reps ex H ds vs→Reps ex H (d::ds) (v::vs)
end
noncomputable def Kp (ex:List Addr) (H H':Hp):Prop:=∀ b o,H b=some o→b∉ex→H' b=some o
theorem Kp.refl {ex:List Addr}{H:Hp}:Kp ex H H:=fun _ _ e _=>e
theorem Kp.trans {ex:List Addr}{H H1 H2:Hp}(a:Kp ex H H1) (b:Kp ex H1 H2):Kp ex H H2:=fun c o e n=>b c o (a c o e n) n
theorem Kp.of {ex:List Addr}{H H':Hp}(a:Kp [] H H'):Kp ex H H':=fun c o e _=>a c o e (by simp)
theorem Kp.mono {ex ex':List Addr}{H H':Hp}(a:Kp ex H H') (h:∀ b∈ex,b∈ex'):Kp ex' H H':=fun c o e n=>a c o e fun z=>n (h c z)
theorem Kp.new {ex:List Addr}{H:Hp}{p:Addr}(h:H p=none) (o:HO):Kp ex H (upd H p o):=fun b u q _=>by rw [upd_ne (ne_of_none q h)];exact q
theorem Kp.at {ex:List Addr}{H:Hp}{p:Addr}(h:p∈ex) (o:HO):Kp ex H (upd H p o):=fun b u q n=>by rw [upd_ne (fun (z:b=p)=>n (by rw [z];exact h))];exact q
mutual
theorem Rep.keep {ex:List Addr}{H H':Hp}(k:Kp ex H H'):∀ {d:PyData}{v:V},Rep ex H d v→Rep ex H' d v
 | _,_,.none=>.none
 | _,_,.bool b=>.bool b
 | _,_,.int i=>.int i
 | _,_,.str x=>.str x
 | _,_,.tuple e n z r=>.tuple (k _ _ e n) n z (Reps.keep k r)
 | _,_,.list e n z r=>.list (k _ _ e n) n z (Reps.keep k r)
 | _,_,.obj e n q r=>.obj (k _ _ e n) n q (Reps.keep k r)
 | _,_,.dctf e n q r=>.dctf (k _ _ e n) n q (Reps.keep k r)
theorem Reps.keep {ex:List Addr}{H H':Hp}(k:Kp ex H H'):∀ {ds:List PyData}{vs:List V},Reps ex H ds vs→Reps ex H' ds vs
 | _,_,.nil=>.nil
 | _,_,.cons r t=>.cons (Rep.keep k r) (Reps.keep k t)
end
theorem Reps.length {ex:List Addr}{H:Hp}:∀ {ds:List PyData}{vs:List V},Reps ex H ds vs→ds.length=vs.length
 | _,_,.nil=>rfl
 | _,_,.cons _ t=>by simp [Reps.length t]
theorem Reps.get {ex:List Addr}{H:Hp}:∀ {ds:List PyData}{vs:List V}{i:Nat}{d:PyData},Reps ex H ds vs→ds[i]? = some d→∃ v,vs[i]? = some v∧Rep ex H d v
 | _,_,_,_,.nil,e=>by simp at e
 | _,_,0,_,.cons r _,e=>by simp at e;subst e;exact ⟨_,rfl,r⟩
 | _,_,i+1,d,.cons _ t,e=>by
  obtain ⟨u,h1,h2⟩:=Reps.get (i:=i) (d:=d) t (by simpa using e)
  exact ⟨u,by simpa using h1,h2⟩
theorem Reps.append {ex:List Addr}{H:Hp}:∀ {ds es:List PyData}{vs ws:List V},Reps ex H ds vs→Reps ex H es ws→Reps ex H (ds++es) (vs++ws)
 | _,_,_,_,.nil,s=>s
 | _,_,_,_,.cons r t,s=>.cons r (Reps.append t s)
theorem Reps.take {ex:List Addr}{H:Hp}:∀ {ds:List PyData}{vs:List V}(n:Nat),Reps ex H ds vs→Reps ex H (ds.take n) (vs.take n)
 | _,_,0,_=>.nil
 | _,_,_+1,.nil=>.nil
 | _,_,n+1,.cons r t=>.cons r (Reps.take n t)
theorem Reps.drop {ex:List Addr}{H:Hp}:∀ {ds:List PyData}{vs:List V}(n:Nat),Reps ex H ds vs→Reps ex H (ds.drop n) (vs.drop n)
 | _,_,0,r=>r
 | _,_,_+1,.nil=>.nil
 | _,_,n+1,.cons _ t=>Reps.drop n t
theorem Reps.ints_inv {ex:List Addr}{H:Hp}:∀ {ns:List Int}{vs:List V},Reps ex H (ns.map PyData.int) vs→vs=ns.map V.int
 | [],_,.nil=>rfl
 | n::r,_,.cons (.int _) t=>by rw [Reps.ints_inv t];rfl
theorem Reps.rep {ex:List Addr}{H:Hp}{ds:List PyData}{vs:List V}(h:Reps ex H ds vs):∀ k:Nat,Reps ex H (List.replicate k ds).flatten (List.replicate k vs).flatten
 | 0=>.nil
 | k+1=>by
  rw [List.replicate_succ,List.replicate_succ,List.flatten_cons,List.flatten_cons]
  exact Reps.append h (Reps.rep h k)
theorem lay_cons {d:PyData}{ds:List PyData}(h:PyData.canLayAll0 (d::ds)=true):d.canLay0=true∧PyData.canLayAll0 ds=true:=by rw [PyData.canLayAll0,Bool.and_eq_true] at h;exact h
mutual
theorem Rep.reads {ex:List Addr}{P:Program}{w:World}{H:Hp}{h:Heap}(ok:HOk P w H h):∀ {d:PyData}{v:V}{u:Value},d.canLay0=true→Rep ex H d v→RelV v u→∃ as,Reads h u d as
 | _,_,_,_,.none,r=>by cases (show _=Value.none from r);exact ⟨_,.none⟩
 | _,_,_,_,.bool b,r=>by cases (show _=Value.bool b from r);exact ⟨_,.bool b⟩
 | _,_,_,_,.int i,r=>by obtain ⟨t,rfl⟩:=(show ∃ t,_=Value.int i t from r);exact ⟨_,.int i t⟩
 | _,_,_,_,.str x,r=>by obtain ⟨t,rfl⟩:=(show ∃ t,_=Value.str x t from r);exact ⟨_,.str x t⟩
 | _,_,_,hc,.tuple (a:=a) (xs:=xs) e n _ rs,r=>by
  cases (show _=Value.ref a from r)
  obtain ⟨z,its,rv,o,e1,e2,n',e3⟩:=(show ObjOk P w H h a (.tup xs) from ok a _ e)
  obtain ⟨as,ra⟩:=Reps.reads ok (by rw [PyData.canLay0] at hc;exact hc) rs rv
  exact ⟨as,.tuple e1 e2 e3 (by simpa using ra)⟩
 | _,_,_,hc,.list (a:=a) (xs:=xs) e n _ rs,r=>by
  cases (show _=Value.ref a from r)
  obtain ⟨z,its,n',rv,e1⟩:=(show ObjOk P w H h a (.lst xs) from ok a _ e)
  obtain ⟨as,ra⟩:=Reps.reads ok (by rw [PyData.canLay0] at hc;exact hc) rs rv
  exact ⟨_,.list e1 rfl rfl (by simpa using ra)⟩
 | _,_,_,hc,.obj _ _ _ _,r=>by rw [PyData.canLay0] at hc;cases hc
 | _,_,_,hc,.dctf _ _ _ _,r=>by rw [PyData.canLay0] at hc;cases hc
theorem Reps.reads {ex:List Addr}{P:Program}{w:World}{H:Hp}{h:Heap}(ok:HOk P w H h):∀ {ds:List PyData}{vs:List V}{us:List Value},PyData.canLayAll0 ds=true→Reps ex H ds vs→Vals vs us→∃ as,ReadsAll h us ds as
 | _,_,_,_,.nil,r=>by cases r;exact ⟨_,.nil⟩
 | _,_,_,hc,.cons q t,r=>by
  cases r with
  | cons r1 r2=>
   obtain ⟨as,h1⟩:=Rep.reads ok (lay_cons hc).1 q r1
   obtain ⟨bs,h2⟩:=Reps.reads ok (lay_cons hc).2 t r2
   exact ⟨_,.cons h1 h2⟩
end
section
variable {X:Cx}
noncomputable def rNeD:R2:=fun x y H Q=>∃ ex da db,Rep ex H da x∧Rep ex H db y∧da.canLay0=true∧db.canLay0=true∧min da.depth db.depth≤50∧Q (.bl (!PyData.eqv da db)) H
theorem call_all:CallR X (.builtin "all") (fun xs H Q=>X.calm=true∧∃ (p:Addr) (bs:List Bool),xs=[.ref p]∧SqL X.K H p (bs.map V.bl)∧Q (.bl (bs.all id)) H):=by
 intro pins s σ H xs us Q I r h
 obtain ⟨hc,p,bs,rfl,hq,q⟩:=h
 obtain ⟨u,rfl,ru⟩:=vals1 r
 cases ru
 obtain ⟨its,rv,pl,hz⟩:=I.list hq
 have hl:=pl.isList
 have hlt:p<s.heap.objs.size:=by obtain ⟨_,e,_⟩:=hl;exact Heap.lt_size e
 refine call_all_walk (wpAny_pyIter_list hl ?_)
 refine ⟨_,_,_,_,_,_,fun i=>bs.getD i true,rfl,Walks.list (A:=X.A.in1) (I.ok.hd hc) _ p (Nat.ne_of_lt hlt) its.toArray,⟨⟨_,Heap.get?_push_size _ rfl,rfl,rfl⟩,hl.push _⟩,?_,fun h' tk hk=>?_⟩
 · intro i v s' Q' E' hP hQ
   have hP:its[i]? = some v:=by simpa using hP
   have hi:i<its.length:=(List.getElem?_eq_some_iff.mp hP).1
   have hlen:=rv.length
   have hb:(bs.map V.bl)[i]? = some (V.bl (bs.getD i true)):=by
    rw [List.length_map] at hlen
    rw [List.getElem?_map,List.getElem?_eq_getElem (by omega),List.getD_eq_getElem?_getD,List.getElem?_eq_getElem (by omega)]
    rfl
   obtain ⟨u,hu,ru⟩:=rv.get hb
   rw [hP] at hu
   cases hu
   cases (show v=Value.bool _ from ru)
   exact wpAny_truthy_bool hQ
 · have e:((List.range its.toArray.size).all fun i=>bs.getD i true)=bs.all id:=by
    have hlen:=rv.length
    rw [List.length_map] at hlen
    rw [List.size_toArray,← hlen,Bool.eq_iff_iff]
    simp only [List.all_eq_true,List.mem_range]
    constructor
    · intro h b hb
      obtain ⟨i,hi,rfl⟩:=List.mem_iff_getElem.mp hb
      have:=h i hi
      rw [List.getD_eq_getElem?_getD,List.getElem?_eq_getElem hi] at this
      exact this
    · intro h i hi
      rw [List.getD_eq_getElem?_getD,List.getElem?_eq_getElem hi]
      exact h _ (List.getElem_mem hi)
   rw [e]
   exact ⟨.bl (bs.all id),H,I.kept (t':=tk) (old_kept hk),rfl,q⟩
theorem call_isinst:CallR X (.builtin "isinstance") (fun xs H Q=>∃ x T t b,xs=[x,.ty T]∧TyOf X.K H x t∧PySem.W.kitOne X.K t (.type T)=some b∧Q (.bl b) H):=by
 intro pins s σ H xs us Q I r h
 obtain ⟨x,T,t,b,rfl,ty,e,q⟩:=h
 obtain ⟨u,w',rfl,ru,rw'⟩:=vals2 r
 cases (show w'=Value.type T from rw')
 exact isinst_ok I ru ty e fun tk=>⟨.bl b,H,I.tok tk,rfl,q⟩
noncomputable def tyName:PyData→String
 | .none=>"NoneType"
 | .bool _=>"bool"
 | .int _=>"int"
 | .str _=>"str"
 | .list _=>"list"
 | .tuple _=>"tuple"
 | .dict _=>"dict"
noncomputable def noD:PyData→Bool
 | .dict _=>false
 | _=>true
theorem Rep.tyOf {ex:List Addr}{H:Hp}{K:PySem.W.Frag}{d:PyData}{v:V}(hn:noD d=true) (r:Rep ex H d v):TyOf K H v (.type (tyName d)):=by
 cases r with
 | none=>exact .non
 | bool b=>exact .bl b
 | int i=>exact .int i
 | str x=>exact .str x
 | tuple e n z r=>exact .tup e
 | list e n z r=>exact .lst e
 | obj=>cases hn
 | dctf=>cases hn
noncomputable def CDivB (i j:Int):Prop:=0<j∧j.natAbs.log2<9000
theorem op_fdivB:OpR X (binaryOp .FloorDiv) (rI CDivB fun i j=>.int (i/j)):=opI fun i j _ _ _ _ _ hc q=>by
 have h1:(0:Int)<j:=hc.1
 exact floordiv_int (by omega) (by rw [Int.fdiv_eq_ediv_of_nonneg i (by omega)];exact q) (.inl (PyProof.noPylong_of_log2 hc.2))
end
theorem cdivB_of {i j:Int}(h0:0<j) (h1:j<2^9000):CDivB i j:=by
 refine ⟨h0,?_⟩
 have hn:j.natAbs≠0:=by omega
 rw [Nat.log2_lt hn]
 have:(j.natAbs:Int)=j:=Int.natAbs_of_nonneg (by omega)
 have h2:((j.natAbs:Nat):Int)<((2^9000:Nat):Int):=by rw [this];exact_mod_cast h1
 exact_mod_cast h2
noncomputable def Cal (P:Program) (w:World) (K:PySem.W.Frag) (mg:Str→Option Value) (base:Heap) (name:Str) (k:Nat) (ps:List Str) (sp:Sp):Prop:=
 ∃ f fd,mg name=some (.ref f)∧PySem.W.keepIn K (.ref f)=true∧Binds K fd ps []∧FnOk P w K mg base CX0 k f fd ps sp
noncomputable def Def (K:PySem.W.Frag) (mg:Str→Option Value) (name:Str) (st:Stmt) (ps:List Str):Prop:=
 ∃ f fd,mg name=some (.ref f)∧Fun K name name st f fd∧Binds K fd ps []
theorem Def.cal {P:Program}{w:World}{K:PySem.W.Frag}{mg:Str→Option Value}{base:Heap}{name:Str}{st:Stmt}{ps:List Str}{k:Nat}{sp:Sp}(d:Def K mg name st ps)
 (h:∀ f fd,Fun K name name st f fd→FnOk P w K mg base CX0 k f fd ps sp):Cal P w K mg base name k ps sp:=by
 obtain ⟨f,fd,hm,F,b⟩:=d
 exact ⟨f,fd,hm,F.kp,b,h f fd F⟩
theorem Cal.imp {P:Program}{w:World}{K:PySem.W.Frag}{mg:Str→Option Value}{base:Heap}{name:Str}{k:Nat}{ps:List Str}{sp sp':Sp}(c:Cal P w K mg base name k ps sp) (h:∀ vs H Q E,sp' vs H Q E→sp vs H Q E):Cal P w K mg base name k ps sp':=by
 obtain ⟨f,fd,hm,hk,b,F⟩:=c
 exact ⟨f,fd,hm,hk,b,F.imp h⟩
section
variable {X:Cx}{x:Str}{e:Expr}{es:List Expr}{p pos:Pos}{t:TA}{k:Nat}{ps:List Str}{sp:Sp}
theorem pe_c (c:Cal X.prog X.w X.K X.mg X.base x k ps sp) (hr:Room k X.A) (hg:Gl X x) (ha:PA X (e::es) t) (hdb:(x==("__debug__":Str))=false:=by decide)
 (he:starEach (e::es) X.env=(false,eval e X.env)::starEach es X.env:=by rfl) (hpl:(backTo pos (starEach es X.env)).any (·.1)=false:=by rfl) :
 PE X (.Call (.Name x p) (e::es) [] pos) (tCall sp [] E0 t):=by
 obtain ⟨f,fd,hm,hk,b,F⟩:=c
 exact pe_call F hr hg hm hk b .nil pass0 ha hdb he hpl
end
section
variable {X:Cx}
theorem op_neD (hu:X.A.units+64<cLine):OpR X (compareOp .NotEq) rNeD:=by
 intro pins s σ H x y v u Q I rx ry h
 obtain ⟨ex,da,db,r1,r2,c1,c2,hd,q⟩:=h
 obtain ⟨as,h1⟩:=Rep.reads I.hok c1 r1 rx
 obtain ⟨bs,h2⟩:=Rep.reads I.hok c2 r2 ry
 exact SeqAt.compareNe_reads h1 h2 c1 c2 (by omega) ⟨.bl (!PyData.eqv da db),H,I,rfl,q⟩
end
section
variable {X:Cx}
end
noncomputable def instD (d:PyData) (T:String):Bool:=tyName d==T||(tyName d == "bool" && T == "int")
theorem kit_D (K:PySem.W.Frag) (d:PyData) (T:String) (hT:T = "int"∨T = "bool"∨T = "str"∨T = "tuple"∨T = "list"):PySem.W.kitOne K (.type (tyName d)) (.type T)=some (instD d T):=by
 rcases hT with rfl | rfl | rfl | rfl | rfl<;>cases d<;>first | rfl | kernel_rfl
theorem call_isD {X:Cx}:CallR X (.builtin "isinstance") (fun xs H Q=>∃ ex d x T,xs=[x,.ty T]∧Rep ex H d x∧noD d=true∧(T = "int"∨T = "bool"∨T = "str"∨T = "tuple"∨T = "list")∧Q (.bl (instD d T)) H):=by
 intro pins s σ H xs us Q I r h
 obtain ⟨ex,d,x,T,rfl,rd,hn,hT,q⟩:=h
 exact call_isinst pins s σ H _ us Q I r ⟨x,T,_,_,rfl,Rep.tyOf hn rd,kit_D _ _ _ hT,q⟩
end L2
namespace My
open PySem PySem.Spec PyProof.Rows L2
theorem ite_b {c:Bool}{A B:Prop}(h1:c=true→A) (h2:c=false→B):if c=true then A else B:=by
 cases c with
 | true=>exact h1 rfl
 | false=>exact h2 rfl
noncomputable def mostKV:Option Int→List (Key×V)
 | none=>[]
 | some m=>[(Sum.inr "most",V.int m)]
noncomputable def jarKV (c:Addr) (rest seed:Int) (turn:Int×Option Int):List (Key×V):=(Sum.inr "cells",V.ref c)::(Sum.inr "rest",V.int rest)::(Sum.inr "seed",V.int seed)::(Sum.inr "turn",V.int turn.1)::mostKV turn.2
structure Jar (H:Hp) (p c:Addr):Prop where
 ex:∃ (ns:List Int) (rest seed:Int) (turn:Int×Option Int),H p=some (.dK (jarKV c rest seed turn))∧H c=some (.lst (ns.map V.int))∧ns.length≤63∧0≤seed∧seed<2^64
theorem Jar.fresh {H:Hp}{p c l:Addr}(J:Jar H p c) (h:H l=none):l∉[p,c]:=by
 obtain ⟨ns,r,s,t,h1,h2,_⟩:=J.ex
 intro z
 rcases List.mem_cons.mp z with rfl | z
 · rw [h] at h1;cases h1
 · cases List.mem_singleton.mp z;rw [h] at h2;cases h2
section
variable (c:Addr) (r s:Int) (t:Int×Option Int) (x:Int)
end
structure JarX (H:Hp) (p c:Addr) (ns:List Int) (r sd:Int) (tn:Int×Option Int):Prop where
 d:H p=some (.dK (jarKV c r sd tn))
 l:H c=some (.lst (ns.map V.int))
theorem JarX.jar {H:Hp}{p c:Addr}{ns:List Int}{r sd:Int}{tn:Int×Option Int}(J:JarX H p c ns r sd tn) (h1:ns.length≤63) (h2:0≤sd) (h3:sd<2^64):Jar H p c:=⟨ns,r,sd,tn,J.d,J.l,h1,h2,h3⟩
noncomputable def JarE (H:Hp) (p c:Addr) (e:Option Int):Prop:=∃ ns r sd tn,JarX H p c ns r sd (tn,e)∧ns.length≤63∧0≤sd∧sd<2^64
theorem JarE.jar {H:Hp}{p c:Addr}{e:Option Int}(J:JarE H p c e):Jar H p c:=by
 obtain ⟨ns,r,sd,tn,X,h1,h2,h3⟩:=J
 exact X.jar h1 h2 h3
theorem seq_by {t u:TS}{D:Ends}{σ:L2.St}{H:Hp}(Mid:L2.St→Hp→Prop) (h1:∀ N:L2.St→Hp→Prop,(∀ σ' H',Mid σ' H'→N σ' H')→t { D with nx:=N } σ H) (h2:∀ σ' H',Mid σ' H'→u D σ' H'):tSeq t u D σ H:=h1 _ h2
theorem cutV_ints (ns:List Int) (lo hi:Option Int):∃ ms:List Int,cutV (ns.map V.int) lo hi=ms.map V.int∧ms.length≤ns.length:=by
 unfold cutV
 refine ⟨_,by rw [← List.map_drop,← List.map_take],?_⟩
 rw [List.length_take,List.length_drop]
 omega
mutual
theorem Rep.mono {ex ex':List Addr}{H:Hp}(h:∀ b∈ex,b∈ex'):∀ {d:PyData}{v:V},Rep ex' H d v→Rep ex H d v
 | _,_,.none=>.none
 | _,_,.bool b=>.bool b
 | _,_,.int i=>.int i
 | _,_,.str x=>.str x
 | _,_,.tuple e n z r=>.tuple e (fun q=>n (h _ q)) z (Reps.mono h r)
 | _,_,.list e n z r=>.list e (fun q=>n (h _ q)) z (Reps.mono h r)
 | _,_,.obj e n k r=>.obj e (fun q=>n (h _ q)) k (Reps.mono h r)
 | _,_,.dctf e n k r=>.dctf e (fun q=>n (h _ q)) k (Reps.mono h r)
theorem Reps.mono {ex ex':List Addr}{H:Hp}(h:∀ b∈ex,b∈ex'):∀ {ds:List PyData}{vs:List V},Reps ex' H ds vs→Reps ex H ds vs
 | _,_,.nil=>.nil
 | _,_,.cons r t=>.cons (Rep.mono h r) (Reps.mono h t)
end
theorem at_P {P:Int→Prop}(ns:List Int) {i:Int}(h:∀ n∈ns,P n) (h0:0≤i) (h1:i<ns.length):∃ n,atI (ns.map V.int) i=some (V.int n)∧P n:=by
 have hk:i.toNat<ns.length:=by omega
 have e:i=((i.toNat:Nat):Int):=by omega
 refine ⟨ns[i.toNat],?_,h _ (List.getElem_mem hk)⟩
 have q:atI (ns.map V.int) ((i.toNat:Nat):Int)=some (V.int ns[i.toNat]):=atI_nat (by rw [List.getElem?_map,List.getElem?_eq_getElem hk];rfl)
 rw [← e] at q
 exact q
theorem ixN_of {n:Nat}{i:Int}(h0:0≤i) (h1:i<n):ixN n i=some i.toNat:=by
 unfold ixN;rw [if_pos h0,if_pos h1]
noncomputable def spLaw (K:PySem.W.Frag):Sp:=fun vs H Q _=>∃ (a:Addr) (ns:List Int),vs=[.ref a]∧SqL K H a (ns.map V.int)∧ns.length≤63∧∀ H',Q (.bl true) H'
theorem small4 {α:Type}{l:List α}(h:l.length≤1000):l.length≤sizeLine:=Nat.le_of_lt (small1000 h)
end My
namespace L2
open PySem PySem.Spec PyProof.Rows
theorem assign_sub_gen (o i:Expr) (pos:Pos) (env:Env) (v:Value):assign (.Subscript o i pos) env v=(do
 let ov ← holding [v] (eval o env)
 let iv ← holding [v,ov] (eval i env)
 standAt pos
 holding [v,ov,iv] (setItem ov iv v)
 release (match i with | .Slice _ _ none _=>[iv,v,ov] | _=>[v,ov,iv]) []):=rfl
theorem assign_sub_call (o f:Expr) (args:List Expr) (kws:List Keyword) (p pos:Pos) (env:Env) (v:Value):assign (.Subscript o (.Call f args kws p) pos) env v=(do
 let ov ← holding [v] (eval o env)
 let iv ← holding [v,ov] (eval (.Call f args kws p) env)
 standAt pos
 holding [v,ov,iv] (setItem ov iv v)
 release [v,ov,iv] []):=assign_sub_gen _ _ _ _ _
theorem assign_sub_name (o:Expr) (x:Str) (p pos:Pos) (env:Env) (v:Value):assign (.Subscript o (.Name x p) pos) env v=(do
 let ov ← holding [v] (eval o env)
 let iv ← holding [v,ov] (eval (.Name x p) env)
 standAt pos
 holding [v,ov,iv] (setItem ov iv v)
 release [v,ov,iv] []):=assign_sub_gen _ _ _ _ _
section
variable {X:Cx}{es:List Expr}{te:TE}{t:TA}{pos:Pos}
theorem pa_tuple {xs:List Expr}{k:Nat}(ha:PE X (.Tuple xs k pos) te) (hr:PA X es t):PA X (.Tuple xs k pos::es) (tCons te t):=pa_cons ha hr rfl
theorem pa_const {k:Const}{j:Nat}(ha:PE X (.Constant k j pos) te) (hr:PA X es t):PA X (.Constant k j pos::es) (tCons te t):=pa_cons ha hr rfl
theorem pa_name {x:Str}(ha:PE X (.Name x pos) te) (hr:PA X es t):PA X (.Name x pos::es) (tCons te t):=pa_cons ha hr rfl
theorem pa_call {f:Expr}{xs:List Expr}{ks:List Keyword}(ha:PE X (.Call f xs ks pos) te) (hr:PA X es t):PA X (.Call f xs ks pos::es) (tCons te t):=pa_cons ha hr rfl
theorem pa_binop {a b:Expr}{op:Operator}(ha:PE X (.BinOp a op b pos) te) (hr:PA X es t):PA X (.BinOp a op b pos::es) (tCons te t):=pa_cons ha hr rfl
theorem pa_unary {a:Expr}{op:UnaryOp}(ha:PE X (.UnaryOp op a pos) te) (hr:PA X es t):PA X (.UnaryOp op a pos::es) (tCons te t):=pa_cons ha hr rfl
theorem pa_cmp {a:Expr}{ops:List CmpOp}{bs:List Expr}(ha:PE X (.Compare a ops bs pos) te) (hr:PA X es t):PA X (.Compare a ops bs pos::es) (tCons te t):=pa_cons ha hr rfl
theorem pa_if {a b c:Expr}(ha:PE X (.IfExp a b c pos) te) (hr:PA X es t):PA X (.IfExp a b c pos::es) (tCons te t):=pa_cons ha hr rfl
theorem pa_sub {a b:Expr}(ha:PE X (.Subscript a b pos) te) (hr:PA X es t):PA X (.Subscript a b pos::es) (tCons te t):=pa_cons ha hr rfl
theorem pa_comp {e:Expr}{gs:List Comprehension}{sc:Scope}(ha:PE X (.ListComp e gs sc pos) te) (hr:PA X es t):PA X (.ListComp e gs sc pos::es) (tCons te t):=pa_cons ha hr rfl
end
structure PEs (X:Cx) (e:Expr) (t:TE):Prop where
 out:PE X e t
structure PAs (X:Cx) (es:List Expr) (t:TA):Prop where
 out:PA X es t
section
variable {X:Cx}{es:List Expr}{te:TE}{t:TA}{pos:Pos}
theorem pes_of {e:Expr}(h:PE X e te):PEs X e te:=⟨h⟩
theorem pes_tup {k:Nat}(h:PAs X es t):PEs X (.Tuple es k pos) (tTup t):=⟨pe_tup h.out⟩
theorem pes_lst (h:PAs X es t):PEs X (.List es pos) (tLst t):=⟨pe_lst h.out⟩
theorem pes_int {i:Int}{j:Nat}:PEs X (.Constant (.int i) j pos) (tC (.int i)):=⟨pe_int⟩
theorem pas_nil:PAs X [] tNil:=⟨pa_nil⟩
theorem pas_tuple {xs:List Expr}{k:Nat}(ha:PEs X (.Tuple xs k pos) te) (hr:PAs X es t):PAs X (.Tuple xs k pos::es) (tCons te t):=⟨pa_tuple ha.out hr.out⟩
theorem pas_const {k:Const}{j:Nat}(ha:PEs X (.Constant k j pos) te) (hr:PAs X es t):PAs X (.Constant k j pos::es) (tCons te t):=⟨pa_const ha.out hr.out⟩
theorem pas_name {x:Str}(ha:PEs X (.Name x pos) te) (hr:PAs X es t):PAs X (.Name x pos::es) (tCons te t):=⟨pa_name ha.out hr.out⟩
theorem pas_call {f:Expr}{xs:List Expr}{ks:List Keyword}(ha:PEs X (.Call f xs ks pos) te) (hr:PAs X es t):PAs X (.Call f xs ks pos::es) (tCons te t):=⟨pa_call ha.out hr.out⟩
theorem pas_binop {a b:Expr}{op:Operator}(ha:PEs X (.BinOp a op b pos) te) (hr:PAs X es t):PAs X (.BinOp a op b pos::es) (tCons te t):=⟨pa_binop ha.out hr.out⟩
theorem pas_unary {a:Expr}{op:UnaryOp}(ha:PEs X (.UnaryOp op a pos) te) (hr:PAs X es t):PAs X (.UnaryOp op a pos::es) (tCons te t):=⟨pa_unary ha.out hr.out⟩
theorem pas_sub {a b:Expr}(ha:PEs X (.Subscript a b pos) te) (hr:PAs X es t):PAs X (.Subscript a b pos::es) (tCons te t):=⟨pa_sub ha.out hr.out⟩
end
theorem def_mk {K:PySem.W.Frag}{h:Heap}{mg:Str→Option Value}{x:Str}{st:Stmt}{ps:List Str}{f:Addr}{oc:Value}{od an:Option Addr}{osl:Array (Option Value)}{kV doc pm cdv ct:Value}(X:K.In h) (G:h.Ns mainGlobals mg)
 (a:PySem.W.nsIn K mainGlobals x=some (some (.ref f))) (l:K.lookup f=some ⟨oc,od,.func (PySem.W.fnOf x x (defArgs st) (defBody st) (defScope st) .none kV doc pm an cdv ct),osl⟩) (c:PySem.W.codeIn K cdv x=true) (k:PySem.W.keepIn K (.ref f)=true)
 (hb:∀ (kV doc pm:Value) (an:Option Addr) (cdv ct:Value) (us:List Value),us.length=ps.length→bindArgs (PySem.W.fnOf x x (defArgs st) (defBody st) (defScope st) .none kV doc pm an cdv ct) ⟨us,[]⟩=pure (ps.zip us)):Def K mg x st ps:=
 ⟨f,_,PySem.W.mg_of X G a,fun_mk (st:=st) l c k,(fun_mk (st:=st) l c k).binds hb⟩
end L2
namespace My
open PySem PySem.Spec PyProof.Rows L2
structure Way where
 a:Int
 b:Int
 g:List Int
noncomputable def wayPD (w:Way):PyData:=.tuple [.int w.a,.int w.b,.tuple (w.g.map PyData.int)]
noncomputable def bookPD (R P:Int) (ws:List Way):PyData:=.tuple [.int R,.int P,.tuple (ws.map wayPD)]
structure WayOk (R P:Int) (w:Way):Prop where
 a0:0≤w.a
 a1:w.a<R
 b0:0≤w.b
 b1:w.b<R
 len:(w.g.length:Int)=P
 small:∀ x∈w.g,-99≤x∧x≤99
structure BookOk (R P:Int) (ws:List Way):Prop where
 r0:1≤R
 r1:R≤12
 p0:1≤P
 p1:P≤6
 len:ws.length≤60
 ways:∀ w∈ws,WayOk R P w
theorem small9000 {n:Int}(h:n≤100000):n<2^9000:=Int.lt_of_le_of_lt h (by decide +kernel)
end My
namespace L2
open PySem PySem.Spec PyProof.Rows
section
variable {α:Type}{a b c d e f x:α}{l:List α}
theorem mm0:a∈a::l:=List.mem_cons_self
theorem mm1:b∈a::b::l:=List.mem_cons_of_mem _ mm0
theorem mm2:c∈a::b::c::l:=List.mem_cons_of_mem _ mm1
theorem mm3:d∈a::b::c::d::l:=List.mem_cons_of_mem _ mm2
theorem mm4:e∈a::b::c::d::e::l:=List.mem_cons_of_mem _ mm3
theorem mm5:f∈a::b::c::d::e::f::l:=List.mem_cons_of_mem _ mm4
theorem mn0 (h:¬ x∈a::l):x≠a:=fun e=>h (e▸mm0)
theorem mn1 (h:¬ x∈a::b::l):x≠b:=fun e=>h (e▸mm1)
theorem mn2 (h:¬ x∈a::b::c::l):x≠c:=fun e=>h (e▸mm2)
theorem mn3 (h:¬ x∈a::b::c::d::l):x≠d:=fun e=>h (e▸mm3)
theorem mn4 (h:¬ x∈a::b::c::d::e::l):x≠e:=fun e=>h (e▸mm4)
theorem mn5 (h:¬ x∈a::b::c::d::e::f::l):x≠f:=fun e=>h (e▸mm5)
end
section
variable {prog:Program}{w:World}{A:Around}{E:Value→Shared→Prop}{s:Shared}
theorem nextT_item {j t:Addr}{i:Nat}{vs:Array Value}{y:Value}{Q:Value→Shared→Prop}(g:s.heap.IsTupleIter j t i) (gt:s.heap.IsTuple t vs) (gy:vs[i]? = some y)
 (q:∀ h',h'.IsTupleIter j t (i+1)→Heap.SameBut j s.heap h'→Q y { s with heap:=h' }):wpAny (model prog w) A (Builtin.SmallTypes.nextOf (.ref j)) Q E s:=by
 obtain ⟨oj,e1,e2,e3⟩:=id g
 obtain ⟨ot,e4,_,n4,e5⟩:=gt
 have goal2:wpAny (model prog w) A.in1 (Builtin.«tuple_iterator.__next__» ⟨[.ref j],[]⟩) (fun fin s'=>∃ v,fin = .done (.ret v)∧wpAny (model prog w) A (pure v) Q E s') E s:=by
  show wpAny _ _ (field (.ref j) 0 >>= _) _ _ s
  refine wpAny_bind (wpAny_field e1 e3 (x:=.ref t) rfl ?_)
  show wpAny _ _ (if (Value.ref t==Value.none)=true then _ else _) _ _ s;rw [if_neg (show ¬ ((Value.ref t==Value.none)=true) from fun z=>Bool.noConfusion z)]
  show wpAny _ _ (field (.ref j) 1 >>= _) _ _ s
  refine wpAny_bind (wpAny_field e1 e3 (x:=.int i 0) rfl ?_)
  show wpAny _ _ (seqItems? (.ref t) >>= _) _ _ s
  refine wpAny_bind (wpAny_seqItems e4 e5 ?_)
  simp only [Int.toNat_natCast,gy]
  refine wpAny_bind (wpAny_setField e1 e3 (by first | exact mm0 | exact mm1 | exact mm2 | exact mm3 | exact mm4 | exact mm5 | simp) (wpAny_pure ⟨y,rfl,wpAny_pure (q _ ⟨_,Heap.get?_update_self _ e1 (Obj.isFreed_of_fields (Obj.data_mapFields e3 _)),(Obj.cls_mapFields ..).trans e2,?_⟩ (Heap.SameBut.update ..))⟩))
  rw [Obj.data_mapFields e3];simp [rawInt]
 unfold Builtin.SmallTypes.nextOf
 exact wpAny_bind (wpAny_callSpecial?_slot (name:=Str.ofString "__next__") g.typeIs F.slot_tuple_iterator_next (wpAny_call_entry F.slot_tuple_iterator_next g.typeIs F.entry_tuple_iterator_next goal2 (F.args_tuple_iterator_next_1 _)))
theorem nextT_end {j t:Addr}{i:Nat}{vs:Array Value}{Q:Value→Shared→Prop}(hh:A.handled=none) (g:s.heap.IsTupleIter j t i) (gt:s.heap.IsTuple t vs) (gy:vs[i]? = none)
 (q:∀ h' e,Heap.ExtBut j s.heap h'→(∃ o,h'.get? e=some o∧o.cls = .type "StopIteration")→E (.ref e) { s with heap:=h' }):wpAny (model prog w) A (Builtin.SmallTypes.nextOf (.ref j)) Q E s:=by
 obtain ⟨oj,e1,e2,e3⟩:=id g
 obtain ⟨ot,e4,_,n4,e5⟩:=gt
 unfold Builtin.SmallTypes.nextOf
 refine wpAny_bind (wpAny_callSpecial?_slot (name:=Str.ofString "__next__") g.typeIs F.slot_tuple_iterator_next (wpAny_call_entry F.slot_tuple_iterator_next g.typeIs F.entry_tuple_iterator_next ?_ (F.args_tuple_iterator_next_1 _)))
 show wpAny _ _ (field (.ref j) 0 >>= _) _ _ s
 refine wpAny_bind (wpAny_field e1 e3 (x:=.ref t) rfl ?_)
 show wpAny _ _ (if (Value.ref t==Value.none)=true then _ else _) _ _ s;rw [if_neg (show ¬ ((Value.ref t==Value.none)=true) from fun z=>Bool.noConfusion z)]
 show wpAny _ _ (field (.ref j) 1 >>= _) _ _ s
 refine wpAny_bind (wpAny_field e1 e3 (x:=.int i 0) rfl ?_)
 show wpAny _ _ (seqItems? (.ref t) >>= _) _ _ s
 refine wpAny_bind (wpAny_seqItems e4 e5 ?_)
 simp only [Int.toNat_natCast,gy]
 refine wpAny_bind (wpAny_rule (wpAny_bind (wpAny_setField e1 e3 (by first | exact mm0 | exact mm1 | exact mm2 | exact mm3 | exact mm4 | exact mm5 | simp) ?_)))
 show wpAny _ _ (newExc (.type "StopIteration") [] >>= _) _ _ _;refine wpAny_bind ?_;simp only [newExc,newTuple]
 refine wpAny_bind (wpAny_newObj_type ?_ (by size_fits));refine wpAny_bind (m:=firstArgMember _ _) (wpAny_of_eq (a:=Value.none) (by first | rfl | (simp only [firstArgMember];rfl)) ?_);refine wpAny_newObj_type ?_ (by size_fits)
 simp only [raiseNew];refine wpAny_bind (wpAny_handled ?_);first | rw [show A.in1.handled=none from hh] | rw [hh]
 refine wpAny_bind (wpAny_pure (wpAny_throw (q _ _ (((Heap.SameBut.update ..).extBut.push _).push _) ⟨_,Heap.get?_push_size _ rfl,rfl⟩)))
end
noncomputable def SqAt (b:Bool) (h:Heap) (a:Addr) (vs:Array Value):Prop:=match b with | true=>h.IsTuple a vs | false=>h.IsList a vs
noncomputable def ItAt (b:Bool) (h:Heap) (j a:Addr) (i:Nat):Prop:=match b with | true=>h.IsTupleIter j a i | false=>h.IsListIter j a i
theorem SqAt.at {b:Bool}{h h':Heap}{a:Addr}{vs:Array Value}(x:SqAt b h a vs) (k:∀ o,h.get? a=some o→h'.get? a=some o):SqAt b h' a vs:=by
 cases b with
 | true=>exact let ⟨o,e,r⟩:=x;⟨o,k o e,r⟩
 | false=>exact let ⟨o,e,r⟩:=x;⟨o,k o e,r⟩
theorem ItAt.at {b:Bool}{h h':Heap}{j a:Addr}{i:Nat}(x:ItAt b h j a i) (k:∀ o,h.get? j=some o→h'.get? j=some o):ItAt b h' j a i:=by
 cases b with
 | true=>exact let ⟨o,e,r⟩:=x;⟨o,k o e,r⟩
 | false=>exact let ⟨o,e,r⟩:=x;⟨o,k o e,r⟩
theorem ItAt.obj {b:Bool}{h:Heap}{j a:Addr}{i:Nat}(x:ItAt b h j a i):∃ o,h.get? j=some o∧∀ v,o.data≠.cell v:=by
 cases b with
 | true=>exact let ⟨o,e,_,d⟩:=x;⟨o,e,fun v z=>by rw [d] at z;cases z⟩
 | false=>exact let ⟨o,e,_,d⟩:=x;⟨o,e,fun v z=>by rw [d] at z;cases z⟩
theorem draws_of {prog:Program}{w:World}{A:Around}(b:Bool) (hh:A.handled=none) (j a:Addr) (hne:a≠j) (vs:Array Value) :
 Draws prog w A j [j,a] vs.size (fun i v=>vs[i]? = some v) (fun i h=>ItAt b h j a i∧SqAt b h a vs):=by
 cases b with
 | false=>exact Draws.list hh j a hne vs
 | true=>exact {
  live:=fun _ _ st=>let ⟨o,ho,_⟩:=st.1;⟨o,ho⟩
  frame:=fun _ _ _ st hk=>⟨ItAt.at (b:=true) st.1 fun o e=>hk j (by first | exact mm0 | exact mm1 | exact mm2 | exact mm3 | exact mm4 | exact mm5 | simp) o e,SqAt.at (b:=true) st.2 fun o e=>hk a (by first | exact mm0 | exact mm1 | exact mm2 | exact mm3 | exact mm4 | exact mm5 | simp) o e⟩
  item:=fun i s Q E hi st hQ=>by
   have e:vs[i]? = some vs[i]:=by simp [hi]
   exact nextT_item st.1 st.2 e fun h' g' sb=>hQ _ h' s.toks e ⟨g',SqAt.at (b:=true) st.2 fun o z=>(sb.2 a hne).trans z⟩ sb
  done:=fun s Q E st hE=>nextT_end hh st.1 st.2 (by first | exact mm0 | exact mm1 | exact mm2 | exact mm3 | exact mm4 | exact mm5 | simp) hE }
section
open AutoSeq1 (wpAny_loadPart')
end
noncomputable def itObj (b:Bool) (l:Addr):Obj:={ cls:=.type (match b with | true=>"tuple_iterator" | false=>"list_iterator"),data:=.fields #[.ref l,.int 0 0] }
theorem itObj_at {b:Bool}{h:Heap}{j l:Addr}(e:h.get? j=some (itObj b l)):ItAt b h j l 0:=by
 cases b with
 | true=>exact ⟨_,e,rfl,rfl⟩
 | false=>exact ⟨_,e,rfl,rfl⟩
theorem pyIter_itObj {prog:Program}{w:World}{A:Around}{E:Value→Shared→Prop}{s:Shared}{b:Bool}{a:Addr}{vs:Array Value}{Q:Value→Shared→Prop}(x:SqAt b s.heap a vs)
 (q:Q (.ref s.heap.objs.size) { s with heap:=s.heap.push (itObj b a) }):wpAny (model prog w) A (pyIter (.ref a)) Q E s:=by
 cases b with
 | true=>exact wpAny_pyIter_tuple x q
 | false=>exact wpAny_pyIter_list x q
noncomputable abbrev zz1 (b:Bool) (h:Heap) (l:Addr):Heap:=h.push (itObj b l)
noncomputable abbrev zz2 (b b':Bool) (h:Heap) (l m:Addr):Heap:=(zz1 b h l).push (itObj b' m)
noncomputable abbrev zz3 (b b':Bool) (h:Heap) (l m:Addr):Heap:=(zz2 b b' h l m).push { cls:=.type "tuple",data:=.seq #[.ref h.objs.size,.ref (zz1 b h l).objs.size] }
noncomputable abbrev zz4 (b b':Bool) (h:Heap) (l m:Addr):Heap:=(zz3 b b' h l m).push { cls:=.type "tuple",data:=.seq #[.none,.none] }
noncomputable abbrev zz5 (b b':Bool) (h:Heap) (l m:Addr):Heap:=(zz4 b b' h l m).push { cls:=.type "zip",data:=.fields #[.none,.bool false,.bool false,.ref (zz2 b b' h l m).objs.size,.ref (zz3 b b' h l m).objs.size] }
theorem zip_new (b b':Bool) (l m:Addr) (xs ys:Array Value) :
 Meets (Builtin.«zip.__new__» ⟨[.type "zip",.ref l,.ref m],[]⟩) (fun _ R s=>SqAt b s.heap l xs∧SqAt b' s.heap m ys ∧
  R (.ok (.ret (.ref (zz4 b b' s.heap l m).objs.size))) { s with heap:=zz5 b b' s.heap l m }):=
 .of_wp fun prog w A R s h=>by
  obtain ⟨hp,g,d,tk,os⟩:=s;obtain ⟨x1,x2,h⟩:=h
  have hsub:=sub_zip
  have x1':SqAt b (Shared.heap ⟨hp,g,d,tk,os⟩) l xs:=x1
  have x2':SqAt b' (Shared.heap ⟨hp.push (itObj b l),g,d,tk,os⟩) m ys:=SqAt.at x2 fun o e=>Heap.get?_push_of_some _ e
  wp_walk using pyIter_itObj x1',pyIter_itObj x2'
  exact ⟨_,rfl,h⟩
structure ZApart (z TI TO j1 j2:Addr) (f1 f2:List Addr):Prop where
 m1:j1∈f1
 m2:j2∈f2
 z1:z∉f1
 z2:z∉f2
 o1:TO∉f1
 o2:TO∉f2
 q1:j1∉f2
 q2:j2∉f1
 iz:TI≠z
 io:TI≠TO
 i1:TI≠j1
 i2:TI≠j2
 oz:TO≠z
theorem ZApart.j1z {z TI TO j1 j2:Addr}{f1 f2:List Addr}(D:ZApart z TI TO j1 j2 f1 f2):j1≠z:=fun e=>D.z1 (e▸D.m1)
theorem ZApart.j2z {z TI TO j1 j2:Addr}{f1 f2:List Addr}(D:ZApart z TI TO j1 j2 f1 f2):j2≠z:=fun e=>D.z2 (e▸D.m2)
theorem ZApart.j1o {z TI TO j1 j2:Addr}{f1 f2:List Addr}(D:ZApart z TI TO j1 j2 f1 f2):j1≠TO:=fun e=>D.o1 (e▸D.m1)
theorem ZApart.j2o {z TI TO j1 j2:Addr}{f1 f2:List Addr}(D:ZApart z TI TO j1 j2 f1 f2):j2≠TO:=fun e=>D.o2 (e▸D.m2)
theorem ne_mem {a b:Addr}{l:List Addr}(h:a∉l) (hb:b∈l):b≠a:=fun e=>h (e▸hb)
section
variable {prog:Program}{w:World}{A:Around}{E:Value→Shared→Prop}{s:Shared}{z TI TO j1 j2:Addr}{f1 f2:List Addr}{n1 n2 i:Nat}{P1 P2:Nat→Value→Prop}{St1 St2:Nat→Heap→Prop}{a b:Value}
theorem zipD_item {Q:Value→Shared→Prop}(D:ZApart z TI TO j1 j2 f1 f2) (D1:Draws prog w A j1 f1 n1 P1 St1) (D2:Draws prog w A j2 f2 n2 P2 St2) (hz:IsZip s.heap z TI TO .none) (hI:IsPair s.heap TI (.ref j1) (.ref j2)) (hO:IsPair s.heap TO a b)
 (st1:St1 i s.heap) (st2:St2 i s.heap) (l1:i<n1) (l2:i<n2)
 (q:∀ x y h' tk,P1 i x→P2 i y→IsZip h' z TI TO (rawInt s.heap.objs.size)→IsPair h' TO x y→St1 (i+1) h'→St2 (i+1) h'→IsPair h' s.heap.objs.size x y→h'.objs.size=s.heap.objs.size+1 →
  (∀ c o,c≠z→c≠TO→c≠j1→c≠j2→s.heap.get? c=some o→h'.get? c=some o)→Q (.ref s.heap.objs.size) { s with heap:=h',toks:=tk }) :
 wpAny (model prog w) A (Builtin.«zip.__next__» ⟨[.ref z],[]⟩) (fun fin s'=>∃ v,fin = .done (.ret v)∧Q v s') E s:=by
 obtain ⟨hp,gg,dd,t0,os⟩:=s
 show wpAny _ _ (field (.ref z) 2 >>= _) _ _ _;refine wpAny_bind (wpAny_field hz rfl (x:=.bool false) rfl ?_)
 show wpAny _ _ (field (.ref z) 3 >>= _) _ _ _;refine wpAny_bind (wpAny_field hz rfl (x:=.ref TI) rfl ?_)
 refine wpAny_bind (wpAny_seqItems hI rfl ?_)
 show wpAny _ _ (Builtin.SmallTypes.ownedTupleIsFree (.ref z) >>= _) _ _ _;refine wpAny_bind ?_;unfold Builtin.SmallTypes.ownedTupleIsFree
 refine wpAny_bind (wpAny_field hz rfl (x:=.none) rfl (wpAny_pure ?_));simp only [if_true];refine wpAny_bind (wpAny_rule ?_)
 refine wpAny_bind (wpAny_field hz rfl (x:=.ref TO) rfl ?_)
 refine wpAny_bind (wpAny_setField_rec hz (by first | exact mm0 | exact mm1 | exact mm2 | exact mm3 | exact mm4 | exact mm5 | simp) fun g1 z1 b1=>?_);replace z1:IsZip g1 z TI TO .ellipsis:=z1;replace b1:Heap.SameBut z hp g1:=b1
 refine wpAny_bind ?_;simp only [List.zipIdx_cons,List.zipIdx_nil,List.forIn_cons,List.forIn_nil]
 refine wpAny_bind (wpAny_bind (wpAny_onRaise ?_))
 show wpAny _ _ (Builtin.SmallTypes.nextOf (.ref j1) >>= _) _ _ _
 refine wpAny_bind (D1.item i _ _ _ l1 (D1.frame _ _ _ st1 fun c hc o e=>b1.extBut c o (ne_mem D.z1 hc) e) fun x g2 t2 px s12 b2=>wpAny_pure ?_);replace b2:Heap.SameBut j1 g1 g2:=b2
 have o2:IsPair g2 TO a b:=b2.extBut _ _ (Ne.symm D.j1o) (b1.extBut _ _ D.oz hO)
 refine wpAny_bind (wpAny_seqItems o2 rfl ?_)
 refine wpAny_bind (wpAny_updateSeq_pair o2 fun g3 o3 b3=>?_);replace o3:IsPair g3 TO x b:=o3;replace b3:Heap.SameBut TO g2 g3:=b3
 refine wpAny_bind (wpAny_letGo (wpAny_pure ?_));refine wpAny_bind (wpAny_bind (wpAny_onRaise ?_))
 show wpAny _ _ (Builtin.SmallTypes.nextOf (.ref j2) >>= _) _ _ _
 refine wpAny_bind (D2.item i _ _ _ l2 (D2.frame _ _ _ st2 fun c hc o e=>b3.extBut c o (ne_mem D.o2 hc) (b2.extBut c o (ne_mem D.q1 hc) (b1.extBut c o (ne_mem D.z2 hc) e))) fun y g4 t4 py s24 b4=>wpAny_pure ?_);replace b4:Heap.SameBut j2 g3 g4:=b4
 have o4:IsPair g4 TO x b:=b4.extBut _ _ (Ne.symm D.j2o) o3
 refine wpAny_bind (wpAny_seqItems o4 rfl ?_)
 refine wpAny_bind (wpAny_updateSeq_pair o4 fun g5 o5 b5=>?_);replace o5:IsPair g5 TO x y:=o5;replace b5:Heap.SameBut TO g4 g5:=b5
 refine wpAny_bind (wpAny_letGo (wpAny_pure (wpAny_pure ?_)))
 refine wpAny_bind (wpAny_seqItems o5 rfl ?_);refine wpAny_bind (wpAny_newTuple ?_)
 have sz:g5.objs.size=hp.objs.size:=by rw [b5.1,b4.1,b3.1,b2.1,b1.1]
 have z5:IsZip g5 z TI TO .ellipsis:=b5.extBut _ _ (Ne.symm D.oz) (b4.extBut _ _ (Ne.symm D.j2z) (b3.extBut _ _ (Ne.symm D.oz) (b2.extBut _ _ (Ne.symm D.j1z) z1)))
 have k5:∀ c o,c≠z→c≠TO→c≠j1→c≠j2→hp.get? c=some o→g5.get? c=some o:=fun c o c1 c2 c3 c4 e=>b5.extBut _ _ c2 (b4.extBut _ _ c4 (b3.extBut _ _ c2 (b2.extBut _ _ c3 (b1.extBut _ _ c1 e))))
 have s15:St1 (i+1) g5:=D1.frame _ _ _ s12 fun c hc o e=>b5.extBut c o (ne_mem D.o1 hc) (b4.extBut c o (ne_mem D.q2 hc) (b3.extBut c o (ne_mem D.o1 hc) e))
 have s25:St2 (i+1) g5:=D2.frame _ _ _ s24 fun c hc o e=>b5.extBut c o (ne_mem D.o2 hc) e
 have zl:z<g5.objs.size:=Heap.lt_size z5
 show wpAny _ _ (Builtin.SmallTypes.ownedTupleHandOut (.ref z) (.ref g5.objs.size) >>= _) _ _ _;refine wpAny_bind ?_;unfold Builtin.SmallTypes.ownedTupleHandOut
 have z6:IsZip (g5.push { cls:=.type "tuple",data:=.seq #[x,y] }) z TI TO .ellipsis:=Heap.get?_push_of_some _ z5
 refine wpAny_bind (wpAny_setField_rec z6 (by first | exact mm0 | exact mm1 | exact mm2 | exact mm3 | exact mm4 | exact mm5 | simp) fun g7 z7 b7=>?_);replace z7:IsZip g7 z TI TO (rawInt g5.objs.size):=z7
 refine wpAny_setField_rec z7 (by first | exact mm0 | exact mm1 | exact mm2 | exact mm3 | exact mm4 | exact mm5 | simp) fun g8 z8 b8=>?_;replace z8:IsZip g8 z TI TO (rawInt g5.objs.size):=z8
 have up:∀ c o,c≠z→g5.get? c=some o→g8.get? c=some o:=fun c o c1 e=>b8.extBut _ _ c1 (b7.extBut _ _ c1 (Heap.get?_push_of_some _ e))
 have t8:IsPair g8 g5.objs.size x y:=b8.extBut _ _ (Nat.ne_of_gt zl) (b7.extBut _ _ (Nat.ne_of_gt zl) (Heap.get?_push_size _ rfl))
 have s8:g8.objs.size=g5.objs.size+1:=by rw [b8.1,b7.1,Heap.size_push]
 rw [sz] at z8 t8 s8
 refine wpAny_pure ⟨_,rfl,?_⟩;show Q (.ref g5.objs.size) _;rw [sz]
 exact q x y g8 t4 px py z8 (up _ _ D.oz o5) (D1.frame _ _ _ s15 fun c hc o e=>up c o (ne_mem D.z1 hc) e) (D2.frame _ _ _ s25 fun c hc o e=>up c o (ne_mem D.z2 hc) e) t8 s8 fun c o c1 c2 c3 c4 e=>up c o c1 (k5 c o c1 c2 c3 c4 e)
theorem zipD_end {Q:Fin→Shared→Prop}(D:ZApart z TI TO j1 j2 f1 f2) (D1:Draws prog w A j1 f1 n1 P1 St1) (D2:Draws prog w A j2 f2 n2 P2 St2) (hz:IsZip s.heap z TI TO .none) (hI:IsPair s.heap TI (.ref j1) (.ref j2)) (hO:IsPair s.heap TO a b)
 (st1:St1 i s.heap) (st2:St2 i s.heap) (hend:i=n1∨(i<n1∧i=n2))
 (q:∀ h' e tk,(∀ c o,c≠z→c≠TO→c≠j1→c≠j2→s.heap.get? c=some o→h'.get? c=some o)→(∃ o,h'.get? e=some o∧o.cls = .type "StopIteration")→E (.ref e) { s with heap:=h',toks:=tk }) :
 wpAny (model prog w) A (Builtin.«zip.__next__» ⟨[.ref z],[]⟩) Q E s:=by
 obtain ⟨hp,gg,dd,t0,os⟩:=s
 show wpAny _ _ (field (.ref z) 2 >>= _) _ _ _;refine wpAny_bind (wpAny_field hz rfl (x:=.bool false) rfl ?_)
 show wpAny _ _ (field (.ref z) 3 >>= _) _ _ _;refine wpAny_bind (wpAny_field hz rfl (x:=.ref TI) rfl ?_)
 refine wpAny_bind (wpAny_seqItems hI rfl ?_)
 show wpAny _ _ (Builtin.SmallTypes.ownedTupleIsFree (.ref z) >>= _) _ _ _;refine wpAny_bind ?_;unfold Builtin.SmallTypes.ownedTupleIsFree
 refine wpAny_bind (wpAny_field hz rfl (x:=.none) rfl (wpAny_pure ?_));simp only [if_true];refine wpAny_bind (wpAny_rule ?_)
 refine wpAny_bind (wpAny_field hz rfl (x:=.ref TO) rfl ?_)
 refine wpAny_bind (wpAny_setField_rec hz (by first | exact mm0 | exact mm1 | exact mm2 | exact mm3 | exact mm4 | exact mm5 | simp) fun g1 z1 b1=>?_);replace z1:IsZip g1 z TI TO .ellipsis:=z1;replace b1:Heap.SameBut z hp g1:=b1
 refine wpAny_bind ?_;simp only [List.zipIdx_cons,List.zipIdx_nil,List.forIn_cons,List.forIn_nil]
 refine wpAny_bind (wpAny_bind (wpAny_onRaise ?_))
 show wpAny _ _ (Builtin.SmallTypes.nextOf (.ref j1) >>= _) _ _ _
 have s11:=D1.frame _ _ _ st1 fun c hc o e=>b1.extBut c o (ne_mem D.z1 hc) e
 rcases hend with he | ⟨l1,he⟩
 · subst he
   refine wpAny_bind (D1.done _ _ _ s11 fun g2 e b2 he=>?_)
   obtain ⟨oe,hoe,hce⟩:=he
   have z2:IsZip g2 z TI TO .ellipsis:=b2 _ _ (Ne.symm D.j1z) z1
   have ez:e≠z:=fun x=>by subst x;rw [z2] at hoe;cases hoe;simp at hce
   refine wpAny_setField_rec z2 (by first | exact mm0 | exact mm1 | exact mm2 | exact mm3 | exact mm4 | exact mm5 | simp) fun g3 _ b3=>?_
   exact q g3 e t0 (fun c o c1 _ c3 _ x=>b3.extBut _ _ c1 (b2 _ _ c3 (b1.extBut _ _ c1 x))) ⟨oe,b3.extBut _ _ ez hoe,hce⟩
 · subst he
   refine wpAny_bind (D1.item i _ _ _ l1 s11 fun x g2 t2 px s12 b2=>wpAny_pure ?_);replace b2:Heap.SameBut j1 g1 g2:=b2
   have o2:IsPair g2 TO a b:=b2.extBut _ _ (Ne.symm D.j1o) (b1.extBut _ _ D.oz hO)
   refine wpAny_bind (wpAny_seqItems o2 rfl ?_)
   refine wpAny_bind (wpAny_updateSeq_pair o2 fun g3 o3 b3=>?_);replace b3:Heap.SameBut TO g2 g3:=b3
   refine wpAny_bind (wpAny_letGo (wpAny_pure ?_));refine wpAny_bind (wpAny_bind (wpAny_onRaise ?_))
   show wpAny _ _ (Builtin.SmallTypes.nextOf (.ref j2) >>= _) _ _ _
   refine wpAny_bind (D2.done _ _ _ (D2.frame _ _ _ st2 fun c hc o e=>b3.extBut c o (ne_mem D.o2 hc) (b2.extBut c o (ne_mem D.q1 hc) (b1.extBut c o (ne_mem D.z2 hc) e))) fun g4 e b4 he=>?_)
   obtain ⟨oe,hoe,hce⟩:=he
   have z4:IsZip g4 z TI TO .ellipsis:=b4 _ _ (Ne.symm D.j2z) (b3.extBut _ _ (Ne.symm D.oz) (b2.extBut _ _ (Ne.symm D.j1z) z1))
   have ez:e≠z:=fun x=>by subst x;rw [z4] at hoe;cases hoe;simp at hce
   refine wpAny_setField_rec z4 (by first | exact mm0 | exact mm1 | exact mm2 | exact mm3 | exact mm4 | exact mm5 | simp) fun g5 _ b5=>?_
   exact q g5 e t2 (fun c o c1 c2 c3 c4 x=>b5.extBut _ _ c1 (b4 _ _ c4 (b3.extBut _ _ c2 (b2.extBut _ _ c3 (b1.extBut _ _ c1 x))))) ⟨oe,b5.extBut _ _ ez hoe,hce⟩
theorem zipD_next_item {Q:Option Value→Shared→Prop}(D:ZApart z TI TO j1 j2 f1 f2) (D1:Draws prog w A.in1 j1 f1 n1 P1 St1) (D2:Draws prog w A.in1 j2 f2 n2 P2 St2) (hz:IsZip s.heap z TI TO .none) (hI:IsPair s.heap TI (.ref j1) (.ref j2)) (hO:IsPair s.heap TO a b)
 (st1:St1 i s.heap) (st2:St2 i s.heap) (l1:i<n1) (l2:i<n2)
 (q:∀ x y h' tk,P1 i x→P2 i y→IsZip h' z TI TO (rawInt s.heap.objs.size)→IsPair h' TO x y→St1 (i+1) h'→St2 (i+1) h'→IsPair h' s.heap.objs.size x y→h'.objs.size=s.heap.objs.size+1 →
  (∀ c o,c≠z→c≠TO→c≠j1→c≠j2→s.heap.get? c=some o→h'.get? c=some o)→Q (some (.ref s.heap.objs.size)) { s with heap:=h',toks:=tk }) :
 wpAny (model prog w) A (pyNext (.ref z)) Q E s:=by
 have hT:s.TypeIs (.ref z) "zip":=⟨_,hz,rfl⟩
 unfold pyNext
 exact wpAny_bind (wpAny_attempt (wpAny_callSpecial?_slot (name:=Str.ofString "__next__") hT F.slot_zip_next (wpAny_call_entry F.slot_zip_next hT F.entry_zip_next
  (zipD_item D D1 D2 hz hI hO st1 st2 l1 l2 fun x y h' tk a1 a2 a3 a4 a5 a6 a7 a8 a9=>wpAny_pure (q x y h' tk a1 a2 a3 a4 a5 a6 a7 a8 a9)) (F.args_zip_next_1 _))))
theorem zipD_next_end {Q:Option Value→Shared→Prop}(D:ZApart z TI TO j1 j2 f1 f2) (D1:Draws prog w A.in1 j1 f1 n1 P1 St1) (D2:Draws prog w A.in1 j2 f2 n2 P2 St2) (hz:IsZip s.heap z TI TO .none) (hI:IsPair s.heap TI (.ref j1) (.ref j2)) (hO:IsPair s.heap TO a b)
 (st1:St1 i s.heap) (st2:St2 i s.heap) (hend:i=n1∨(i<n1∧i=n2))
 (q:∀ h' tk,(∀ c o,c≠z→c≠TO→c≠j1→c≠j2→s.heap.get? c=some o→h'.get? c=some o)→Q none { s with heap:=h',toks:=tk }):wpAny (model prog w) A (pyNext (.ref z)) Q E s:=by
 have hT:s.TypeIs (.ref z) "zip":=⟨_,hz,rfl⟩
 unfold pyNext
 refine wpAny_bind (wpAny_attempt (wpAny_callSpecial?_slot (name:=Str.ofString "__next__") hT F.slot_zip_next (wpAny_call_entry F.slot_zip_next hT F.entry_zip_next (zipD_end D D1 D2 hz hI hO st1 st2 hend fun h' e tk hk he=>?_) (F.args_zip_next_1 _))))
 obtain ⟨o,ho,hc⟩:=he
 refine wpAny_bind (wpAny_isInstance (T:="StopIteration") (b:=true) ⟨o,ho,hc⟩ isSubtype_stop ?_)
 exact wpAny_pure (q _ _ hk)
end
theorem call_zipK {prog:Program}{w:World}{A:Around}{E:Value→Shared→Prop}{s:Shared}(b b':Bool) {l m:Addr}{xs ys:Array Value}{Q:Value→Shared→Prop}(x1:SqAt b s.heap l xs) (x2:SqAt b' s.heap m ys)
 (q:∀ h',IsZip h' (s.heap.objs.size+4) (s.heap.objs.size+2) (s.heap.objs.size+3) .none→IsPair h' (s.heap.objs.size+2) (.ref s.heap.objs.size) (.ref (s.heap.objs.size+1)) →
  IsPair h' (s.heap.objs.size+3) .none .none→ItAt b h' s.heap.objs.size l 0→ItAt b' h' (s.heap.objs.size+1) m 0→h'.objs.size=s.heap.objs.size+5 →
  (∀ c o,s.heap.get? c=some o→h'.get? c=some o)→Q (.ref (s.heap.objs.size+4)) { s with heap:=h' }) :
 wpAny (model prog w) A (call (.type "zip") [.ref l,.ref m]) Q E s:=by
 refine callType_new F.called_zip (by decide) (F.typeCall_zip_2 _ _) (F.newCall_zip_2 _ _) (fun obj=>F.args_object_init_3 obj _ _) F.entry_zip_new (zip_new b b' l m xs ys) ⟨x1,x2,?_⟩
 have y1:(zz1 b s.heap l).objs.size=s.heap.objs.size+1:=Heap.size_push ..
 have y2:(zz2 b b' s.heap l m).objs.size=s.heap.objs.size+2:=by rw [Heap.size_push,y1]
 have y3:(zz3 b b' s.heap l m).objs.size=s.heap.objs.size+3:=by rw [Heap.size_push,y2]
 have y4:(zz4 b b' s.heap l m).objs.size=s.heap.objs.size+4:=by rw [Heap.size_push,y3]
 have y5:(zz5 b b' s.heap l m).objs.size=s.heap.objs.size+5:=by rw [Heap.size_push,y4]
 have fr:∀ b l,(itObj b l).isFreed=false:=fun b l=>by cases b<;>rfl
 have g5:(zz5 b b' s.heap l m).get? (zz4 b b' s.heap l m).objs.size=some _:=Heap.get?_push_size _ rfl
 have g4:(zz5 b b' s.heap l m).get? (zz3 b b' s.heap l m).objs.size=some _:=Heap.get?_push_of_some _ (Heap.get?_push_size _ rfl)
 have g3:(zz5 b b' s.heap l m).get? (zz2 b b' s.heap l m).objs.size=some _:=Heap.get?_push_of_some _ (Heap.get?_push_of_some _ (Heap.get?_push_size _ rfl))
 have g2:(zz5 b b' s.heap l m).get? (zz1 b s.heap l).objs.size=some _:=Heap.get?_push_of_some _ (Heap.get?_push_of_some _ (Heap.get?_push_of_some _ (Heap.get?_push_size _ (fr b' m))))
 have g1:(zz5 b b' s.heap l m).get? s.heap.objs.size=some _:=Heap.get?_push_of_some _ (Heap.get?_push_of_some _ (Heap.get?_push_of_some _ (Heap.get?_push_of_some _ (Heap.get?_push_size _ (fr b l)))))
 show _∧_
 rw [y2,y3,y4] at g5;rw [y1,y2] at g3;rw [y3] at g4;rw [y1] at g2;rw [y4]
 exact ⟨⟨_,g5,rfl⟩,q _ g5 g3 g4 (itObj_at g1) (itObj_at g2) y5 fun c o x=>Heap.get?_push_of_some _ (Heap.get?_push_of_some _ (Heap.get?_push_of_some _ (Heap.get?_push_of_some _ (Heap.get?_push_of_some _ x))))⟩
noncomputable def SqK (b:Bool) (K:PySem.W.Frag) (H:Hp) (a:Addr) (xs:List V):Prop:=match b with | true=>SqT K H a xs | false=>SqL K H a xs
section
variable {X:Cx}{pins:List (Addr×Obj)}{σ:St}{H:Hp}{s:Shared}{a c:Addr}{xs ys:List V}{b:Bool}{h':Heap}
theorem Inv.seqK (I:Inv X pins σ H s) (h:SqK b X.K H a xs):∃ its:List Value,Vals xs its∧SqAt b s.heap a its.toArray∧xs.length≤sizeLine:=by
 cases b with
 | true=>exact let ⟨its,r,p,z⟩:=I.tuple h;⟨its,r,p,z⟩
 | false=>exact let ⟨its,r,p,z⟩:=I.list h;⟨its,r,p.isList,z⟩
theorem Inv.seqK_inj (I:Inv X pins σ H s) (h:SqK b X.K H a xs) (h':SqK b X.K H a ys):xs=ys:=by
 cases b with
 | true=>exact I.tuple_inj h h'
 | false=>exact I.list_inj h h'
theorem Inv.seqK_ne (I:Inv X pins σ H s) (h:SqK b X.K H a xs) (f:FpOk X pins H c):a≠c:=by
 have base:∀ o,X.K.lookup a=some o→a≠c:=fun o hk e=>by
  have e1:=I.ok.mod.kin a o hk
  rcases f.2.2.2.1 with z | z
  · exact I.ok.noex a o e1 (e▸z)
  · exact absurd (Nat.lt_of_lt_of_le (Heap.lt_size e1) (Nat.le_trans I.ok.bsz (e▸z))) (Nat.lt_irrefl _)
 cases b with
 | true=>
  rcases h with (q | ⟨o,q⟩) | ⟨o,_,_,hk,_⟩
  · exact ne_of_none q f.1
  · exact ne_of_none q f.1
  · exact base o hk
 | false=>
  rcases h with (q | ⟨o,q⟩) | ⟨o,_,_,hk,_⟩
  · exact ne_of_none q f.1
  · exact ne_of_none q f.1
  · exact base o hk
theorem Inv.turnedL {t':Nat}{fp:List Addr}(I:Inv X pins σ H s) (k:∀ b o,b∉fp→s.heap.get? b=some o→h'.get? b=some o) (hf:∀ b∈fp,FpOk X pins H b):Inv X pins σ H { s with heap:=h',toks:=t' }:=by
 refine I.step (g':=s.gens) (d':=s.drawn) (ch:=fp) (fun b hb=>⟨(hf b hb).2.2.2.1,(hf b hb).2.1,(hf b hb).2.2.2.2.1,(hf b hb).2.2.2.2.2⟩) (fun b o _ _ hc e _=>k b o hc e) (fun b o _ _ hc e _=>⟨o.slots,k b o hc e⟩) (fun _ _ _ _ n=>n)
  (fun b o hc e=>⟨o,k b o hc e⟩) (fun _ _ e=>e) (fun _ _ _ e=>e) (fun b ps e=>⟨#[],by rw [e];simp⟩) (fun m hm=>?_) (fun b u e=>?_) I.bare
 · obtain ⟨o,es,ep,ho,r⟩:=hm
   exact ⟨o,es,ep,k _ o (fun z=>(hf _ z).2.1 rfl) ho,r⟩
 · refine (I.hok b u e).stay (fun c v hc q=>k c v (fun z=>?_) q) (fun _ q=>q) fun _ _ q=>q
   have hn:=(hf c z).1
   rcases hc with hc | hc
   · rw [hc,e] at hn;cases hn
   · rw [hc] at hn;cases hn
theorem Inv.turnLay {t':Nat}{fp:List Addr}{p:Addr}{o:HO}(I:Inv X pins σ H s) (k:∀ b o,b∉fp→s.heap.get? b=some o→h'.get? b=some o) (hf:∀ b∈fp,FpOk X pins H b)
 (hp:s.heap.objs.size≤p) (new:ObjOk X.prog X.w (upd H p o) h' p o):Inv X pins σ (upd H p o) { s with heap:=h',toks:=t' }:=by
 have hn:=I.hok.fresh hp
 refine I.step (g':=s.gens) (d':=s.drawn) (ch:=fp) (fun b hb=>⟨(hf b hb).2.2.2.1,(hf b hb).2.1,(hf b hb).2.2.2.2.1,(hf b hb).2.2.2.2.2⟩) (fun b o _ _ hc e _=>k b o hc e) (fun b o _ _ hc e _=>⟨o.slots,k b o hc e⟩) (fun b ob _ e n=>?_)
  (fun b o hc e=>⟨o,k b o hc e⟩) (fun b xs e=>?_) (fun b _ _ e=>?_) (fun b ps e=>⟨#[],?_⟩) (fun m hm=>?_) (fun b u e=>?_) I.bare
 · have hbp:b≠p:=Nat.ne_of_lt (Nat.lt_of_lt_of_le (Heap.lt_size e) hp);rw [upd_ne hbp];exact n
 · rw [upd_ne (ne_of_none e hn)];exact e
 · rw [upd_ne (ne_of_none e hn)];exact e
 · rw [upd_ne (ne_of_none e hn)];simpa using e
 · obtain ⟨o,es,ep,ho,r⟩:=hm
   exact ⟨o,es,ep,k _ o (fun z=>(hf _ z).2.1 rfl) ho,r⟩
 · by_cases hb:b=p
   · subst hb
     rw [upd_same] at e;cases e
     exact new
   · rw [upd_ne hb] at e
     refine (I.hok b u e).stay (fun c v hc q=>k c v (fun z=>?_) q) (fun c q=>by rw [upd_ne (ne_of_none q hn)];exact q) fun c _ q=>by rw [upd_ne (ne_of_none q hn)];exact q
     have hn:=(hf c z).1
     rcases hc with hc | hc
     · rw [hc,e] at hn;cases hn
     · rw [hc] at hn;cases hn
end
noncomputable def Itz (b b':Bool) (K:PySem.W.Frag) (a c:Addr):It:=
 ⟨fun i H=>∃ xs ys x y,SqK b K H a xs∧SqK b' K H c ys∧xs[i]? = some x∧ys[i]? = some y,fun i H v H'=>∃ p x y,H p=none∧H'=upd H p (.tup [x,y])∧v = .ref p∧(∀ xs,SqK b K H a xs→xs[i]? = some x)∧∀ ys,SqK b' K H c ys→ys[i]? = some y,
  fun i H=>∃ xs ys,SqK b K H a xs∧SqK b' K H c ys∧min xs.length ys.length=i⟩
theorem turn_zip {P:Program}{w:World}{K:PySem.W.Frag}{es:List Expr}{kk:Nat}{tp:Pos}(b b':Bool) (a c z TI TO j1 j2:Addr) (dz:[z,TI,TO,j1,j2].Nodup) :
 Turn P w K (.Tuple es kk tp) (Itz b b' K a c) [z,TI,TO,j1,j2] z (fun i h=>IsZip h z TI TO .none∧IsPair h TI (.ref j1) (.ref j2)∧(∃ u v,IsPair h TO u v)∧ItAt b h j1 a i∧ItAt b' h j2 c i) where
 mem:=by simp
 obj:=fun i h st d hd=>by
  obtain ⟨hz,hI,⟨u,v,hO⟩,h1,h2⟩:=st
  have notup:∀ (o:Obj) {w:Value} {vs:Array Value} {n:Nat},o.data = .seq vs n→o.data≠.cell w:=fun o w vs n e z=>by rw [e] at z;cases z
  rcases List.mem_cons.mp hd with rfl | hd
  · exact ⟨_,hz,fun v z=>by have z':Data.fields _=Data.cell v:=z;cases z'⟩
  · rcases List.mem_cons.mp hd with rfl | hd
    · exact ⟨_,hI,fun w z=>by have z':Data.seq _ _=Data.cell w:=z;cases z'⟩
    · rcases List.mem_cons.mp hd with rfl | hd
      · exact ⟨_,hO,fun w z=>by have z':Data.seq _ _=Data.cell w:=z;cases z'⟩
      · rcases List.mem_cons.mp hd with rfl | hd
        · exact h1.obj
        · rw [List.mem_singleton.mp hd];exact h2.obj
 keep:=fun i h h' st k=>by
  obtain ⟨hz,hI,⟨u,v,hO⟩,h1,h2⟩:=st
  exact ⟨k z (by first | exact mm0 | exact mm1 | exact mm2 | exact mm3 | exact mm4 | exact mm5 | simp) _ hz,k TI (by first | exact mm0 | exact mm1 | exact mm2 | exact mm3 | exact mm4 | exact mm5 | simp) _ hI,⟨u,v,k TO (by first | exact mm0 | exact mm1 | exact mm2 | exact mm3 | exact mm4 | exact mm5 | simp) _ hO⟩,h1.at fun o q=>k j1 (by first | exact mm0 | exact mm1 | exact mm2 | exact mm3 | exact mm4 | exact mm5 | simp) o q,h2.at fun o q=>k j2 (by first | exact mm0 | exact mm1 | exact mm2 | exact mm3 | exact mm4 | exact mm5 | simp) o q⟩
 item:=by
  intro X hP hw hK hc i pins s σ H E I hf st hg
  subst hP hw hK
  obtain ⟨xs,ys,x,y,hq,hq',hx,hy⟩:=hg
  obtain ⟨its,rv,p,_⟩:=I.seqK hq
  obtain ⟨its',rv',p',_⟩:=I.seqK hq'
  obtain ⟨u,hu,ru⟩:=rv.get hx
  obtain ⟨u',hu',ru'⟩:=rv'.get hy
  obtain ⟨hz,hI,⟨o1,o2,hO⟩,h1,h2⟩:=st
  have na:=fun d hd=>I.seqK_ne hq (hf d hd)
  have na':=fun d hd=>I.seqK_ne hq' (hf d hd)
  simp only [List.nodup_cons,List.mem_cons,List.not_mem_nil,or_false,not_or] at dz
  obtain ⟨⟨d1,d2,d3,d4⟩,⟨d5,d6,d7⟩,⟨d8,d9⟩,d10,_⟩:=dz
  have hlt:i<its.toArray.size:=by have:=(List.getElem?_eq_some_iff.mp hu).1;simpa using this
  have hlt':i<its'.toArray.size:=by have:=(List.getElem?_eq_some_iff.mp hu').1;simpa using this
  have D:ZApart z TI TO j1 j2 [j1,a] [j2,c]:=⟨by simp,by simp,by simp;exact ⟨d3,Ne.symm (na z (by first | exact mm0 | exact mm1 | exact mm2 | exact mm3 | exact mm4 | exact mm5 | simp))⟩,by simp;exact ⟨d4,Ne.symm (na' z (by first | exact mm0 | exact mm1 | exact mm2 | exact mm3 | exact mm4 | exact mm5 | simp))⟩,by simp;exact ⟨d8,Ne.symm (na TO (by first | exact mm0 | exact mm1 | exact mm2 | exact mm3 | exact mm4 | exact mm5 | simp))⟩,by simp;exact ⟨d9,Ne.symm (na' TO (by first | exact mm0 | exact mm1 | exact mm2 | exact mm3 | exact mm4 | exact mm5 | simp))⟩,
   by simp;exact ⟨d10,Ne.symm (na' j1 (by first | exact mm0 | exact mm1 | exact mm2 | exact mm3 | exact mm4 | exact mm5 | simp))⟩,by simp;exact ⟨Ne.symm d10,Ne.symm (na j2 (by first | exact mm0 | exact mm1 | exact mm2 | exact mm3 | exact mm4 | exact mm5 | simp))⟩,Ne.symm d1,d5,d6,d7,Ne.symm d2⟩
  refine zipD_next_item D (draws_of b (A:=X.A.in1) (I.ok.hd hc) j1 a (na j1 (by first | exact mm0 | exact mm1 | exact mm2 | exact mm3 | exact mm4 | exact mm5 | simp)) its.toArray) (draws_of b' (A:=X.A.in1) (I.ok.hd hc) j2 c (na' j2 (by first | exact mm0 | exact mm1 | exact mm2 | exact mm3 | exact mm4 | exact mm5 | simp)) its'.toArray) hz hI hO ⟨h1,p⟩ ⟨h2,p'⟩ hlt hlt' fun v v' g1 tk e1 e2 z1 O1 s1 s2 T1 sz1 k1=>?_
  have ev:v=u:=by
   have e1:its.toArray[i]? = some v:=e1
   have:its[i]? = some v:=by simpa using e1
   rw [hu] at this;exact (Option.some.inj this).symm
  have ev':v'=u':=by
   have e2:its'.toArray[i]? = some v':=e2
   have:its'[i]? = some v':=by simpa using e2
   rw [hu'] at this;exact (Option.some.inj this).symm
  subst ev ev'
  refine ⟨_,rfl,wpAny_letOwnedTupleGo_zip z1 fun g2 z2 b2=>?_⟩
  replace b2:Heap.SameBut z g1 g2:=b2
  have hzs:z<s.heap.objs.size:=Heap.lt_size hz
  have kk:∀ d o,d∉[z,TI,TO,j1,j2]→s.heap.get? d=some o→g2.get? d=some o:=fun d o hd q=>by
   have h1':d≠z:=(by first | exact mn0 hd | exact mn1 hd | exact mn2 hd | exact mn3 hd | exact mn4 hd | exact mn5 hd)
   exact b2.extBut _ _ h1' (k1 d o h1' (by first | exact mn0 hd | exact mn1 hd | exact mn2 hd | exact mn3 hd | exact mn4 hd | exact mn5 hd) (by first | exact mn0 hd | exact mn1 hd | exact mn2 hd | exact mn3 hd | exact mn4 hd | exact mn5 hd) (by first | exact mn0 hd | exact mn1 hd | exact mn2 hd | exact mn3 hd | exact mn4 hd | exact mn5 hd) q)
  refine ⟨.ref s.heap.objs.size,upd H s.heap.objs.size (.tup [x,y]),I.turnLay (t':=tk) kk hf (Nat.le_refl _) ?_,rfl,⟨_,x,y,I.hok.fresh (Nat.le_refl _),rfl,rfl,fun zs hy=>by rw [I.seqK_inj hy hq];exact hx,fun zs hy'=>by rw [I.seqK_inj hy' hq'];exact hy⟩,
   ⟨z2,b2.extBut _ _ (Ne.symm d1) (k1 _ _ (Ne.symm d1) d5 d6 d7 hI),⟨_,_,b2.extBut _ _ (Ne.symm d2) O1⟩,s1.1.at fun o q=>b2.extBut _ _ (Ne.symm d3) q,s2.1.at fun o q=>b2.extBut _ _ (Ne.symm d4) q⟩,fun d hd=>?_⟩
  · exact ⟨by simp [sizeLine_eq],[v,v'],.cons ru (.cons ru' .nil),_,b2.extBut _ _ (Nat.ne_of_gt hzs) T1,rfl,0,rfl⟩
  · have lt:d<s.heap.objs.size:=by
     rcases List.mem_cons.mp hd with rfl | hd
     · exact hzs
     · rcases List.mem_cons.mp hd with rfl | hd
       · exact Heap.lt_size hI
       · rcases List.mem_cons.mp hd with rfl | hd
         · exact Heap.lt_size hO
         · rcases List.mem_cons.mp hd with rfl | hd
           · obtain ⟨o,q,_⟩:=h1.obj;exact Heap.lt_size q
           · rw [List.mem_singleton.mp hd];obtain ⟨o,q,_⟩:=h2.obj;exact Heap.lt_size q
    rw [upd_ne (Nat.ne_of_lt lt)]
    exact (hf d hd).1
 done:=by
  intro X hP hw hK hc i pins s σ H E I hf st hg
  subst hP hw hK
  obtain ⟨xs,ys,hq,hq',hm⟩:=hg
  obtain ⟨its,rv,p,_⟩:=I.seqK hq
  obtain ⟨its',rv',p',_⟩:=I.seqK hq'
  obtain ⟨hz,hI,⟨o1,o2,hO⟩,h1,h2⟩:=st
  have na:=fun d hd=>I.seqK_ne hq (hf d hd)
  have na':=fun d hd=>I.seqK_ne hq' (hf d hd)
  simp only [List.nodup_cons,List.mem_cons,List.not_mem_nil,or_false,not_or] at dz
  obtain ⟨⟨d1,d2,d3,d4⟩,⟨d5,d6,d7⟩,⟨d8,d9⟩,d10,_⟩:=dz
  have D:ZApart z TI TO j1 j2 [j1,a] [j2,c]:=⟨by simp,by simp,by simp;exact ⟨d3,Ne.symm (na z (by first | exact mm0 | exact mm1 | exact mm2 | exact mm3 | exact mm4 | exact mm5 | simp))⟩,by simp;exact ⟨d4,Ne.symm (na' z (by first | exact mm0 | exact mm1 | exact mm2 | exact mm3 | exact mm4 | exact mm5 | simp))⟩,by simp;exact ⟨d8,Ne.symm (na TO (by first | exact mm0 | exact mm1 | exact mm2 | exact mm3 | exact mm4 | exact mm5 | simp))⟩,by simp;exact ⟨d9,Ne.symm (na' TO (by first | exact mm0 | exact mm1 | exact mm2 | exact mm3 | exact mm4 | exact mm5 | simp))⟩,
   by simp;exact ⟨d10,Ne.symm (na' j1 (by first | exact mm0 | exact mm1 | exact mm2 | exact mm3 | exact mm4 | exact mm5 | simp))⟩,by simp;exact ⟨Ne.symm d10,Ne.symm (na j2 (by first | exact mm0 | exact mm1 | exact mm2 | exact mm3 | exact mm4 | exact mm5 | simp))⟩,Ne.symm d1,d5,d6,d7,Ne.symm d2⟩
  have hl:=rv.length
  have hl':=rv'.length
  refine zipD_next_end D (draws_of b (A:=X.A.in1) (I.ok.hd hc) j1 a (na j1 (by first | exact mm0 | exact mm1 | exact mm2 | exact mm3 | exact mm4 | exact mm5 | simp)) its.toArray) (draws_of b' (A:=X.A.in1) (I.ok.hd hc) j2 c (na' j2 (by first | exact mm0 | exact mm1 | exact mm2 | exact mm3 | exact mm4 | exact mm5 | simp)) its'.toArray) hz hI hO ⟨h1,p⟩ ⟨h2,p'⟩ (by simp;omega) fun g1 tk k1=>⟨rfl,?_⟩
  exact I.turnedL (t':=tk) (fun d o hd q=>k1 d o (by first | exact mn0 hd | exact mn1 hd | exact mn2 hd | exact mn3 hd | exact mn4 hd | exact mn5 hd) (by first | exact mn0 hd | exact mn1 hd | exact mn2 hd | exact mn3 hd | exact mn4 hd | exact mn5 hd) (by first | exact mn0 hd | exact mn1 hd | exact mn2 hd | exact mn3 hd | exact mn4 hd | exact mn5 hd) (by first | exact mn0 hd | exact mn1 hd | exact mn2 hd | exact mn3 hd | exact mn4 hd | exact mn5 hd) q) hf
 self:=fun _ _ _ _ _ st q=>wpAny_pyIter_zip st.1 q
section
variable {X:Cx}{es:List Expr}{kk:Nat}{tp:Pos}
noncomputable def iZip (K:PySem.W.Frag) (ta:TA):TI:=fun σ H R=>ta σ H fun vs H1=>∃ b b' l m xs ys,vs=[.ref l,.ref m]∧SqK b K H1 l xs∧SqK b' K H1 m ys∧R (Itz b b' K l m) H1
theorem pi_zip {a b:Expr}{ta:TA}{p pos:Pos}(hg:Gl X "zip") (hm:X.mg "zip" = none) (ha:PA X [a,b] ta) (hs:starEach [a,b] X.env=[(false,eval a X.env),(false,eval b X.env)]:=by rfl) (hs2:starEach [b] X.env=[(false,eval b X.env)]:=by rfl) :
 PI X (.Tuple es kk tp) (.Call (.Name "zip" p) [a,b] [] pos) (iZip X.K ta):=by
 intro pins s σ H R I h
 refine Call_ (ld_blt I hg hm boot_zip (PyProof.Rows.callWith_type1 (thn (ha pos pins s σ H _ I h) fun us s1 ⟨vs,H1,I1,r1,q1⟩=>?_) (by rw [hs,hs2]) (by rw [hs2];rfl)))
 obtain ⟨b,b',l,m,xs,ys,e,hq,hq',q⟩:=q1
 subst e
 obtain ⟨u,u',rfl,ru,ru'⟩:=vals2 r1
 cases ru
 cases ru'
 obtain ⟨its,rv,p,_⟩:=I1.seqK hq
 obtain ⟨its',rv',p',_⟩:=I1.seqK hq'
 refine call_zipK b b' p p' fun h1 hz hI hO i1 i2 hsz hk=>wpAny_pyIter_zip hz ?_
 refine ⟨_,[s1.heap.objs.size+4,s1.heap.objs.size+2,s1.heap.objs.size+3,s1.heap.objs.size,s1.heap.objs.size+1],_,_,H1,rfl,I1.kept (t':=s1.toks) hk,turn_zip b b' l m _ _ _ _ _ (by first | exact mm0 | exact mm1 | exact mm2 | exact mm3 | exact mm4 | exact mm5 | simp),⟨hz,hI,⟨_,_,hO⟩,i1,i2⟩,fun c hc=>?_,q⟩
 have hc':s1.heap.objs.size≤c:=by
  simp only [List.mem_cons,List.not_mem_nil,or_false] at hc
  rcases hc with rfl | rfl | rfl | rfl | rfl
  · exact Nat.le_add_right _ _
  · exact Nat.le_add_right _ _
  · exact Nat.le_add_right _ _
  · exact Nat.le_refl _
  · exact Nat.le_add_right _ _
 exact I1.fpOk hc' (I1.hok.fresh hc')
end
section
variable {X:Cx}{pos:Pos}{k:Nat}
noncomputable abbrev Sto (X:Cx) (i:Nat) (x:Str):Prop:=X.N[i]? = some x∧Loc X.env.scope x∧(X.fn x=true∨X.env.scope.names.lookup x=some .local)
theorem pg_pair {K':PySem.W.Frag}{i j:Nat}{x y:Str}{px py:Pos}(hc:X.calm=true) (hN:X.N.Nodup) (hx:Sto X i x) (hy:Sto X j y) (hK:X.K=K'):PG X (.Tuple [.Name x px,.Name y py] k pos) (gTup K' 2 (gCons (gName i) (gCons (gName j) gNil))):=
 hK▸pg_tup hc (pgs_cons (pg_name hN hx.1 hx.2.1 hx.2.2) (pgs_cons (pg_name hN hy.1 hy.2.1 hy.2.2) pgs_nil))
theorem pg_trio {K':PySem.W.Frag}{i j m:Nat}{x y z:Str}{px py pz:Pos}(hc:X.calm=true) (hN:X.N.Nodup) (hx:Sto X i x) (hy:Sto X j y) (hz:Sto X m z) (hK:X.K=K'):PG X (.Tuple [.Name x px,.Name y py,.Name z pz] k pos) (gTup K' 3 (gCons (gName i) (gCons (gName j) (gCons (gName m) gNil)))):=
 hK▸pg_tup hc (pgs_cons (pg_name hN hx.1 hx.2.1 hx.2.2) (pgs_cons (pg_name hN hy.1 hy.2.1 hy.2.2) (pgs_cons (pg_name hN hz.1 hz.2.1 hz.2.2) pgs_nil)))
end
end L2
namespace My
open PySem PySem.Spec PyProof.Rows L2
noncomputable def wayAt (ws:List Way) (k:Int):Way:=ws.getD k.toNat ⟨0,0,[]⟩
theorem at0 (x y z:V):atI [x,y,z] 0=some x:=atI_nat (j:=0) rfl
end My
namespace L2
open PySem PySem.Spec PyProof.Rows
section
variable {X:Cx}{K':PySem.W.Frag}
theorem ix_tupK (hK:X.K=K'):IxR X (rIxT K'):=hK▸ix_tup
theorem ix_listK (hK:X.K=K'):IxR X (rIxL K'):=hK▸ix_list
theorem call_len_seqK (hK:X.K=K'):CallR X (.builtin "len") (fun xs H Q=>∃ p ys,xs=[.ref p]∧(SqL K' H p ys∨SqT K' H p ys)∧Q (.int ys.length) H):=hK▸call_len_seq
theorem call_list_ofK (hK:X.K=K'):CallR X (.type "list") (fun xs H Q=>∃ p ys,xs=[.ref p]∧(SqL K' H p ys∨SqT K' H p ys)∧∀ l,H l=none→Q (.ref l) (upd H l (.lst ys))):=hK▸call_list_of
theorem call_tuple_ofK (hK:X.K=K'):CallR X (.type "tuple") (fun xs H Q=>∃ p ys,xs=[.ref p]∧((SqL K' H p ys∧∀ l,H l=none→Q (.ref l) (upd H l (.tup ys)))∨(SqT K' H p ys∧Q (.ref p) H))):=hK▸call_tuple_of
end
section
variable {X:Cx}{e st:Expr}{te:TE}{ts:TO}{pos p2:Pos}
end
theorem op_mulB {X:Cx}:OpR X (binaryOp .Mult) (rI IntMulOk fun i j=>.int (i*j)):=opI fun _ _ _ _ _ _ _ hc q=>mul_int q hc
theorem ps_setD {X:Cx}{pos:Pos}{i:Nat}{x:Str}{e:Expr}{te:TE}{pos':Pos}(hN:X.N.Nodup) (hi:X.N[i]? = some x) (hx:Loc X.env.scope x) (he:PEs X e te) (hs:swapsWith e (some (.Name x pos')) pos.line X.env=pure false:=by rfl) (hf:X.fn x=true∨X.env.scope.names.lookup x=some .local := by first | exact .inl rfl | exact .inr rfl | assumption):PS X (.Assign [.Name x pos'] e pos) (tAsg te (gName i)):=ps_set hN hi hx he.out hs hf
end L2
namespace My
open PySem PySem.Spec PyProof.Rows L2
end My
namespace L2
open PySem PySem.Spec PyProof.Rows
section
variable {X:Cx}
end
end L2
namespace My
open PySem PySem.Spec PyProof.Rows L2
end My
namespace L2
open PySem PySem.Spec PyProof.Rows
section
variable {prog:Program}{w:World}{A:Around}{E:Value→Shared→Prop}{s:Shared}{z TI TO j1 j2 j3:Addr}{f1 f2 f3:List Addr}{n1 n2 n3 i:Nat}{P1 P2 P3:Nat→Value→Prop}{St1 St2 St3:Nat→Heap→Prop}{a b c:Value}
end
section
variable {X:Cx}{es:List Expr}{kk:Nat}{tp:Pos}
end
end L2
namespace My
open PySem PySem.Spec PyProof.Rows L2
end My
namespace L2
open PySem PySem.Spec PyProof.Rows
section
variable {X:Cx}
noncomputable def rCatD (K:PySem.W.Frag):R2:=fun x y H Q=>∃ a b xs ys,x = .ref a∧y = .ref b∧SqT K H a xs∧SqT K H b ys∧xs.length+ys.length≤sizeLine ∧
 (xs=[]→Q (.ref b) H)∧(xs≠[]→ys=[]→Q (.ref a) H)∧(xs≠[]→ys≠[]→∀ p,H p=none→Q (.ref p) (upd H p (.tup (xs++ys))))
theorem op_catD:OpR X (binaryOp .Add) (rCatD X.K):=by
 intro pins s σ H x y v u Q I rx ry h
 obtain ⟨a,b,xs,ys,rfl,rfl,ha,hb,hz,q0,q1,q2⟩:=h
 by_cases hx:xs=[]
 · cases rx
   cases ry
   obtain ⟨its,r1,⟨⟨cls,dd,data,sl⟩,ho,hc,n,hd⟩,_⟩:=I.tuple ha
   obtain ⟨its2,r2,⟨⟨cls2,dd2,data2,sl2⟩,ho2,hc2,n2,hd2⟩,_⟩:=I.tuple hb
   simp only at hc hd hc2 hd2
   subst hc hd hc2 hd2
   have hi:its=[]:=r1.nil_iff.mpr hx
   exact concat_meets ⟨_,ho,rfl⟩ ⟨_,ho2,rfl⟩ noFill_tuple_add seq_tuple_add PySem.F.slot_tuple_add PySem.F.entry_tuple_add (PySem.F.args_tuple_add_2 _ _) (tuple_addW0 a b its.toArray its2.toArray n n2 dd dd2 sl sl2 (by simp [hi])) ⟨ho,ho2,.ref b,H,I,rfl,q0 hx⟩
 · exact op_catT pins s σ H (.ref a) (.ref b) v u Q I rx ry ⟨a,b,xs,ys,rfl,rfl,ha,hb,hx,hz,q1 hx,q2 hx⟩
end
end L2
namespace My
open PySem PySem.Spec PyProof.Rows L2
noncomputable def cutD (xs:List PyData) (lo hi:Option Int):List PyData:=(xs.drop (HT.sIx xs.length 0 lo)).take (HT.sIx xs.length xs.length hi-HT.sIx xs.length 0 lo)
theorem cutD_take (xs:List PyData) (k:Nat):cutD xs none (some (k:Int))=xs.take k:=by
 unfold cutD
 rw [HT.sIx_none,HT.sIx_nat,List.drop_zero,Nat.sub_zero]
 rcases Nat.le_total k xs.length with h | h
 · rw [Nat.min_eq_left h]
 · rw [Nat.min_eq_right h,List.take_of_length_le (Nat.le_refl _),List.take_of_length_le h]
theorem cutD_drop (xs:List PyData) (k:Nat):cutD xs (some (k:Int)) none=xs.drop k:=by
 unfold cutD
 rw [HT.sIx_none,HT.sIx_nat]
 rcases Nat.le_total k xs.length with h | h
 · rw [Nat.min_eq_left h,List.take_of_length_le (by rw [List.length_drop];omega)]
 · rw [Nat.min_eq_right h,List.drop_of_length_le (Nat.le_refl _),List.drop_of_length_le h];simp
theorem assign_sub_const (o:Expr) (k:Const) (j:Nat) (p pos:Pos) (env:Env) (v:Value):assign (.Subscript o (.Constant k j p) pos) env v=(do
 let ov ← holding [v] (eval o env)
 let iv ← holding [v,ov] (eval (.Constant k j p) env)
 standAt pos
 holding [v,ov,iv] (setItem ov iv v)
 release [v,ov,iv] []):=assign_sub_gen _ _ _ _ _
structure Tape (H:Hp) (p c:Addr) (n:Nat):Prop where
 ex:∃ (ns:List Int) (k g:Int),H p=some (.lst [.ref c,.int k,.int g])∧H c=some (.lst (ns.map V.int))∧ns.length≤63∧0≤k∧k≤n
theorem Tape.ne {H:Hp}{p c:Addr}{n:Nat}(J:Tape H p c n):p≠c:=by
 obtain ⟨ns,k,g,h1,h2,_⟩:=J.ex
 rintro rfl
 rw [h1] at h2
 cases ns with
 | nil=>cases h2
 | cons a r=>cases h2
theorem Tape.fresh {H:Hp}{p c l:Addr}{n:Nat}(J:Tape H p c n) (h:H l=none):l∉[p,c]:=by
 obtain ⟨ns,k,g,h1,h2,_⟩:=J.ex
 intro z
 rcases List.mem_cons.mp z with rfl | z
 · rw [h] at h1;cases h1
 · cases List.mem_singleton.mp z;rw [h] at h2;cases h2
noncomputable def spTape (K:PySem.W.Frag):Sp:=fun vs H Q _=>∃ (a:Addr) (ns:List Int),vs=[.ref a]∧SqL K H a (ns.map V.int)∧ns.length≤63∧∀ p c H',Kp [] H H'→H p=none→H c=none→Tape H' p c 0→Q (.ref p) H'
noncomputable def spDraw:Sp:=fun vs H Q _=>∃ (p c:Addr) (n:Nat) (many:Int),vs=[.ref p,.int many]∧Tape H p c n∧n<2^40∧0<many∧many<2^9000∧∀ (r:Int) (H':Hp),0≤r→r<many→Tape H' p c (n+1)→Kp [p,c] H H'→Q (.int r) H'
theorem Kp.late {ex:List Addr}{H1 H2:Hp}{a:Addr}(k:Kp ex H1 H2) (h:H1 a=none) (o:HO):Kp ex H1 (upd H2 a o):=fun b v e n=>by
 rw [upd_ne (ne_of_none e h)];exact k b v e n
theorem ixN_in {n:Nat}{i:Int}(h0:0≤i) (h1:i<n):ixN n i=some i.toNat:=by
 unfold ixN
 rw [if_pos h0,if_pos (by omega)]
noncomputable def gTupL (K:PySem.W.Frag) (n:Nat) (t:TGs):TG:=fun v σ H Q=>∃ a xs,v = .ref a∧SqL K H a xs∧xs.length=n∧t xs σ H Q
section
variable {X:Cx}{pos:Pos}{k:Nat}
theorem pg_tupL {es:List Expr}{t:TGs}{n:Nat}(hc:X.calm=true) (h:PGs X es t)
 (hn:(assignEach es X.env).length=n:=by rfl) (hst:(assignEach es X.env).findIdx? (·.1)=none:=by rfl):PG X (.Tuple es k pos) (gTupL X.K n t):=by
 intro pins s σ H v u Q I r hw
 obtain ⟨a,xs,e1,hq,hl,hw⟩:=hw
 subst e1
 cases r
 obtain ⟨its,rv,pl,hz⟩:=I.list hq
 rw [assign_Tuple]
 refine wpAny_bind (wpAny_standAt ?_)
 unfold unpack
 have hsz:(assignEach es X.env).length=its.toArray.size:=by simp [hn,← hl,rv.length]
 rw [hsz,hst]
 refine wpAny_bind (wpAny_holding (PySem.W.kun_itemsOf (I.ok.hd hc) pl.isList fun h' hx=>?_))
 have I1:Inv X pins σ H { s with heap:=h' }:=I.kept (t':=s.toks) fun b o e=>hx b o (Nat.ne_of_lt (Heap.lt_size e)) e
 exact h pins _ σ H xs _ Q I1 (by simpa using rv) hw
theorem pg_pairL {K':PySem.W.Frag}{i j:Nat}{x y:Str}{px py:Pos}(hc:X.calm=true) (hN:X.N.Nodup) (hx:Sto X i x) (hy:Sto X j y) (hK:X.K=K'):PG X (.Tuple [.Name x px,.Name y py] k pos) (gTupL K' 2 (gCons (gName i) (gCons (gName j) gNil))):=
 hK▸pg_tupL hc (pgs_cons (pg_name hN hx.1 hx.2.1 hx.2.2) (pgs_cons (pg_name hN hy.1 hy.2.1 hy.2.2) pgs_nil))
end
end My
namespace L2
open PySem PySem.Spec PyProof.Rows
section
variable {X:Cx}
end
end L2
namespace My
open PySem PySem.Spec PyProof.Rows L2
noncomputable def dotI (xs ys:List Int) (n:Nat):Int:=((List.range n).map fun i=>xs.getD i 0*ys.getD i 0).sum
theorem dotI_succ (xs ys:List Int) (n:Nat):dotI xs ys (n+1)=dotI xs ys n+xs.getD n 0*ys.getD n 0:=by
 unfold dotI
 rw [List.range_succ,List.map_append,List.sum_append]
 simp
noncomputable def fallI (ws:List Way) (wts hts:List Int) (k:Int):Int:=hts.getD (wayAt ws k).a.toNat 0-hts.getD (wayAt ws k).b.toNat 0-dotI wts (wayAt ws k).g wts.length
section
variable {p c sl:Addr}{R U:Int}{ws:List Way}{bv:V}{sums:List (List Int×List Int)}{svs:List V}{H H':Hp}{n m:Nat}
end
end My
namespace L2
open PySem PySem.Spec PyProof.Rows
section
variable {P:Program}{w:World}{H H':Hp}{h h':Heap}{a:Addr}{o:HO}
end
structure Fly (P:Program) (w:World) (outer:List Env) (H:Hp) (s:Shared) (H':Hp) (ea:Addr) (cls:Value) (s':Shared):Prop where
 os:s'.os=s.os
 bare:AllBare s'.gens
 un:Un (frs outer) [] H H' s.heap s'.heap
 hok:HOk P w H' s'.heap
 fl:∃ (B:Heap) (t:Addr),(∀ b o,s'.heap.get? b=some o→((H' b).isSome=true∨∃ o₀,s.heap.get? b=some o₀)→b∉frs outer→B.get? b=some o)∧Heap.FlyingW B outer ea cls (.ref t) s'.heap
section
variable {X:Cx}{pins:List (Addr×Obj)}{σ:St}{H H':Hp}{s s':Shared}
end
section
variable {P:Program}{w:World}{K:PySem.W.Frag}{mg:Str→Option Value}{base:Heap}{N:List Str}{qual:Str}{scope:Scope}{f:Addr}{cd:Value}{A:Around}{outer:List Env}{s₀:Shared}{H₀:Hp}{E:XK}
end
open PySem PySem.Spec PyProof.Rows PySem.W Builtin Builtin.ObjectAttr Builtin.Getset_descriptor
section
variable {prog:Program}{w:World}{A:Around}{E:Value→Shared→Prop}{s:Shared}{K:PySem.W.Frag}{x D:Addr}{R:Result→Shared→Prop}
end
section
variable {P:Program}{w:World}{K:PySem.W.Frag}{mg:Str→Option Value}{base:Heap}{N:List Str}{qual:Str}{scope:Scope}{f:Addr}{cd:Value}{A:Around}{outer:List Env}{s₀:Shared}{H₀:Hp}{E:XK}
 {x:Str} {C:Addr} {e:Expr} {es:List Expr} {np cpos pos:Pos} {t:TA}
end
section
variable {P:Program}{w:World}{K:PySem.W.Frag}{mg:Str→Option Value}{base:Heap}
end
section
variable {X:Cx}{x:Str}{e:Expr}{es:List Expr}{p pos:Pos}{t:TA}{k:Nat}{ps:List Str}{sp:Sp}{E:XK}
end
noncomputable abbrev XW:=St→Value→Hp→Prop
noncomputable def XP (X:Cx) (pins:List (Addr×Obj)) (W:XW) (e:Value) (s':Shared):Prop:=∃ ea cls σ' H H' s,e = .ref ea∧Inv X pins σ' H s∧Fly X.prog X.w X.stack H s H' ea cls s'∧W σ' cls H'
noncomputable abbrev TSX:=Ends→XW→St→Hp→Prop
section
variable {X:Cx}{x y:Str}{e:Expr}{es:List Expr}{p p' pos apos:Pos}{t:TA}{k:Nat}{ps:List Str}{sp:Sp}
end
section
variable {X:Cx}{pins:List (Addr×Obj)}{σ σ0:St}{H H0:Hp}{s s0:Shared}{B h':Heap}
end
section
variable {X:Cx}{body:List Stmt}{tb:TSX}{ts:TS}{b₀:Stmt}{suite:List Stmt}{c n:Str}{C:Addr}{i:Nat}{np hpos pos:Pos}
end
open PySem PySem.Spec PyProof.Rows PySem.SeqAt
section
variable {P:Program}{w:World}{K:PySem.W.Frag}{mg:Str→Option Value}{base:Heap}
end
section
variable {X:Cx}{x:Str}{e:Expr}{es:List Expr}{p pos:Pos}{t:TA}{k:Nat}{ps:List Str}{sp:Sp}
end
structure Er where
 fall:Addr
 way:Addr
 round:Addr
 ring:Addr
 purse:Addr
 end_:Addr
 stand:Addr
 many:Addr
 line:Addr
 row:Addr
section
variable {K:PySem.W.Frag}{mg:Str→Option Value}{z:Er}
end
section
variable {X:Cx}{v:Expr}{te:TE}{a b:Str}{ja jb:Nat}{pa pb pf pos:Pos}
end
section
variable {X:Cx}{x:Str}{e:Expr}{es:List Expr}{p pos apos:Pos}{t:TA}{k:Nat}{ps:List Str}{sp:Sp}
variable {body:List Stmt}{tb:TSX}{ts:TS}{b₀:Stmt}{suite:List Stmt}{c:Str}{C:Addr}{np hpos:Pos}
end
end L2
namespace My
open PySem PySem.Spec PyProof.Rows L2
end My
namespace HT
open PySem PySem.Spec PyProof.Rows
section
variable {prog:Program}{w:World}{A:Around}{E:Value→Shared→Prop}{s:Shared}
theorem getItem_tuple_whole {t sl:Addr}{items:Array Value}{vl vu:Value}{lo hi:Option Int}{Q:Value→Shared→Prop}(ht:IsTup s.heap t items) (hs:s.heap.IsSliceOf sl vl vu .none) (pl:IsPart vl lo) (pu:IsPart vu hi)
 (hw:sIx items.size 0 lo=0∧sIx items.size items.size hi=items.size) (h:Q (.ref t) s):wpAny (model prog w) A (getItem (.ref t) (.ref sl)) Q E s:=by
 obtain ⟨os,hos,hcs,hds⟩:=id hs
 have hTs:s.TypeIs (.ref sl) "slice":=⟨os,hos,hcs⟩
 unfold getItem
 try with_reducible refine wpAny_holding ?_
 first | refine wpAny_bind (wpAny_pure ?_) | skip
 refine wpAny_bind (wpAny_sequenceKey ht.typeIs (by decide) ?_)
 refine wpAny_bind (wpAny_callSpecial?_slot (name:=Str.ofString "__getitem__") ht.typeIs PyProof.Rows.slot_tuple_getitem
  (wpAny_call_entry PyProof.Rows.slot_tuple_getitem ht.typeIs entry_tuple_getitem ?_ (args_tuple_getitem _ _)))
 show wpAny _ _ (Builtin.Tuple.tupleItemsOf (.ref t) >>= _) _ _ s
 refine wpAny_bind (tupleItemsOf_ ht ?_)
 refine wpAny_bind (wpAny_typeOf hTs ?_)
 rw [if_pos (by decide)]
 refine wpAny_bind (sliceApplied_gen hs pl pu ?_)
 have hyes:(((sIx items.size 0 lo:Nat):Int)==0&&(1:Int)==1&&(sIx items.size items.size hi-sIx items.size 0 lo)==items.size)=true:=by
  rw [hw.1,hw.2];simp
 show wpAny _ _ (if (((sIx items.size 0 lo:Nat):Int)==0&&(1:Int)==1&&(sIx items.size items.size hi-sIx items.size 0 lo)==items.size)=true then _ else _) _ _ s
 rw [if_pos hyes]
 have hex:∀ {Q':Bool→Shared→Prop} {A':Around} {E':Value→Shared→Prop},Q' true s→wpAny (model prog w) A' (Builtin.Tuple.tupleIsExact (Value.ref t)) Q' E' s:=fun {Q' A' E'} q=>by
  unfold Builtin.Tuple.tupleIsExact
  exact wpAny_bind (wpAny_typeOf ht.typeIs (wpAny_pure q))
 refine wpAny_bind (hex ?_)
 rw [if_pos rfl]
 exact wpAny_bind (wpAny_rule (wpAny_pure ⟨_,rfl,wpAny_pure h⟩))
end
end HT
namespace L2
open PySem PySem.Spec PyProof.Rows
noncomputable def rSlW (K:PySem.W.Frag):V→Option Int→Option Int→Hp→VK→Prop:=fun x lo hi H Q=>∃ a xs,x = .ref a∧SqT K H a xs ∧
 ((HT.sIx xs.length 0 lo=0∧HT.sIx xs.length xs.length hi=xs.length)→Q (.ref a) H)∧∀ p,H p=none→Q (.ref p) (upd H p (.tup (cutV xs lo hi)))
theorem sl_tupW {X:Cx}:SlR X (rSlW X.K):=by
 intro pins s σ H x v vl vu lo hi sl Q I rx hs pl pu h
 obtain ⟨a,xs,rfl,hx,q1,q2⟩:=h
 by_cases hw:HT.sIx xs.length 0 lo=0∧HT.sIx xs.length xs.length hi=xs.length
 · cases rx
   obtain ⟨its,r,ht,hz⟩:=I.tuple hx
   have hlen:its.toArray.size=xs.length:=by rw [List.size_toArray];exact r.length.symm
   refine ⟨"tuple",_,PyProof.Rows.slot_tuple_getitem.lookup,ht.typeIs,?_⟩
   exact HT.getItem_tuple_whole ht hs pl pu (by rw [hlen];exact hw) ⟨.ref a,H,I,rfl,q1 hw⟩
 · exact sl_tup pins s σ H _ v vl vu lo hi sl Q I rx hs pl pu ⟨a,xs,rfl,hx,hw,q2⟩
end L2
namespace My
open PySem PySem.Spec PyProof.Rows L2
theorem sIx_none (n d:Nat):HT.sIx n d none=d:=rfl
end My
namespace L2
open PySem PySem.Spec PyProof.Rows
end L2
namespace My
open PySem PySem.Spec PyProof.Rows L2
section
variable {p c wl:Addr}{R U:Int}{ws:List Way}{bv fv hv:V}{r:Int}{xs:List Int}{Hs H H':Hp}{ns:List Int}
end
end My
namespace L2
open PySem PySem.Spec PyProof.Rows
section
variable {prog:Program}{w:World}{A:Around}{E:Value→Shared→Prop}{s:Shared}{l:Addr}{xs:Array (Int×Tok)}
end
section
variable {X:Cx}
end
end L2
namespace My
open PySem PySem.Spec PyProof.Rows L2
end My
namespace L2
open PySem PySem.Spec PyProof.Rows
section
variable {X:Cx}
theorem any_ints (ns:List Int):((List.range ns.length).any fun i=>decide (ns.getD i 0≠0))=ns.any (fun n=>decide (n≠0)):=by
 rw [Bool.eq_iff_iff]
 simp only [List.any_eq_true,List.mem_range]
 constructor
 · rintro ⟨i,hi,h⟩
   rw [List.getD_eq_getElem?_getD,List.getElem?_eq_getElem hi] at h
   exact ⟨_,List.getElem_mem hi,h⟩
 · rintro ⟨n,hn,h⟩
   obtain ⟨i,hi,rfl⟩:=List.mem_iff_getElem.mp hn
   exact ⟨i,hi,by rw [List.getD_eq_getElem?_getD,List.getElem?_eq_getElem hi];exact h⟩
theorem int_at {ns:List Int}{its:List Value}(rv:Vals (ns.map V.int) its) {i:Nat}{v:Value}(h:its[i]? = some v):∃ t,v = .int (ns.getD i 0) t:=by
 have hi:i<its.length:=(List.getElem?_eq_some_iff.mp h).1
 have hlen:=rv.length
 rw [List.length_map] at hlen
 have hb:(ns.map V.int)[i]? = some (V.int (ns.getD i 0)):=by
  rw [List.getElem?_map,List.getElem?_eq_getElem (by omega),List.getD_eq_getElem?_getD,List.getElem?_eq_getElem (by omega)]
  rfl
 obtain ⟨u,hu,ru⟩:=rv.get hb
 rw [h] at hu
 cases hu
 exact ru
theorem call_anyL (hc:X.calm=true):CallR X (.builtin "any") (fun xs H Q=>∃ (p:Addr) (ns:List Int),xs=[.ref p]∧SqL X.K H p (ns.map V.int)∧Q (.bl (ns.any fun n=>decide (n≠0))) H):=by
 intro pins s σ H xs us Q I r h
 obtain ⟨p,ns,rfl,hq,q⟩:=h
 obtain ⟨u,rfl,ru⟩:=vals1 r
 cases ru
 obtain ⟨its,rv,pl,hz⟩:=I.list hq
 have hl:=pl.isList
 have hlt:p<s.heap.objs.size:=by obtain ⟨_,e,_⟩:=hl;exact Heap.lt_size e
 have hlen:=rv.length
 rw [List.length_map] at hlen
 refine call_any_walk (wpAny_pyIter_list hl ?_)
 refine ⟨_,_,_,_,_,_,fun i=>decide (ns.getD i 0≠0),rfl,Walks.list (A:=X.A.in1) (I.ok.hd hc) _ p (Nat.ne_of_lt hlt) its.toArray,⟨⟨_,Heap.get?_push_size _ rfl,rfl,rfl⟩,hl.push _⟩,?_,fun h' tk hk=>?_⟩
 · intro i v s' Q' E' hP hQ
   obtain ⟨t,rfl⟩:=int_at rv (by simpa using hP)
   have e:((ns.getD i 0) != 0)=decide (ns.getD i 0≠0):=by
    rw [Bool.eq_iff_iff];simp
   exact PySem.P.truthy_int (by rw [e];exact hQ)
 · rw [List.size_toArray,← hlen,any_ints]
   exact ⟨.bl _,H,I.kept (t':=tk) (old_kept hk),rfl,q⟩
end
end L2
namespace My
open PySem PySem.Spec PyProof.Rows L2
inductive Rt (es:List (Nat×Nat)):Nat→Nat→Prop
 | refl (a:Nat):Rt es a a
 | step {a b c:Nat}:Rt es a b→(b,c)∈es→Rt es a c
end My
namespace L2
open PySem PySem.Spec PyProof.Rows
section
variable {M:Model}{A:Around}{E:Value→Shared→Prop}{s:Shared}
theorem newEnv_cells {scope:Scope}{globals:Addr}{closure:List (Str×Addr)}{qual:Str}{func:Option Addr}{code:Value}{outer:Env}{builtins:Addr}{Q:Env→Shared→Prop}
 (hQ:Q (newEnv scope s.heap.objs.size globals (cellsFrom (s.heap.objs.size+1) scope.names closure) qual func code (some outer) builtins) { s with heap:=pushCells (s.heap.push { cls:=.type "dict",data:=.dict #[] }) scope.names }) :
 wpAny M A (newFunctionEnv scope globals closure [] qual func code (some outer) builtins) Q E s:=by
 simp only [newFunctionEnv,Option.isSome_some,if_true]
 refine wpAny_bind (wpAny_alloc ?_)
 refine wpAny_bind (wpAny_layCells _ (fun name kind cells=>by cases hkc:kind==NameKind.cell<;>simp [hkc]) _ _ _ _ ?_)
 rw [show ({ s with heap:=s.heap.push { cls:=.type "dict",data:=.dict #[] } }:Shared).heap.objs.size=s.heap.objs.size+1 from Heap.size_push ..]
 refine wpAny_bind ?_
 rw [List.forIn_nil]
 exact wpAny_pure (wpAny_pure hQ)
end
theorem cellsFrom_mem:∀ (names:List (Str×NameKind)) (n:Nat) (acc:List (Str×Addr)) (x:Str) (c:Addr),(x,c)∈cellsFrom n names acc→(x,c)∈acc∨(n≤c∧(x,NameKind.cell)∈names)
 | [],n,acc,x,c,h=>.inl h
 | (name,kind)::r,n,acc,x,c,h=>by
  unfold cellsFrom at h
  split at h
  · rename_i hk
    have hk:kind = .cell:=by simpa using hk
    subst hk
    rcases cellsFrom_mem r (n+1) _ x c h with h | ⟨h1,h2⟩
    · rcases List.mem_cons.mp h with e | h
      · cases e;exact .inr ⟨Nat.le_refl _,List.mem_cons_self⟩
      · exact .inl h
    · exact .inr ⟨by omega,List.mem_cons_of_mem _ h2⟩
  · rcases cellsFrom_mem r n acc x c h with h | ⟨h1,h2⟩
    · exact .inl h
    · exact .inr ⟨h1,List.mem_cons_of_mem _ h2⟩
theorem cellsFrom_apart:∀ (names:List (Str×NameKind)) (n:Nat) (acc:List (Str×Addr)),(∀ p∈acc,p.2<n)→∀ x y c,(x,c)∈cellsFrom n names acc→(y,c)∈cellsFrom n names acc→(∀ x y c,(x,c)∈acc→(y,c)∈acc→x=y)→x=y
 | [],n,acc,_,x,y,c,h,g,inj=>inj x y c h g
 | (name,kind)::r,n,acc,ha,x,y,c,h,g,inj=>by
  unfold cellsFrom at h g
  split at h
  · rename_i hk
    rw [if_pos hk] at g
    refine cellsFrom_apart r (n+1) ((name,n)::acc) (fun p hp=>?_) x y c h g fun x y c h g=>?_
    · rcases List.mem_cons.mp hp with rfl | hp
      · exact Nat.lt_succ_self _
      · exact Nat.lt_succ_of_lt (ha p hp)
    · rcases List.mem_cons.mp h with e | h<;>rcases List.mem_cons.mp g with e' | g
      · cases e;cases e';rfl
      · cases e;exact absurd (ha _ g) (Nat.lt_irrefl _)
      · cases e';exact absurd (ha _ h) (Nat.lt_irrefl _)
      · exact inj x y c h g
  · rename_i hk
    rw [if_neg hk] at g
    exact cellsFrom_apart r n acc ha x y c h g inj
theorem cellsFrom_acc:∀ (names:List (Str×NameKind)) (n:Nat) (acc:List (Str×Addr)) (p:Str×Addr),p∈acc→p∈cellsFrom n names acc
 | [],n,acc,p,h=>h
 | (name,kind)::r,n,acc,p,h=>by
  unfold cellsFrom
  split
  · exact cellsFrom_acc r _ _ p (List.mem_cons_of_mem _ h)
  · exact cellsFrom_acc r _ _ p h
theorem cellsFrom_has:∀ (names:List (Str×NameKind)) (n:Nat) (acc:List (Str×Addr)) (x:Str),(x,NameKind.cell)∈names→∃ c,(x,c)∈cellsFrom n names acc
 | (name,kind)::r,n,acc,x,h=>by
  unfold cellsFrom
  rcases List.mem_cons.mp h with e | h
  · cases e
    exact ⟨n,cellsFrom_acc r _ _ _ List.mem_cons_self⟩
  · split
    · exact cellsFrom_has r _ _ x h
    · exact cellsFrom_has r _ _ x h
theorem pushCells_cell:∀ (names:List (Str×NameKind)) (h:Heap) (acc:List (Str×Addr)) (x:Str) (c:Addr),(x,c)∈cellsFrom h.objs.size names acc→(x,c)∈acc∨(pushCells h names).IsCell c none
 | [],h,acc,x,c,m=>.inl m
 | (name,kind)::r,h,acc,x,c,m=>by
  unfold cellsFrom at m
  unfold pushCells
  split at m
  · rename_i hk
    rw [if_pos hk]
    have e:h.objs.size+1=(h.push { cls:=.type "cell",data:=.cell none }).objs.size:=by rw [Heap.size_push]
    rw [e] at m
    rcases pushCells_cell r _ _ x c m with m | m
    · rcases List.mem_cons.mp m with z | m
      · cases z
        exact .inr ⟨_,pushCells_keeps r _ _ _ (Heap.get?_push_size _ rfl),rfl⟩
      · exact .inl m
    · exact .inr m
  · rename_i hk
    rw [if_neg hk]
    exact pushCells_cell r h acc x c m
theorem closeL_free {env:Env}:∀ (l:List (Str×NameKind)) (cs:List (Str×Addr)) (x:Str) (c:Addr),(x,c)∈closeL env l cs→(x,c)∈cs∨(x,NameKind.free)∈l
 | [],cs,x,c,h=>.inl h
 | (n,k)::r,cs,x,c,h=>by
  unfold closeL at h
  rcases closeL_free r _ x c h with g | g
  · split at g
    · rename_i hk
      have hk:k = .free:=by simpa using hk
      subst hk
      rcases List.mem_cons.mp g with e | g
      · cases e;exact .inr List.mem_cons_self
      · exact .inl g
    · exact .inl g
  · exact .inr (List.mem_cons_of_mem _ g)
theorem uniq_kind {l:List (Str×NameKind)}(u:(l.map (·.1)).Nodup) {x:Str}{j k:NameKind}(h:(x,j)∈l) (g:(x,k)∈l):j=k:=by
 induction l with
 | nil=>cases h
 | cons p l ih=>
  rw [List.map_cons,List.nodup_cons] at u
  rcases List.mem_cons.mp h with e | h<;>rcases List.mem_cons.mp g with e' | g
  · rw [← e] at e';cases e';rfl
  · exact absurd (List.mem_map.mpr ⟨_,g,by rw [← e]⟩) u.1
  · exact absurd (List.mem_map.mpr ⟨_,h,by rw [← e']⟩) u.1
  · exact ih u.2 h g
noncomputable def cxCompC (X:Cx) (N':List Str) (scope:Scope) (C:Addr) (s:Shared) (H:Hp) (fp:List Addr):Cx:=
 { cxComp X N' scope C s H fp with env:=compEnvC scope (cellsFrom (C+1) scope.names (closeL X.env scope.names [])) C X.env,fn:=fun x=>scope.names.lookup x==some NameKind.cell }
structure CompScopeC (sc:Scope) (N:List Str) (scope:Scope) (N':List Str) (k:Nat) (idx:List Nat):Prop where
 kind:scope.kind = .function
 uniq:(scope.names.map (·.1)).Nodup
 loc:∀ x∈scope.names,x.2 = .local → scope.names.lookup x.1=some .local
 fr:∀ x∈scope.names,x.2 = .free→sc.names.lookup x.1=some .cell∨sc.names.lookup x.1=some .free
 nd:N'.Nodup
 free:∀ x∈N'.drop k,scope.names.lookup x=some .free
 ix:(N'.drop k).map some=idx.map fun i=>N[i]?
 len:N'.length=k+idx.length
section
variable {X:Cx}{pins:List (Addr×Obj)}{σ:St}{H:Hp}{s:Shared}{scope:Scope}{N':List Str}{k:Nat}{idx:List Nat}{sc:Scope}{N:List Str}
theorem comp_startC (I:Inv X pins σ H s) (S:CompScopeC sc N scope N' k idx) (hsc:X.env.scope=sc) (hNN:X.N=N) {fp:List Addr}(hf:∀ b∈fp,FpOk X pins H b) (hlt:∀ b∈fp,b<s.heap.objs.size) {t':Nat} :
 Inv (cxCompC X N' scope s.heap.objs.size s H fp) [] (startC k idx σ) H { s with heap:=pushCells (s.heap.push { cls:=.type "dict",data:=.dict #[] }) scope.names,toks:=t' }:=by
 have hcell:∀ x∈scope.names,x.2 = .free→∃ c,X.env.cells.lookup x.1=some c:=fun x hx hfree=>I.ok.has x.1 (by
  show X.env.scope.names.lookup x.1=_∨X.env.scope.names.lookup x.1=_
  rw [hsc];exact S.fr x hx hfree)
 have hclm:∀ x c,(x,c)∈closeL X.env scope.names []→X.env.cells.lookup x=some c:=fun x c e=>closeL_mem hcell (fun p hp=>by cases hp) (x,c) e
 have hold:∀ x c,(x,c)∈closeL X.env scope.names []→c<s.heap.objs.size:=fun x c e=>by
  obtain ⟨v,o,ho,_⟩:=I.cell x c (hclm x c e)
  exact Heap.lt_size ho
 have hk:∀ b o,s.heap.get? b=some o→(pushCells (s.heap.push { cls:=.type "dict",data:=.dict #[] }) scope.names).get? b=some o:=fun b o e=>pushCells_keeps _ _ b o (Heap.get?_push_of_some _ e)
 have hsp:∀ x c,(cellsFrom (s.heap.objs.size+1) scope.names (closeL X.env scope.names [])).lookup x=some c→((x,c)∈closeL X.env scope.names []∨(s.heap.objs.size+1≤c∧(x,NameKind.cell)∈scope.names)):=fun x c e=>
  cellsFrom_mem _ _ _ x c (PySem.mem_of_lookup e)
 have hok:(cxCompC X N' scope s.heap.objs.size s H fp).Ok:={
  mod:=I.ok.mod
  kind:=S.kind
  glob:=I.ok.glob
  blt:=I.ok.blt
  above:=Nat.le_refl _
  inj:=fun x y c e1 e2=>cellsFrom_apart _ _ _ (fun p hp=>Nat.lt_succ_of_lt (hold p.1 p.2 hp)) x y c (PySem.mem_of_lookup e1) (PySem.mem_of_lookup e2) fun x y c h g=>I.ok.inj x y c (hclm x c h) (hclm y c g)
  has:=fun x hx=>by
   have hcf:scope.names.lookup x=some .cell∨scope.names.lookup x=some .free:=by
    rcases hx with hx | hx
    · rcases relabel_cases (env:=X.env) (names:=scope.names) hx with h | ⟨_,h⟩
      · exact .inl h
      · exact .inr h
    · rcases relabel_cases (env:=X.env) (names:=scope.names) hx with h | ⟨h,_⟩
      · exact .inr h
      · cases h
   rcases hcf with h | h
   · obtain ⟨c,hc⟩:=cellsFrom_has scope.names (s.heap.objs.size+1) (closeL X.env scope.names []) x (PySem.mem_of_lookup h)
     exact lookup_mem_some hc
   · obtain ⟨c,hc⟩:=closeL_has (env:=X.env) (cs:=[]) (PySem.mem_of_lookup h)
     exact lookup_mem_some (cellsFrom_acc scope.names (s.heap.objs.size+1) _ _ hc)
  cab:=fun x c h e=>by
   rcases hsp x c e with m | m
   · rcases closeL_free _ _ x c m with z | z
     · cases z
     · have hx:scope.names.lookup x=some .cell:=by simpa using (show (scope.names.lookup x==some NameKind.cell)=true from h)
       have:=uniq_kind S.uniq z (PySem.mem_of_lookup hx)
       cases this
   · exact Nat.le_of_succ_le m.1
  hd:=I.ok.hd
  frames:=I.ok.frames
  stk:=.inl rfl
  exf:=fun b hb=>⟨Nat.ne_of_lt (hlt b hb),fun x c e=>by
   rcases hsp x c e with m | m
   · exact (hf b hb).2.2.2.2.1 x c (hclm x c m)
   · intro z
     have h2:=m.1
     rw [z] at h2
     exact absurd (Nat.lt_of_lt_of_le (hlt b hb) (Nat.le_of_succ_le h2)) (Nat.lt_irrefl _)⟩
  bs:=I.bs
  bsz:=Nat.le_trans I.ok.bsz I.sz
  noex:=fun b o e hb=>by
   rcases (hf b hb).2.2.2.1 with z | z
   · exact I.ok.noex b o e z
   · exact absurd (Nat.lt_of_lt_of_le (Heap.lt_size e) (Nat.le_trans I.ok.bsz z)) (Nat.lt_irrefl _)
  exfs:=fun b hb hz=>by
   rcases List.mem_cons.mp (I.stkSub b hz) with e | e
   · exact (hf b hb).2.1 e
   · exact (hf b hb).2.2.1 e
  funs:=I.stack
  frf:=I.stkFree }
 refine ⟨hok,rfl,I.bare,Un.kept hk,⟨_,(Heap.Ns.new s.heap (.type "dict")).keeps (pushCells_keeps _ _),fun i x v e1 e2 e3=>?_⟩,fun x c e=>?_,I.hok.fresh (Nat.le_refl _),fun x c e=>?_,(fun p hp=>by cases hp),I.hok.kept hk,?_⟩
 · have hi:k≤i:=by
    rcases Nat.lt_or_ge i k with h | h
    · have e2:(startC k idx σ)[i]? = some (some v):=e2
      unfold startC at e2
      rw [List.getElem?_append_left (by simpa using h),List.getElem?_replicate] at e2
      split at e2<;>cases e2
    · exact h
   have e1':(N'.drop k)[i-k]? = some x:=by
    rw [List.getElem?_drop,show k+(i-k)=i by omega];exact e1
   have hfree:=S.free x (List.mem_of_getElem? e1')
   have e2':(idx.map fun i=>(σ[i]?).join)[i-k]? = some (some v):=by
    have e2:(startC k idx σ)[i]? = some (some v):=e2
    unfold startC at e2
    rw [List.getElem?_append_right (by simpa using hi),List.length_replicate] at e2
    exact e2
   rw [List.getElem?_map] at e2'
   cases hj:idx[i-k]? with
   | none=>rw [hj] at e2';cases e2'
   | some j=>
    rw [hj] at e2'
    have e3':(σ[j]?).join=some v:=by simpa using e2'
    have eσ:σ[j]? = some (some v):=by
     cases q:σ[j]? with
     | none=>rw [q] at e3';cases e3'
     | some o=>rw [q] at e3';cases o with
      | none=>cases e3'
      | some z=>cases e3';rfl
    have eN:X.N[j]? = some x:=by
     rw [hNN]
     have:=congrArg (fun l=>l[i-k]?) S.ix
     simp only [List.getElem?_map,e1',hj,Option.map_some] at this
     exact (Option.some.inj this).symm
    have hvk:=S.fr _ (PySem.mem_of_lookup hfree) rfl
    obtain ⟨m,hm,hl⟩:=I.loc
    obtain ⟨u,ru,lk⟩:=hl j x v eN eσ (by rw [hsc];exact .inr hvk)
    refine ⟨u,ru,.inr ⟨relabel_free (env:=X.env) hfree,?_⟩⟩
    rcases lk with ⟨kl,_⟩ | ⟨_,c,ec,z⟩
    · have kl:X.env.scope.names.lookup x=some .local := kl
      rw [hsc] at kl
      rcases hvk with q | q<;>(rw [kl] at q;cases q)
    · obtain ⟨d,hd⟩:=closeL_has (env:=X.env) (cs:=[]) (PySem.mem_of_lookup hfree)
      obtain ⟨d',hd'⟩:=lookup_mem_some (cellsFrom_acc scope.names (s.heap.objs.size+1) _ _ hd)
      have e:d'=c:=by
       rcases hsp x d' hd' with m | m
       · have:=hclm x d' m
         rw [ec] at this
         cases this;rfl
       · have:=uniq_kind S.uniq m.2 (PySem.mem_of_lookup hfree)
         cases this
      subst e
      obtain ⟨o,ho,hod⟩:=z
      exact ⟨d',hd',o,hk d' o ho,hod⟩
 · have e0:s.heap.objs.size+1=(s.heap.push { cls:=.type "dict",data:=.dict #[] }).objs.size:=by rw [Heap.size_push]
   have m:=PySem.mem_of_lookup (show (cellsFrom (s.heap.objs.size+1) scope.names (closeL X.env scope.names [])).lookup x=some c from e)
   rw [e0] at m
   rcases pushCells_cell _ _ _ x c m with m | m
   · obtain ⟨v,o,ho,hod⟩:=I.cell x c (hclm x c m)
     exact ⟨v,o,hk c o ho,hod⟩
   · exact ⟨none,m⟩
 · rcases hsp x c e with m | m
   · exact I.freeC x c (hclm x c m)
   · exact I.hok.fresh (Nat.le_of_succ_le m.1)
 · show (startC k idx σ).length=N'.length
   unfold startC
   rw [S.len,List.length_append,List.length_replicate,List.length_map]
end
section
variable {X:Cx}{tg iter elt:Expr}{ifs:List Expr}{scope sc:Scope}{N N':List Str}{k:Nat}{idx:List Nat}{wi:TI}{g:TG}{tt:TT}{te:TE}{pos:Pos}
theorem comp_blockC {pins:List (Addr×Obj)}{s:Shared}{σ:St}{E:Value→Shared→Prop}{RR:Value→Addr→Result→Shared→Prop}{itv:Value}{Qe:Addr→Hp→Prop}
 (hc:X.calm=true) (S:CompScopeC sc N scope N' k idx) (hsc:X.env.scope=sc) (hNN:X.N=N)
 (hg:∀ C s H fp,PG (cxCompC X N' scope C s H fp) tg g) (ht:∀ C s H fp,PTs (cxCompC X N' scope C s H fp) ifs tt) (he:∀ C s H fp,PE (cxCompC X N' scope C s H fp) elt te)
 (hit:PIE X pins σ tg (fun J H1=>∀ l,H1 l=none→cTurns J g tt te l (startC k idx σ) (upd H1 l (.lst [])) fun H2=>Qe l H2) itv s)
 (hRR:∀ l H2 C s2,Inv X pins σ H2 s2→(∃ m,s2.heap.Ns C m)→Free1 X pins H2 C→Qe l H2→RR (.ref l) C (.ok .next) s2) :
 wpAny (model X.prog X.w) X.A (newList []) (fun acc s₃=>wpAny (model X.prog X.w) X.A (newFunctionEnv scope X.env.globals (closeL X.env scope.names []) [] X.env.qual none .none (some X.env)) (fun cenv s₄=>
  codeAny (model X.prog X.w) X.A (.compStart (.ListComp elt [⟨tg,iter,ifs,0⟩] scope pos) 0 itv acc { cenv with scope:=relabel scope X.env }) (RR acc cenv.locals) s₄) E s₃) E s:=by
 obtain ⟨it,fp,tn,J,H1,rfl,I1,T,st1,f1,q⟩:=hit
 refine wpAny_newObj_type ?_
 have hf0:H1 s.heap.objs.size=none:=I1.hok.fresh (Nat.le_refl _)
 have hflt:∀ b∈fp,b<s.heap.objs.size:=fun b hb=>let ⟨_,e,_⟩:=T.obj _ _ st1 b hb;Heap.lt_size e
 generalize hl:s.heap.objs.size=l at *
 have I2:Inv X pins σ (upd H1 l (.lst [])) { s with heap:=s.heap.push { cls:=.type "list",dict:=none,data:=.seq ([]:List Value).toArray } }:=
  I1.laid (t':=s.toks) (fun b u e=>Heap.get?_push_of_some _ e) (Nat.le_of_eq hl) (show ObjOk _ _ _ _ l (.lst []) from ⟨Nat.zero_le _,[],0,.nil,by rw [← hl];exact Heap.get?_push_size _ rfl⟩)
 have st2:tn 0 (s.heap.push { cls:=.type "list",dict:=none,data:=.seq ([]:List Value).toArray }):=T.keep _ _ _ st1 fun b _ o e=>Heap.get?_push_of_some _ e
 have f2:∀ b∈fp,FpOk X pins (upd H1 l (.lst [])) b:=fun b hb=>⟨by rw [upd_ne (Nat.ne_of_lt (hflt b hb))];exact (f1 b hb).1,(f1 b hb).2⟩
 have hsz2:(s.heap.push { cls:=.type "list",dict:=none,data:=.seq ([]:List Value).toArray }).objs.size=l+1:=by rw [Heap.size_push,hl]
 have q2:=q l hf0
 generalize hs2:({ s with heap:=s.heap.push { cls:=.type "list",dict:=none,data:=.seq ([]:List Value).toArray } }:Shared)=s2 at I2 ⊢
 have st2:tn 0 s2.heap:=by rw [← hs2];exact st2
 have hsz2:s2.heap.objs.size=l+1:=by rw [← hs2];exact hsz2
 refine newEnv_cells ?_
 have hk1:∀ b o,s2.heap.get? b=some o→(pushCells (s2.heap.push { cls:=.type "dict",data:=.dict #[] }) scope.names).get? b=some o:=fun b o e=>pushCells_keeps _ _ b o (Heap.get?_push_of_some _ e)
 have hlt2:∀ b∈fp,b<s2.heap.objs.size:=fun b hb=>by rw [hsz2];exact Nat.lt_succ_of_lt (hflt b hb)
 have I3:=comp_startC (t':=s2.toks) I2 S hsc hNN f2 hlt2
 generalize pushCells (s2.heap.push { cls:=.type "dict",data:=.dict #[] }) scope.names=h₁ at *
 generalize hC:s2.heap.objs.size=C at *
 have st3:tn 0 h₁:=T.keep _ _ _ st2 fun b _ o e=>hk1 b o e
 obtain ⟨W,⟨m0,w0⟩,turn⟩:=q2
 -- back to the frame around
 have back:∀ {σ':St} {H':Hp} {s':Shared},Inv (cxCompC X N' scope C s2 (upd H1 l (.lst [])) fp) [] σ' H' s'→Inv X pins σ H' s':=fun {σ' H' s'} I'=>
  I2.call' I'.os I'.base I'.hok I'.bare fun b hb=>⟨(f2 b hb).2.2.2.1,(f2 b hb).2.1,(f2 b hb).2.2.2.2.1,(f2 b hb).2.2.2.2.2⟩
 have loop:∀ s₃:Shared,s₃ = { s2 with heap:=h₁,toks:=s2.toks } →
  codeAny (model X.prog X.w) X.A (.compLoop (.ListComp elt [⟨tg,iter,ifs,0⟩] scope pos) 0 (.ref it) (.ref l) (compEnvC scope (cellsFrom (C+1) scope.names (closeL X.env scope.names [])) C X.env)) (RR (.ref l) C) s₃:=by
  rintro s₃ rfl
  refine compLoop_go (fun n s'=>∃ i σ' H',Inv (cxCompC X N' scope C s2 (upd H1 l (.lst [])) fp) [] σ' H' s'∧tn i s'.heap∧(∀ b∈fp,H' b=none)∧W i n σ' H') ?_ m0 ⟨0,_,_,I3,st3,fun b hb=>(f2 b hb).1,w0⟩
  rintro n s4 ⟨i,σ4,H4,I4,st4,fr4,w4⟩
  have stat:∀ {H':Hp},(∀ b∈fp,H' b=none)→∀ b∈fp,FpOk (cxCompC X N' scope C s2 (upd H1 l (.lst [])) fp) [] H' b:=fun {H'} hn b hb=>
   ⟨hn b hb,(I4.ok.exf b hb).1,I4.ok.exfs b hb,.inl hb,(I4.ok.exf b hb).2,fun p hp=>by cases hp⟩
  rcases turn i n σ4 H4 w4 with ⟨stop,qn⟩ | ⟨go,step⟩
  · refine thn (T.done (cxCompC X N' scope C s2 (upd H1 l (.lst [])) fp) rfl rfl rfl hc i [] s4 σ4 H4 NoE I4 (stat fr4) st4 stop) fun r s5 ⟨hr,I5⟩=>?_
    subst hr
    have IX:=back I5
    have hCl:C≠X.env.locals:=fun e=>by
     have:=I2.lt
     rw [hC,← e] at this
     exact Nat.lt_irrefl _ this
    have hCc:∀ x c,X.env.cells.lookup x=some c→c≠C:=fun x c e z=>by
     obtain ⟨v,o,ho,_⟩:=I2.cell x c e
     have:=Heap.lt_size ho
     rw [hC,z] at this
     exact Nat.lt_irrefl _ this
    obtain ⟨m5,hm5,_⟩:=I5.loc
    refine hRR l H4 C s5 IX ⟨m5,hm5⟩ ⟨hCl,hCc,I5.free,by rw [← hC];exact I2.sz,fun p hp z=>?_⟩ qn
    obtain ⟨e,_⟩:=I2.pin p hp
    have:=Heap.lt_size e
    rw [hC,z] at this
    exact Nat.lt_irrefl _ this
  · refine thn (T.item (cxCompC X N' scope C s2 (upd H1 l (.lst [])) fp) rfl rfl rfl hc i [] s4 σ4 H4 NoE I4 (stat fr4) st4 go) fun r s5 ⟨u,hr,h5⟩=>?_
    subst hr
    refine thn h5 fun _ s6 ⟨x,H6,I6,r6,y6,st6,fr6⟩=>?_
    have I6':=I6.pinned (stat fr6) (T.obj _ _ st6)
    have keepT:∀ {σ7:St} {H7:Hp} {s7:Shared},Inv (cxCompC X N' scope C s2 (upd H1 l (.lst [])) fp) ([]++pinsAt fp s6.heap) σ7 H7 s7→tn (i+1) s7.heap∧∀ b∈fp,H7 b=none:=fun {σ7 H7 s7} I7=>
     ⟨T.keep _ _ _ st6 fun b hb o e=>(I7.pin (b,o) (List.mem_append_right _ (List.mem_append_right _ (mem_pinsAt hb e)))).1,fun b hb=>by
      obtain ⟨o,e,d⟩:=T.obj _ _ st6 b hb
      exact (I7.pin (b,o) (List.mem_append_right _ (List.mem_append_right _ (mem_pinsAt hb e)))).2.1⟩
    refine thn (hg C s2 (upd H1 l (.lst [])) fp _ s6 σ4 H6 x u _ I6' r6 (step x H6 y6)) fun _ s7 ⟨σ7,H7,I7,q7⟩=>?_
    refine thn (ht C s2 (upd H1 l (.lst [])) fp _ s7 σ7 H7 _ I7 q7) fun ok s8 ⟨H8,I8,q8⟩=>?_
    cases ok with
    | false=>
     rw [if_neg (by decide)] at q8 ⊢
     obtain ⟨m',hm,w8⟩:=q8
     have kt:=keepT I8
     exact ⟨m',hm,i+1,σ7,H8,I8.unpinned,kt.1,kt.2,w8⟩
    | true=>
     rw [if_pos rfl] at q8 ⊢
     refine thn (he C s2 (upd H1 l (.lst [])) fp _ s8 σ7 H8 _ I8 q8) fun v s9 ⟨y,H9,I9,r9,xs,e9,z9,m',hm,w9⟩=>?_
     refine thn (mt_append _ s9 σ7 H9 (.ref l) [y] (.ref l) [v] (fun z H10=>z = .non∧H10=upd H9 l (.lst (xs++[y]))) I9 rfl (.cons r9 .nil) ⟨l,xs,y,rfl,rfl,e9,z9,rfl,rfl⟩) fun _ s10 ⟨z,H10,I10,_,_,e10⟩=>?_
     subst e10
     have kt:=keepT I10
     exact ⟨m',hm,i+1,σ7,_,I10.unpinned,kt.1,kt.2,w9⟩
 have e2:(newEnv scope C X.env.globals (cellsFrom (C+1) scope.names (closeL X.env scope.names [])) X.env.qual none .none (some X.env) builtinsNs).locals=C:=rfl
 show codeAny _ _ (.compStart _ 0 (.ref it) (.ref l) (compEnvC scope (cellsFrom (C+1) scope.names (closeL X.env scope.names [])) C X.env)) (RR (.ref l) C) _
 exact codeAny_compStart_list (loop _ rfl) (T.self _ 0 _ _ _ st3 (loop _ rfl))
theorem ps_setcompC {i:Nat}{y:Str}{py spos:Pos}(hc:X.calm=true) (hN:X.N.Nodup) (hiN:X.N[i]? = some y) (hy:X.env.scope.names.lookup y=some .local) (S:CompScopeC sc N scope N' k idx) (hsc:X.env.scope=sc) (hNN:X.N=N) (hi:PI X tg iter wi)
 (hg:∀ C s H fp,PG (cxCompC X N' scope C s H fp) tg g) (ht:∀ C s H fp,PTs (cxCompC X N' scope C s H fp) ifs tt) (he:∀ C s H fp,PE (cxCompC X N' scope C s H fp) elt te)
 (hsw:swapsWith (.ListComp elt [⟨tg,iter,ifs,0⟩] scope pos) (some (.Name y py)) spos.line X.env=pure true:=by rfl)
 (hs:∀ x,foldedSetIterable iter X.env x=pure x:=by intro _;rfl):PS X (.Assign [.Name y py] (.ListComp elt [⟨tg,iter,ifs,0⟩] scope pos) spos) (tSetComp i wi k idx g tt te):=by
 intro pins s σ H D I h
 rw [exec_Assign_Name_used _ _ _ _ hsw]
 refine wpAny_bind (wpAny_standAt (wpAny_bind ?_))
 show wpAny _ X.A (do let _ ← comprehension (.ListComp elt [⟨tg,iter,ifs,0⟩] scope pos) scope X.env _ (newList []) false (eval iter X.env) (some (assign (.Name y py) X.env))) _ _ s
 have hclos:closureFor scope X.env=pure (closeL X.env scope.names []):=closureFor_eq fun x hx hfree=>I.ok.has x.1 (by
  show X.env.scope.names.lookup x.1=_∨X.env.scope.names.lookup x.1=_
  rw [hsc];exact S.fr x hx hfree)
 refine wpAny_bind (wpAny_mono (wpAny_comprehension_free (use:=some (assign (.Name y py) X.env)) (Q:=fun _ s'=>SP X pins D .next s') rfl hs hclos S.kind S.loc (thn (hi pins s σ H _ I h) fun v s1 h1=>thn h1 fun itv s2 h2=>?_))
  (fun _ s' hq=>wpAny_pure (wpAny_pure hq)) fun _ _ e=>e)
 refine comp_blockC (RR:=fun acc C=>compPost (model X.prog X.w) X.A X.xe (some (assign (.Name y py) X.env)) (fun _ s'=>SP X pins D .next s') acc C) (Qe:=fun l H2=>D.nx (σ.set i (some (.ref l))) H2) hc S hsc hNN hg ht he h2 ?_
 intro l H2 C s2 I2 hm f q
 obtain ⟨m,hm⟩:=hm
 show wpAny _ X.A (assign (.Name y py) X.env (.ref l)) _ _ _
 refine wpAny_assign_Name (store_ok2 (v:=.ref l) I2 hN hiN (.inl hy) rfl (fun s' I' hch=>?_) (.inr hy))
 obtain ⟨a,hsb,ha⟩:=hch
 have haC:C≠a:=fun z=>by
  rcases ha with e | e
  · exact f.loc (z.trans e)
  · exact f.cel y a e z.symm
 exact ⟨m,hm.sameBut hsb haC,fun h' hs'=>⟨_,H2,I'.freed f hs',q⟩⟩
end
noncomputable def relS (scope osc:Scope):Scope:={ scope with names:=scope.names.map fun (n,k)=>if (k==NameKind.free&&osc.kind == .function&&osc.names.lookup n==some .cell) then (n,NameKind.cell) else (n,k) }
theorem hscC {X:Cx}{N':List Str}{scope osc:Scope}{C:Addr}{s:Shared}{H:Hp}{fp:List Addr}(h:X.env.scope=osc):(cxCompC X N' scope C s H fp).env.scope=relS scope osc:=by
 subst h;rfl
end L2
namespace My
open PySem PySem.Spec PyProof.Rows L2
inductive Vl where
 | jnk | jar | tape | d (x:PyData) | own (xs:List PyData) | dct (kvs:List (Key×PyData)) | own2 (ks:Option (List Key)) (ps:List (Addr×List PyData)) | pin (v:V) (x:PyData)
structure Src where
 jv:V
 ch:List Addr
 inv:Nat→Hp→Prop
 keep:∀ {n:Nat} {H H':Hp},inv n H→(∀ b∈ch,∀ o,H b=some o→H' b=some o)→inv n H'
 dom:∀ {n:Nat} {H:Hp},inv n H→∀ b∈ch,H b≠none
noncomputable def JarN (H:Hp) (p c:Addr) (n:Nat):Prop:=∃ e,JarE H p c e∧(n=0∨e=some (n:Int))
theorem JarN.jar {H:Hp}{p c:Addr}{n:Nat}(J:JarN H p c n):Jar H p c:=J.choose_spec.1.jar
theorem jar_dom {H:Hp}{p c:Addr}{n:Nat}(J:JarN H p c n):∀ b∈[p,c],H b≠none:=fun b hb z=>J.jar.fresh z hb
theorem jar_keep {H H':Hp}{p c:Addr}{n:Nat}(J:JarN H p c n) (h:∀ b∈[p,c],∀ o,H b=some o→H' b=some o):JarN H' p c n:=by
 obtain ⟨e,⟨ns,r,s,t,X,h3⟩,hn⟩:=J
 exact ⟨e,⟨ns,r,s,t,⟨h _ (by simp) _ X.d,h _ (by simp) _ X.l⟩,h3⟩,hn⟩
noncomputable def Src.jar (p c:Addr):Src:=⟨.ref p,[p,c],fun n H=>JarN H p c n,fun J h=>jar_keep J h,fun J=>jar_dom J⟩
theorem tape_keep {H H':Hp}{p c:Addr}{n:Nat}(J:Tape H p c n) (h:∀ b∈[p,c],∀ o,H b=some o→H' b=some o):Tape H' p c n:=by
 obtain ⟨ns,a,g,h1,h2,h3⟩:=J.ex
 exact ⟨ns,a,g,h _ (by simp) _ h1,h _ (by simp) _ h2,h3⟩
noncomputable def Src.tape (p c:Addr):Src:=⟨.ref p,[p,c],fun n H=>Tape H p c n,fun J h=>tape_keep J h,fun J b hb z=>J.fresh z hb⟩
noncomputable def Step (S:Src) (n':Nat) (H H':Hp):Prop:=Kp S.ch H H'∧S.inv n' H'
section
variable {S:Src}{n m:Nat}{H H1 H2 H':Hp}{ex:List Addr}
theorem Step.refl (h:S.inv n H):Step S n H H:=⟨.refl,h⟩
theorem Step.trans (a:Step S n H H1) (b:Step S m H1 H2):Step S m H H2:=⟨a.1.trans b.1,b.2⟩
theorem Step.new (h:S.inv n H) (k:Kp [] H H'):Step S n H H':=⟨k.of,S.keep h fun b _ o e=>k b o e (by simp)⟩
theorem Step.then (a:Step S n H H1) (k:Kp [] H1 H2):Step S n H H2:=a.trans (.new a.2 k)
theorem Step.free {p:Addr}(a:Step S n H H1) (h:H1 p=none):H p=none:=by
 cases e:H p with
 | none=>rfl
 | some o=>
  by_cases hp:p∈S.ch
  · exact absurd h (S.dom a.2 p hp)
  · rw [a.1 p o e hp] at h;cases h
noncomputable def Alc (ex:List Addr) (H:Hp):Prop:=∀ a∈ex,H a≠none
theorem Alc.nm {p:Addr}(h:Alc ex H) (e:H p=none):p∉ex:=fun z=>h p z e
theorem Alc.step (h:Alc ex H) (k:Step S n H H'):Alc ex H':=fun a ha z=>h a ha (k.free z)
mutual
theorem Rep.add {l:Addr}(h:H l=none):∀ {d:PyData}{v:V},Rep ex H d v→Rep (l::ex) H d v
 | _,_,.none=>.none
 | _,_,.bool b=>.bool b
 | _,_,.int i=>.int i
 | _,_,.str x=>.str x
 | _,_,.tuple e n z r=>.tuple e (fun q=>(List.mem_cons.mp q).elim (fun q=>by rw [q,h] at e;cases e) n) z (Reps.add h r)
 | _,_,.list e n z r=>.list e (fun q=>(List.mem_cons.mp q).elim (fun q=>by rw [q,h] at e;cases e) n) z (Reps.add h r)
 | _,_,.obj e n k r=>.obj e (fun q=>(List.mem_cons.mp q).elim (fun q=>by rw [q,h] at e;cases e) n) k (Reps.add h r)
 | _,_,.dctf e n k r=>.dctf e (fun q=>(List.mem_cons.mp q).elim (fun q=>by rw [q,h] at e;cases e) n) k (Reps.add h r)
theorem Reps.add {l:Addr}(h:H l=none):∀ {ds:List PyData}{vs:List V},Reps ex H ds vs→Reps (l::ex) H ds vs
 | _,_,.nil=>.nil
 | _,_,.cons r t=>.cons (Rep.add h r) (Reps.add h t)
end
theorem Reps.sub {l:Addr}{d:List PyData}{v:List V}(r:Reps (l::ex) H d v):Reps ex H d v:=Reps.mono (fun b hb=>List.mem_cons_of_mem _ hb) r
end
noncomputable def exm (m:Bool) (S:Src) (ex:List Addr):List Addr:=match m with | true=>ex | false=>S.ch
noncomputable def KvR (ex:List Addr) (H:Hp) (kvs:List (Key×PyData)) (kws:List (Key×V)):Prop:=kws.map (·.1)=kvs.map (·.1)∧Reps ex H (kvs.map (·.2)) (kws.map (·.2))
noncomputable def nestO (ks:Option (List Key)) (rs:List V):HO:=match ks with
 | none=>.lst rs
 | some ks=>.dK (ks.zip rs)
structure In2 (S:Src) (ex:List Addr) (H:Hp) (p:Addr×List PyData):Prop where
 m:p.1∈ex
 c:p.1∉S.ch
 h:∃ vs,H p.1=some (.lst vs)∧vs.length≤sizeLine∧Reps ex H p.2 vs
noncomputable def refs (ps:List (Addr×List PyData)):List V:=ps.map fun p=>.ref p.1
structure Own2 (S:Src) (ex:List Addr) (H:Hp) (ks:Option (List Key)) (ps:List (Addr×List PyData)) (a:Addr):Prop where
 h:H a=some (nestO ks (refs ps))
 z:ps.length≤1000000
 k:∀ l,ks=some l→l.length=ps.length
 nd:(a::ps.map (·.1)).Nodup
 m:a∈ex
 c:a∉S.ch
 i:∀ p∈ps,In2 S ex H p
noncomputable def SlR (S:Src) (ex:List Addr) (H:Hp):Vl→Option V→Prop
 | .jnk,_=>True
 | .jar,o=>∃ p c,S=Src.jar p c∧o=some (.ref p)
 | .tape,o=>∃ p c,S=Src.tape p c∧o=some (.ref p)
 | .d x,o=>∃ v,o=some v∧Rep ex H x v
 | .own xs,o=>∃ a vs,o=some (.ref a)∧H a=some (.lst vs)∧vs.length≤sizeLine∧Reps ex H xs vs∧a∈ex∧a∉S.ch
 | .dct kvs,o=>∃ a kws,o=some (.ref a)∧H a=some (.dK kws)∧KvR ex H kvs kws∧a∈ex∧a∉S.ch
 | .own2 ks ps,o=>∃ a,o=some (.ref a)∧Own2 S ex H ks ps a
 | .pin v x,o=>o=some v∧Rep ex H x v
structure Ev (S:Src) (ex:List Addr) (env:List Vl) (σ:L2.St) (H:Hp) (n:Nat):Prop where
 len:env.length≤σ.length
 sl:∀ (i:Nat) (w:Vl),env[i]? = some w→SlR S ex H w (σ[i]?).join
 ch:∀ a∈S.ch,a∈ex
 al:Alc ex H
 inv:S.inv n H
section
variable {S:Src}{n m:Nat}{H H1 H2 H':Hp}{ex:List Addr}{env:List Vl}{σ:L2.St}
theorem SlR.kp {w:Vl}{o:Option V}(hc:∀ a∈S.ch,a∈ex) (k:Kp S.ch H H') (h:SlR S ex H w o):SlR S ex H' w o:=by
 have kx:Kp ex H H':=k.mono hc
 cases w with
 | jnk=>trivial
 | jar=>exact h
 | tape=>exact h
 | d x=>obtain ⟨v,e,r⟩:=h;exact ⟨v,e,r.keep kx⟩
 | pin v x=>obtain ⟨e,r⟩:=h;exact ⟨e,r.keep kx⟩
 | own xs=>obtain ⟨a,vs,e,h1,h2,h3,h4,h5⟩:=h;exact ⟨a,vs,e,k _ _ h1 h5,h2,h3.keep kx,h4,h5⟩
 | dct kvs=>obtain ⟨a,kws,e,h1,⟨h2,h3⟩,h4,h5⟩:=h;exact ⟨a,kws,e,k _ _ h1 h5,⟨h2,h3.keep kx⟩,h4,h5⟩
 | own2 ks ps=>obtain ⟨a,e,q⟩:=h;exact ⟨a,e,k _ _ q.h q.c,q.z,q.k,q.nd,q.m,q.c,fun p hp=>let w:=q.i p hp;⟨w.m,w.c,let ⟨vs,h1,h2,h3⟩:=w.h;⟨vs,k _ _ h1 w.c,h2,h3.keep kx⟩⟩⟩
theorem Ev.step (E:Ev S ex env σ H n) (k:Step S m H H'):Ev S ex env σ H' m:=⟨E.len,fun i w e=>(E.sl i w e).kp E.ch k.1,E.ch,E.al.step k,k.2⟩
theorem Ev.rep (E:Ev S ex env σ H n) (k:Step S m H H') {d:PyData}{v:V}(r:Rep ex H d v):Rep ex H' d v:=r.keep (k.1.mono E.ch)
theorem Ev.reps (E:Ev S ex env σ H n) (k:Step S m H H') {d:List PyData}{v:List V}(r:Reps ex H d v):Reps ex H' d v:=r.keep (k.1.mono E.ch)
theorem Ev.sub (E:Ev S ex env σ H n) (b:Bool):∀ a∈exm b S ex,a∈ex:=by
 cases b with
 | true=>exact fun a h=>h
 | false=>exact E.ch
theorem Ev.sup (E:Ev S ex env σ H n) (b:Bool):∀ a∈S.ch,a∈exm b S ex:=by
 cases b with
 | true=>exact E.ch
 | false=>exact fun a h=>h
theorem Ev.alm (E:Ev S ex env σ H n) (b:Bool):Alc (exm b S ex) H:=fun a h=>E.al a (E.sub b a h)
theorem Ev.repm (E:Ev S ex env σ H n) (b:Bool) (k:Step S m H H') {d:PyData}{v:V}(r:Rep (exm b S ex) H d v):Rep (exm b S ex) H' d v:=r.keep (k.1.mono (E.sup b))
theorem Rep.nil {d:PyData}{v:V}(r:Rep ex H d v):Rep [] H d v:=Rep.mono (fun b hb=>by cases hb) r
theorem Reps.nil' {d:List PyData}{v:List V}(r:Reps ex H d v):Reps [] H d v:=Reps.mono (fun b hb=>by cases hb) r
theorem join_some {i:Nat}{v:V}(h:(σ[i]?).join=some v):σ[i]? = some (some v):=by
 cases e:σ[i]? with
 | none=>rw [e] at h;cases h
 | some o=>rw [e] at h;cases o with
  | none=>cases h
  | some u=>cases h;rfl
end
noncomputable abbrev GE:=List Vl→Nat→(PyData→Nat→Prop)→Prop
noncomputable abbrev GT:=List Vl→Nat→(Bool→Nat→Prop)→Prop
noncomputable abbrev GA:=List Vl→Nat→(List Vl→Nat→Prop)→Prop
noncomputable abbrev GN:=List Vl→Nat→(List PyData→Nat→Prop)→Prop
noncomputable abbrev GSp:=List Vl→Nat→(PyData→Nat→Prop)→Prop
noncomputable abbrev GSn:=List Vl→Nat→(List PyData→Nat→Prop)→Prop
noncomputable def ArgsR (S:Src) (ex:List Addr) (H:Hp):List Vl→List V→Prop
 | [],[]=>True
 | a::as,v::vs=>SlR S ex H a (some v)∧ArgsR S ex H as vs
 | _,_=>False
class EV (m:Bool) (te:TE) (g:outParam GE):Prop where
 ev:∀ {S:Src} {ex:List Addr} {env:List Vl} {σ:L2.St} {H:Hp} {n:Nat} {Q:VK} {P:PyData→Nat→Prop},Ev S ex env σ H n→g env n P→(∀ d n' v H',P d n'→Step S n' H H'→Rep (exm m S ex) H' d v→Q v H')→te σ H Q
class NV (te:TE) (g:outParam GN):Prop where
 nv:∀ {S:Src} {ex:List Addr} {env:List Vl} {σ:L2.St} {H:Hp} {n:Nat} {Q:VK} {P:List PyData→Nat→Prop},Ev S ex env σ H n→g env n P→(∀ ds n' a vs H',P ds n'→Step S n' H H'→H a=none→H' a=some (.lst vs)→vs.length≤sizeLine→Reps (a::ex) H' ds vs→Q (.ref a) H')→te σ H Q
class TV (tt:TT) (g:outParam GT):Prop where
 tv:∀ {S:Src} {ex:List Addr} {env:List Vl} {σ:L2.St} {H:Hp} {n:Nat} {Q:Bool→Hp→Prop} {P:Bool→Nat→Prop},Ev S ex env σ H n→g env n P→(∀ b n' H',P b n'→Step S n' H H'→Q b H')→tt σ H Q
class AV (m:Bool) (ta:TA) (g:outParam GA):Prop where
 av:∀ {S:Src} {ex:List Addr} {env:List Vl} {σ:L2.St} {H:Hp} {n:Nat} {Q:List V→Hp→Prop} {P:List Vl→Nat→Prop},Ev S ex env σ H n→g env n P→(∀ as n' vs H',P as n'→Step S n' H H'→ArgsR S (exm m S ex) H' as vs→Q vs H')→ta σ H Q
class DV (m:Bool) (ta:TA) (g:outParam GN):Prop where
 dv:∀ {S:Src} {ex:List Addr} {env:List Vl} {σ:L2.St} {H:Hp} {n:Nat} {Q:List V→Hp→Prop} {P:List PyData→Nat→Prop},Ev S ex env σ H n→g env n P→(∀ ds n' vs H',P ds n'→Step S n' H H'→Reps (exm m S ex) H' ds vs→Q vs H')→ta σ H Q
noncomputable abbrev G2:=PyData→PyData→(PyData→Prop)→Prop
class OV (r:R2) (f:outParam G2):Prop where
 ov:∀ {ex:List Addr} {H:Hp} {x y:V} {dx dy:PyData} {Q:VK} {P:PyData→Prop},Alc ex H→Rep ex H dx x→Rep ex H dy y→f dx dy P→(∀ d v H',P d→Kp [] H H'→Rep ex H' d v→Q v H')→r x y H Q
class OS (r:R2) (f:outParam G2):Prop where
 os:∀ {H:Hp} {x y:V} {dx dy:PyData} {Q:VK} {P:PyData→Prop},Rep [] H dx x→Rep [] H dy y→f dx dy P→(∀ d v,P d→(∀ ex,Rep ex H d v)→Q v H)→r x y H Q
class ON (r:R2) (f:outParam (PyData→PyData→(List PyData→Prop)→Prop)):Prop where
 on:∀ {ex:List Addr} {H:Hp} {x y:V} {dx dy:PyData} {Q:VK} {P:List PyData→Prop},Rep ex H dx x→Rep ex H dy y→f dx dy P→(∀ ds p vs,P ds→H p=none→vs.length≤sizeLine→Reps ex H ds vs→Q (.ref p) (upd H p (.lst vs)))→r x y H Q
noncomputable abbrev G1:=List PyData→(PyData→Prop)→Prop
class CS (r:List V→Hp→VK→Prop) (f:outParam G1):Prop where
 cs:∀ {H:Hp} {xs:List V} {ds:List PyData} {Q:VK} {P:PyData→Prop},Reps [] H ds xs→f ds P→(∀ d v,P d→(∀ ex,Rep ex H d v)→Q v H)→r xs H Q
class CO (r:List V→Hp→VK→Prop) (f:outParam G1):Prop where
 co:∀ {ex:List Addr} {H:Hp} {xs:List V} {ds:List PyData} {Q:VK} {P:PyData→Prop},Alc ex H→Reps ex H ds xs→f ds P→(∀ d v H',P d→Kp [] H H'→Rep ex H' d v→Q v H')→r xs H Q
class CN (r:List V→Hp→VK→Prop) (f:outParam (List PyData→(List PyData→Prop)→Prop)):Prop where
 cn:∀ {ex:List Addr} {H:Hp} {xs:List V} {ds:List PyData} {Q:VK} {P:List PyData→Prop},Reps ex H ds xs→f ds P→(∀ es p vs,P es→H p=none→vs.length≤sizeLine→Reps ex H es vs→Q (.ref p) (upd H p (.lst vs)))→r xs H Q
noncomputable abbrev gVar (i:Nat):GE:=fun env n Q=>match env[i]? with
 | some (.d x)=>Q x n
 | some (.pin _ x)=>Q x n
 | _=>False
noncomputable abbrev gLook (i:Nat):GE:=fun env n Q=>match env[i]? with
 | some (.d x)=>Q x n
 | some (.pin _ x)=>Q x n
 | some (.own xs)=>Q (.list xs) n
 | some (.own2 none ps)=>Q (.list (ps.map fun p=>.list p.2)) n
 | _=>False
theorem own2_reps {S:Src}{ex:List Addr}{H:Hp}:∀ {ps:List (Addr×List PyData)},(∀ a∈S.ch,a∈ex)→(∀ p∈ps,In2 S ex H p)→Reps S.ch H (ps.map fun p=>PyData.list p.2) (refs ps)
 | [],_,_=>.nil
 | p::ps,hc,h=>by
  have w:=h p List.mem_cons_self
  obtain ⟨vs,h1,h2,h3⟩:=w.h
  exact .cons (.list h1 w.c h2 (Reps.mono hc h3)) (own2_reps hc fun q hq=>h q (List.mem_cons_of_mem _ hq))
noncomputable abbrev gC (d:PyData):GE:=fun _ n Q=>Q d n
section
variable {S:Src}{n m:Nat}{H H1 H2 H':Hp}{ex:List Addr}{env:List Vl}{σ:L2.St}{b:Bool}{te ta tb tc:TE}{g ga gb gc:GE}
noncomputable instance ev_var {i:Nat}:EV true (tVar i) (gVar i):=⟨fun {S ex env σ H n Q P} E h k=>by
 unfold gVar at h
 split at h
 · rename_i x e
   obtain ⟨v,ev,r⟩:=E.sl i _ e
   exact ⟨v,join_some ev,k _ _ v H h (.refl E.inv) r⟩
 · rename_i v x e
   obtain ⟨ev,r⟩:=E.sl i _ e
   exact ⟨v,join_some ev,k _ _ v H h (.refl E.inv) r⟩
 · exact h.elim⟩
noncomputable instance pv_var {i:Nat}:EV false (tVar i) (gLook i):=⟨fun {S ex env σ H n Q P} E h k=>by
 unfold gLook at h
 split at h
 · rename_i x e
   obtain ⟨v,ev,r⟩:=E.sl i _ e
   exact ⟨v,join_some ev,k _ _ v H h (.refl E.inv) (Rep.mono E.ch r)⟩
 · rename_i v x e
   obtain ⟨ev,r⟩:=E.sl i _ e
   exact ⟨v,join_some ev,k _ _ v H h (.refl E.inv) (Rep.mono E.ch r)⟩
 · rename_i xs e
   obtain ⟨a,vs,ev,h1,h2,h3,h4,h5⟩:=E.sl i _ e
   exact ⟨_,join_some ev,k _ _ _ H h (.refl E.inv) (.list h1 h5 h2 (Reps.mono E.ch h3))⟩
 · rename_i ps e
   obtain ⟨a,ev,q⟩:=E.sl i _ e
   have hs:sizeLine=16777216:=sizeLine_eq
   exact ⟨_,join_some ev,k _ _ _ H h (.refl E.inv) (.list q.h q.c (by unfold refs;rw [List.length_map];have:=q.z;omega) (own2_reps E.ch q.i))⟩
 · exact h.elim⟩
noncomputable instance ev_int {i:Int}:EV b (tC (.int i)) (gC (.int i)):=⟨fun E h k=>k _ _ _ _ h (.refl E.inv) (.int i)⟩
noncomputable instance ev_bl {i:Bool}:EV b (tC (.bl i)) (gC (.bool i)):=⟨fun E h k=>k _ _ _ _ h (.refl E.inv) (.bool i)⟩
noncomputable instance ev_non:EV b (tC .non) (gC .none):=⟨fun E h k=>k _ _ _ _ h (.refl E.inv) .none⟩
noncomputable abbrev gOp (f:G2) (ga gb:GE):GE:=fun env n Q=>ga env n fun x n1=>gb env n1 fun y n2=>f x y fun d=>Q d n2
noncomputable instance ev_opS {r:R2}{f:G2} [O:OS r f] [A:EV false ta ga] [B:EV false tb gb]:EV b (tOp r ta tb) (gOp f ga gb):=⟨fun {S ex env σ H n Q P} E h k=>by
 refine A.ev E h fun x n1 v1 H1 h1 s1 r1=>B.ev (E.step s1) h1 fun y n2 v2 H2 h2 s2 r2=>?_
 exact O.os (Rep.nil ((E.step s1).repm false s2 r1)) (Rep.nil r2) h2 fun d v p r=>k _ _ _ _ p (s1.trans s2) (r _)⟩
noncomputable instance (priority:=low) ev_op {r:R2}{f:G2} [O:OV r f] [A:EV b ta ga] [B:EV b tb gb]:EV b (tOp r ta tb) (gOp f ga gb):=⟨fun {S ex env σ H n Q P} E h k=>by
 refine A.ev E h fun x n1 v1 H1 h1 s1 r1=>B.ev (E.step s1) h1 fun y n2 v2 H2 h2 s2 r2=>?_
 exact O.ov ((E.step (s1.trans s2)).alm b) ((E.step s1).repm b s2 r1) r2 h2 fun d v H' p kp r=>k _ _ _ _ p ((s1.trans s2).then kp) r⟩
noncomputable abbrev gNew (g:GN):GE:=fun env n Q=>g env n fun ds n'=>Q (.list ds) n'
noncomputable instance (priority:=low) ev_nv {g:GN} [N:NV te g]:EV b te (gNew g):=⟨fun {S ex env σ H n Q P} E h k=>
 N.nv E h fun ds n' a vs H' p st ha hl hz r=>k _ _ _ _ p st (.list hl (fun z=>E.alm b a z ha) hz (Reps.mono (fun c hc=>List.mem_cons_of_mem _ (E.sub b c hc)) r))⟩
noncomputable abbrev gOpN (f:PyData→PyData→(List PyData→Prop)→Prop) (ga gb:GE):GN:=fun env n Q=>ga env n fun x n1=>gb env n1 fun y n2=>f x y fun d=>Q d n2
theorem nv_close {S:Src}{ex:List Addr}{env:List Vl}{σ:L2.St}{H H1:Hp}{n n1:Nat}{p:Addr}{vs:List V}{ds:List PyData}(E:Ev S ex env σ H n) (s:Step S n1 H H1) (hp:H1 p=none) (r:Reps ex H1 ds vs) :
 Step S n1 H (upd H1 p (.lst vs))∧H p=none∧Reps (p::ex) (upd H1 p (.lst vs)) ds vs:=
 ⟨s.then (Kp.new hp _),s.free hp,(Reps.add hp r).keep (Kp.new hp _)⟩
noncomputable instance nv_op {r:R2}{f:PyData→PyData→(List PyData→Prop)→Prop} [O:ON r f] [A:EV true ta ga] [B:EV true tb gb]:NV (tOp r ta tb) (gOpN f ga gb):=⟨fun {S ex env σ H n Q P} E h k=>by
 refine A.ev E h fun x n1 v1 H1 h1 s1 r1=>B.ev (E.step s1) h1 fun y n2 v2 H2 h2 s2 r2=>?_
 refine O.on ((E.step s1).repm true s2 r1) r2 h2 fun ds p vs pp hp hz r=>?_
 obtain ⟨c1,c2,c3⟩:=nv_close E (s1.trans s2) hp r
 exact k _ _ _ _ _ pp c1 c2 upd_same hz c3⟩
noncomputable abbrev gNilA:GA:=fun _ n Q=>Q [] n
noncomputable abbrev gArg (i:Nat) (rest:GA):GA:=fun env n Q=>match env[i]? with
 | some (.d x)=>rest env n fun as n'=>Q (.d x::as) n'
 | some .jar=>rest env n fun as n'=>Q (.jar::as) n'
 | some .tape=>rest env n fun as n'=>Q (.tape::as) n'
 | _=>False
noncomputable abbrev gArgL (i:Nat) (rest:GA):GA:=fun env n Q=>match env[i]? with
 | some (.d x)=>rest env n fun as n'=>Q (.d x::as) n'
 | some (.own xs)=>rest env n fun as n'=>Q (.d (.list xs)::as) n'
 | some (.own2 none ps)=>rest env n fun as n'=>Q (.d (.list (ps.map fun p=>.list p.2))::as) n'
 | some .jar=>rest env n fun as n'=>Q (.jar::as) n'
 | some .tape=>rest env n fun as n'=>Q (.tape::as) n'
 | _=>False
noncomputable abbrev gConsA (g:GE) (rest:GA):GA:=fun env n Q=>g env n fun d n1=>rest env n1 fun as n2=>Q (.d d::as) n2
noncomputable abbrev gNilD:GN:=fun _ n Q=>Q [] n
noncomputable abbrev gConsD (g:GE) (rest:GN):GN:=fun env n Q=>g env n fun d n1=>rest env n1 fun as n2=>Q (d::as) n2
noncomputable instance av_nil:AV b tNil gNilA:=⟨fun E h k=>k _ _ _ _ h (.refl E.inv) trivial⟩
noncomputable instance (priority:=low) av_cons {t:TA}{gt:GA} [A:EV b te g] [B:AV b t gt]:AV b (tCons te t) (gConsA g gt):=⟨fun {S ex env σ H n Q P} E h k=>
 A.ev E h fun x n1 v1 H1 h1 s1 r1=>B.av (E.step s1) h1 fun as n2 vs H2 h2 s2 r2=>k _ _ _ _ h2 (s1.trans s2) ⟨⟨_,rfl,(E.step s1).repm b s2 r1⟩,r2⟩⟩
noncomputable instance av_var {t:TA}{gt:GA}{i:Nat} [B:AV true t gt]:AV true (tCons (tVar i) t) (gArg i gt):=⟨fun {S ex env σ H n Q P} E h k=>by
 unfold gArg at h
 split at h
 · rename_i x e
   obtain ⟨v,ev,r⟩:=E.sl i _ e
   exact ⟨v,join_some ev,B.av E h fun as n2 vs H2 h2 s2 r2=>k _ _ _ _ h2 s2 ⟨⟨_,rfl,E.repm true s2 r⟩,r2⟩⟩
 · rename_i e
   obtain ⟨p,c,hS,ev⟩:=E.sl i _ e
   exact ⟨_,join_some ev,B.av E h fun as n2 vs H2 h2 s2 r2=>k _ _ _ _ h2 s2 ⟨⟨p,c,hS,rfl⟩,r2⟩⟩
 · rename_i e
   obtain ⟨p,c,hS,ev⟩:=E.sl i _ e
   exact ⟨_,join_some ev,B.av E h fun as n2 vs H2 h2 s2 r2=>k _ _ _ _ h2 s2 ⟨⟨p,c,hS,rfl⟩,r2⟩⟩
 · exact h.elim⟩
noncomputable instance av_look {t:TA}{gt:GA}{i:Nat} [B:AV false t gt]:AV false (tCons (tVar i) t) (gArgL i gt):=⟨fun {S ex env σ H n Q P} E h k=>by
 unfold gArgL at h
 split at h
 · rename_i x e
   obtain ⟨v,ev,r⟩:=E.sl i _ e
   exact ⟨v,join_some ev,B.av E h fun as n2 vs H2 h2 s2 r2=>k _ _ _ _ h2 s2 ⟨⟨_,rfl,E.repm false s2 (Rep.mono E.ch r)⟩,r2⟩⟩
 · rename_i xs e
   obtain ⟨a,vs,ev,h1,h2,h3,h4,h5⟩:=E.sl i _ e
   exact ⟨_,join_some ev,B.av E h fun as n2 vs' H2 hh s2 r2=>k _ _ _ _ hh s2 ⟨⟨_,rfl,E.repm false s2 (.list h1 h5 h2 (Reps.mono E.ch h3))⟩,r2⟩⟩
 · rename_i ps e
   obtain ⟨a,ev,q⟩:=E.sl i _ e
   exact ⟨_,join_some ev,B.av E h fun as n2 vs' H2 hh s2 r2=>k _ _ _ _ hh s2 ⟨⟨_,rfl,E.repm false s2 (.list q.h q.c (by unfold refs;rw [List.length_map,sizeLine_eq];have:=q.z;omega) (own2_reps E.ch q.i))⟩,r2⟩⟩
 · rename_i e
   obtain ⟨p,c,hS,ev⟩:=E.sl i _ e
   exact ⟨_,join_some ev,B.av E h fun as n2 vs H2 h2 s2 r2=>k _ _ _ _ h2 s2 ⟨⟨p,c,hS,rfl⟩,r2⟩⟩
 · rename_i e
   obtain ⟨p,c,hS,ev⟩:=E.sl i _ e
   exact ⟨_,join_some ev,B.av E h fun as n2 vs H2 h2 s2 r2=>k _ _ _ _ h2 s2 ⟨⟨p,c,hS,rfl⟩,r2⟩⟩
 · exact h.elim⟩
noncomputable instance dv_nil:DV b tNil gNilD:=⟨fun E h k=>k _ _ _ _ h (.refl E.inv) .nil⟩
noncomputable instance dv_cons {t:TA}{gt:GN} [A:EV b te g] [B:DV b t gt]:DV b (tCons te t) (gConsD g gt):=⟨fun {S ex env σ H n Q P} E h k=>
 A.ev E h fun x n1 v1 H1 h1 s1 r1=>B.dv (E.step s1) h1 fun as n2 vs H2 h2 s2 r2=>k _ _ _ _ h2 (s1.trans s2) (.cons ((E.step s1).repm b s2 r1) r2)⟩
noncomputable abbrev gTupD (t:GN):GE:=fun env n Q=>t env n fun ds n1=>ds.length≤sizeLine∧Q (.tuple ds) n1
noncomputable abbrev gLstD (t:GN):GN:=fun env n Q=>t env n fun ds n1=>ds.length≤sizeLine∧Q ds n1
noncomputable instance ev_tup {t:TA}{gt:GN} [A:DV b t gt]:EV b (tTup t) (gTupD gt):=⟨fun {S ex env σ H n Q P} E h k=>
 A.dv E h fun ds n1 vs H1 h1 s1 r1=>⟨by rw [← r1.length];exact h1.1,fun p hp=>k _ _ _ _ h1.2 (s1.then (Kp.new hp _)) (.tuple upd_same ((E.step s1).alm b |>.nm hp) (by rw [← r1.length];exact h1.1) (r1.keep (Kp.new hp _)))⟩⟩
noncomputable instance nv_lst {t:TA}{gt:GN} [A:DV true t gt]:NV (tLst t) (gLstD gt):=⟨fun {S ex env σ H n Q P} E h k=>
 A.dv E h fun ds n1 vs H1 h1 s1 r1=>⟨by rw [← r1.length];exact h1.1,fun p hp=>by
  obtain ⟨c1,c2,c3⟩:=nv_close E s1 hp r1
  exact k _ _ _ _ _ h1.2 c1 c2 upd_same (by rw [← r1.length];exact h1.1) c3⟩⟩
noncomputable abbrev gCB (f:G1) (t:GN):GE:=fun env n Q=>t env n fun ds n1=>f ds fun d=>Q d n1
noncomputable abbrev gCBN (f:List PyData→(List PyData→Prop)→Prop) (t:GN):GN:=fun env n Q=>t env n fun ds n1=>f ds fun d=>Q d n1
noncomputable instance ev_cs {r:List V→Hp→VK→Prop}{f:G1}{t:TA}{gt:GN} [C:CS r f] [A:DV false t gt]:EV b (tCB r t) (gCB f gt):=⟨fun {S ex env σ H n Q P} E h k=>
 A.dv E h fun ds n1 vs H1 h1 s1 r1=>C.cs (Reps.nil' r1) h1 fun d v p r=>k _ _ _ _ p s1 (r _)⟩
noncomputable instance (priority:=low) ev_co {r:List V→Hp→VK→Prop}{f:G1}{t:TA}{gt:GN} [C:CO r f] [A:DV b t gt]:EV b (tCB r t) (gCB f gt):=⟨fun {S ex env σ H n Q P} E h k=>
 A.dv E h fun ds n1 vs H1 h1 s1 r1=>C.co ((E.step s1).alm b) r1 h1 fun d v H' p kp r=>k _ _ _ _ p (s1.then kp) r⟩
noncomputable instance nv_cn {r:List V→Hp→VK→Prop}{f:List PyData→(List PyData→Prop)→Prop}{t:TA}{gt:GN} [C:CN r f] [A:DV true t gt]:NV (tCB r t) (gCBN f gt):=⟨fun {S ex env σ H n Q P} E h k=>
 A.dv E h fun ds n1 vs H1 h1 s1 r1=>C.cn r1 h1 fun es p ws pp hp hz r=>by
  obtain ⟨c1,c2,c3⟩:=nv_close E s1 hp r
  exact k _ _ _ _ _ pp c1 c2 upd_same hz c3⟩
noncomputable def liftV (sp:GSp):Sp:=fun vs H Q _=>∃ (S:Src) (ex:List Addr) (as:List Vl) (n:Nat) (P:PyData→Nat→Prop),ArgsR S ex H as vs∧(∀ a∈S.ch,a∈ex)∧Alc ex H∧S.inv n H∧sp as n P∧∀ d n' v H',P d n'→Step S n' H H'→Rep ex H' d v→Q v H'
noncomputable def liftN (sp:GSn):Sp:=fun vs H Q _=>∃ (S:Src) (ex:List Addr) (as:List Vl) (n:Nat) (P:List PyData→Nat→Prop),ArgsR S ex H as vs∧(∀ a∈S.ch,a∈ex)∧Alc ex H∧S.inv n H∧sp as n P∧∀ ds n' a ws H',P ds n'→Step S n' H H'→H a=none→H' a=some (.lst ws)→ws.length≤sizeLine→Reps (a::ex) H' ds ws→Q (.ref a) H'
noncomputable def scalD:PyData→Bool
 | .none | .bool _ | .int _ | .str _=>true
 | _=>false
theorem scal_rep {d:PyData}{v:V}(h:scalD d=true) (r:Rep ex H d v):∀ ex',Rep ex' H d v:=fun ex'=>by
 cases r with
 | none=>exact .none
 | bool b=>exact .bool b
 | int i=>exact .int i
 | str x=>exact .str x
 | tuple=>cases h
 | list=>cases h
 | obj=>cases h
 | dctf=>cases h
class Scal (sp:GSp):Prop where
 sc:∀ {as:List Vl} {n:Nat} {P:PyData→Nat→Prop},sp as n P→sp as n fun d n'=>scalD d=true∧P d n'
noncomputable abbrev gCall (sp:GSp) (ga:GA):GE:=fun env n Q=>ga env n fun as n1=>sp as n1 Q
noncomputable abbrev gCallN (sp:GSn) (ga:GA):GN:=fun env n Q=>ga env n fun as n1=>sp as n1 Q
noncomputable instance ev_callS {sp:GSp}{E':XK}{t:TA}{gt:GA} [Z:Scal sp] [A:AV false t gt]:EV b (tCall (liftV sp) [] E' t) (gCall sp gt):=⟨fun {S ex env σ H n Q P} E h k=>
 A.av E h fun as n1 vs H1 h1 s1 r1=>by
  rw [List.append_nil]
  exact ⟨S,S.ch,as,n1,_,r1,fun _ h=>h,fun a ha=>(E.step s1).al a (E.ch a ha),s1.2,Z.sc h1,fun d n' v H' p s2 r=>k _ _ _ _ p.2 (s1.trans s2) (scal_rep p.1 r _)⟩⟩
noncomputable instance (priority:=low) ev_call {sp:GSp}{E':XK}{t:TA}{gt:GA} [A:AV b t gt]:EV b (tCall (liftV sp) [] E' t) (gCall sp gt):=⟨fun {S ex env σ H n Q P} E h k=>
 A.av E h fun as n1 vs H1 h1 s1 r1=>by
  rw [List.append_nil]
  exact ⟨S,exm b S ex,as,n1,_,r1,E.sup b,(E.step s1).alm b,s1.2,h1,fun d n' v H' p s2 r=>k _ _ _ _ p (s1.trans s2) r⟩⟩
noncomputable instance nv_call {sp:GSn}{E':XK}{t:TA}{gt:GA} [A:AV true t gt]:NV (tCall (liftN sp) [] E' t) (gCallN sp gt):=⟨fun {S ex env σ H n Q P} E h k=>
 A.av E h fun as n1 vs H1 h1 s1 r1=>by
  rw [List.append_nil]
  exact ⟨S,ex,as,n1,_,r1,E.ch,(E.step s1).al,s1.2,h1,fun ds n' a ws H' p s2 ha hl hz r=>k _ _ _ _ _ p (s1.trans s2) (s1.free ha) hl hz r⟩⟩
noncomputable abbrev gTest (g:GE):GT:=fun env n Q=>g env n fun d n1=>match d with
 | .bool c=>Q c n1
 | _=>False
theorem bool_inv {d:PyData}{n:Nat}{Q:Bool→Nat→Prop}{v:V}(h:match d with | .bool c=>Q c n | _=>False) (r:Rep ex H d v):∃ c,v = .bl c∧Q c n:=by
 cases r with
 | bool c=>exact ⟨c,rfl,h⟩
 | none=>exact h.elim
 | obj=>exact h.elim
 | dctf=>exact h.elim
 | int=>exact h.elim
 | str=>exact h.elim
 | tuple=>exact h.elim
 | list=>exact h.elim
noncomputable instance tv_test [A:EV false te g]:TV (tTest te) (gTest g):=⟨fun {S ex env σ H n Q P} E h k=>A.ev E h fun d n1 v H1 h1 s1 r1=>by
 obtain ⟨c,e,q⟩:=bool_inv h1 r1
 exact ⟨c,e,k _ _ _ q s1⟩⟩
noncomputable instance tv_b [A:EV false te g]:TV (tB te) (gTest g):=⟨fun {S ex env σ H n Q P} E h k=>A.ev E h fun d n1 v H1 h1 s1 r1=>by
 obtain ⟨c,e,q⟩:=bool_inv h1 r1
 exact ⟨c,e,k _ _ _ q s1⟩⟩
noncomputable abbrev gOr (a b:GT):GT:=fun env n Q=>a env n fun c n1=>if c=true then Q true n1 else b env n1 Q
noncomputable abbrev gNot (a:GT):GT:=fun env n Q=>a env n fun c n1=>Q (!c) n1
noncomputable instance tv_or {t u:TT}{gt gu:GT} [A:TV t gt] [B:TV u gu]:TV (tOr t u) (gOr gt gu):=⟨fun {S ex env σ H n Q P} E h k=>A.tv E h fun c n1 H1 h1 s1=>by
 cases c with
 | false=>exact B.tv (E.step s1) h1 fun c n2 H2 h2 s2=>k _ _ _ h2 (s1.trans s2)
 | true=>exact k _ _ _ h1 s1⟩
noncomputable instance tv_not {t:TT}{gt:GT} [A:TV t gt]:TV (tNot t) (gNot gt):=⟨fun {S ex env σ H n Q P} E h k=>A.tv E h fun c n1 H1 h1 s1=>k _ _ _ h1 s1⟩
noncomputable instance tv_noTest:TV tNoTest (fun _ n Q=>Q true n):=⟨fun {S ex env σ H n Q P} E h k=>k _ _ _ h (.refl E.inv)⟩
noncomputable abbrev gIf (t:GT) (a b:GE):GE:=fun env n Q=>t env n fun c n1=>if c=true then a env n1 Q else b env n1 Q
noncomputable instance ev_if {t:TT}{gt:GT} [T:TV t gt] [A:EV b ta ga] [B:EV b tb gb]:EV b (tIf t ta tb) (gIf gt ga gb):=⟨fun {S ex env σ H n Q P} E h k=>T.tv E h fun c n1 H1 h1 s1=>by
 cases c with
 | true=>exact A.ev (E.step s1) h1 fun d n2 v H2 h2 s2 r=>k _ _ _ _ h2 (s1.trans s2) r
 | false=>exact B.ev (E.step s1) h1 fun d n2 v H2 h2 s2 r=>k _ _ _ _ h2 (s1.trans s2) r⟩
noncomputable abbrev gAndV (a b:GE):GE:=fun env n Q=>a env n fun d n1=>match d with
 | .bool c=>if c=true then b env n1 Q else Q (.bool false) n1
 | _=>False
noncomputable abbrev gNotV (a:GE):GE:=fun env n Q=>a env n fun d n1=>match d with
 | .bool c=>Q (.bool (!c)) n1
 | _=>False
noncomputable instance ev_andV [A:EV false ta ga] [B:EV b tb gb]:EV b (tAndV ta tb) (gAndV ga gb):=⟨fun {S ex env σ H n Q P} E h k=>A.ev E h fun d n1 v H1 h1 s1 r1=>by
 obtain ⟨c,e,q⟩:=bool_inv (Q:=fun c n1=>if c=true then gb env n1 P else P (.bool false) n1) h1 r1
 refine ⟨c,e,?_⟩
 cases c with
 | true=>exact B.ev (E.step s1) q fun d n2 v H2 h2 s2 r=>k _ _ _ _ h2 (s1.trans s2) r
 | false=>exact k _ _ _ _ q s1 (.bool _)⟩
noncomputable instance ev_notV [A:EV false ta ga]:EV b (tNotV ta) (gNotV ga):=⟨fun {S ex env σ H n Q P} E h k=>A.ev E h fun d n1 v H1 h1 s1 r1=>by
 obtain ⟨c,e,q⟩:=bool_inv (Q:=fun c n1=>P (.bool (!c)) n1) h1 r1
 exact ⟨c,e,k _ _ _ _ q s1 (.bool _)⟩⟩
noncomputable abbrev gUn (f:PyData→(PyData→Prop)→Prop) (a:GE):GE:=fun env n Q=>a env n fun d n1=>f d fun e=>Q e n1
noncomputable abbrev fU (f:Int→V):PyData→(PyData→Prop)→Prop:=fun d Q=>match d with
 | .int i=>(match f i with | .int k=>Q (.int k) | _=>False)
 | _=>False
noncomputable instance ev_unI {f:Int→V} [A:EV false ta ga]:EV b (tUn (rU f) ta) (gUn (fU f) ga):=⟨fun {S ex env σ H n Q P} E h k=>A.ev E h fun d n1 v H1 h1 s1 r1=>by
 cases r1 with
 | int i=>
  unfold fU at h1
  refine ⟨i,rfl,?_⟩
  dsimp only at h1
  split at h1
  · rename_i j e;rw [e];exact k _ _ _ _ h1 s1 (.int _)
  · exact h1.elim
 | none=>exact h1.elim
 | obj=>exact h1.elim
 | dctf=>exact h1.elim
 | bool=>exact h1.elim
 | str=>exact h1.elim
 | tuple=>exact h1.elim
 | list=>exact h1.elim⟩
end
noncomputable abbrev ofV:V→(PyData→Prop)→Prop
 | .int k,Q=>Q (.int k)
 | .bl c,Q=>Q (.bool c)
 | .str s,Q=>Q (.str s)
 | .non,Q=>Q .none
 | _,_=>False
theorem ofV_rep {v:V}{P:PyData→Prop}{H:Hp}(h:ofV v P):∃ d,P d∧∀ ex,Rep ex H d v:=by
 cases v with
 | int k=>exact ⟨_,h,fun _=>.int k⟩
 | bl k=>exact ⟨_,h,fun _=>.bool k⟩
 | str k=>exact ⟨_,h,fun _=>.str k⟩
 | non=>exact ⟨_,h,fun _=>.none⟩
 | byt _=>exact h.elim
 | flt _=>exact h.elim
 | ref _=>exact h.elim
 | ty _=>exact h.elim
noncomputable abbrev fI0 (f:Int→Int→V):G2:=fun x y Q=>match x,y with
 | .int i,.int j=>ofV (f i j) Q
 | _,_=>False
noncomputable abbrev fI (C:Int→Int→Prop) (f:Int→Int→V):G2:=fun x y Q=>match x,y with
 | .int i,.int j=>C i j∧ofV (f i j) Q
 | _,_=>False
theorem ints_inv {ex:List Addr}{H:Hp}{dx dy:PyData}{x y:V}{A:Int→Int→Prop}(h:match dx,dy with | .int i,.int j=>A i j | _,_=>False) (r1:Rep ex H dx x) (r2:Rep ex H dy y):∃ i j,x = .int i∧y = .int j∧A i j:=by
 split at h
 · cases r1;cases r2;exact ⟨_,_,rfl,rfl,h⟩
 · exact h.elim
noncomputable instance os_I0 {f:Int→Int→V}:OS (rI0 f) (fI0 f):=⟨fun {H x y dx dy Q P} r1 r2 h k=>by
 obtain ⟨i,j,rfl,rfl,h⟩:=ints_inv (A:=fun i j=>ofV (f i j) P) h r1 r2
 obtain ⟨d,p,r⟩:=ofV_rep (H:=H) h
 exact ⟨i,j,rfl,rfl,k _ _ p r⟩⟩
noncomputable instance os_I {C:Int→Int→Prop}{f:Int→Int→V}:OS (rI C f) (fI C f):=⟨fun {H x y dx dy Q P} r1 r2 h k=>by
 obtain ⟨i,j,rfl,rfl,hc,h⟩:=ints_inv (A:=fun i j=>C i j∧ofV (f i j) P) h r1 r2
 obtain ⟨d,p,r⟩:=ofV_rep (H:=H) h
 exact ⟨i,j,rfl,rfl,hc,k _ _ p r⟩⟩
noncomputable def eqS:PyData→PyData→Option Bool
 | .int i,.int j=>some (decide (i=j))
 | .str a,.str b=>some (decide (a=b))
 | .bool a,.bool b=>some (decide (a=b))
 | .none,.none=>some true
 | .none,.int _ | .none,.bool _ | .none,.str _ | .int _,.none | .bool _,.none | .str _,.none=>some false
 | .int _,.str _ | .str _,.int _ | .bool _,.str _ | .str _,.bool _=>some false
 | _,_=>none
noncomputable def fEq (neg:Bool):G2:=fun x y Q=>match eqS x y with
 | some c=>Q (.bool (if neg then !c else c))
 | none=>False
theorem eqS_ok {ex:List Addr}{H:Hp}{dx dy:PyData}{x y:V}{c:Bool}(h:eqS dx dy=some c) (r1:Rep ex H dx x) (r2:Rep ex H dy y):scal x y=true∧decide (x=y)=c:=by
 cases r1<;>cases r2<;>simp [eqS] at h<;>subst h<;>simp [scal]
noncomputable instance os_eq:OS rEq (fEq false):=⟨fun {H x y dx dy Q P} r1 r2 h k=>by
 unfold fEq at h
 split at h
 · rename_i c e
   obtain ⟨h1,h2⟩:=eqS_ok e r1 r2
   exact ⟨h1,by rw [h2];exact k _ _ h fun _=>.bool _⟩
 · exact h.elim⟩
noncomputable instance os_ne:OS rNe (fEq true):=⟨fun {H x y dx dy Q P} r1 r2 h k=>by
 unfold fEq at h
 split at h
 · rename_i c e
   obtain ⟨h1,h2⟩:=eqS_ok e r1 r2
   exact ⟨h1,by rw [h2];exact k _ _ h fun _=>.bool _⟩
 · exact h.elim⟩
noncomputable def EqOk (x y:PyData):Prop:=x.canLay0=true∧y.canLay0=true∧min x.depth y.depth≤50
noncomputable def fEqD (neg:Bool):G2:=fun x y Q=>EqOk x y∧Q (.bool (if neg then !PyData.eqv x y else PyData.eqv x y))
noncomputable instance os_neD:OS rNeD (fEqD true):=⟨fun {H x y dx dy Q P} r1 r2 h k=>⟨[],dx,dy,r1,r2,h.1.1,h.1.2.1,h.1.2.2,k _ _ h.2 fun _=>.bool _⟩⟩
theorem reps_at {ex:List Addr}{H:Hp}{ds:List PyData}{vs:List V}{i:Int}{d:PyData}(r:Reps ex H ds vs) (h:atI ds i=some d):∃ v,atI vs i=some v∧Rep ex H d v:=by
 unfold atI at h ⊢
 rw [← r.length]
 cases e:ixN ds.length i with
 | none=>rw [e] at h;cases h
 | some j=>rw [e] at h;exact r.get h
noncomputable abbrev fIxL:G2:=fun x y Q=>match x,y with
 | .list xs,.int i=>∃ d,atI xs i=some d∧Q d
 | _,_=>False
noncomputable abbrev fIxT:G2:=fun x y Q=>match x,y with
 | .tuple xs,.int i=>∃ d,atI xs i=some d∧Q d
 | _,_=>False
noncomputable instance ov_ixL {K:PySem.W.Frag}:OV (rIxL K) fIxL:=⟨fun {ex H x y dx dy Q P} al r1 r2 h k=>by
 unfold fIxL at h
 split at h
 · obtain ⟨d,e,p⟩:=h
   cases r2
   cases r1 with
   | list e1 _ _ rs=>
    obtain ⟨v,ev,r⟩:=reps_at rs e
    exact ⟨_,_,_,v,rfl,rfl,SqL.of e1,ev,k _ _ _ p .refl r⟩
 · exact h.elim⟩
noncomputable instance ov_ixT {K:PySem.W.Frag}:OV (rIxT K) fIxT:=⟨fun {ex H x y dx dy Q P} al r1 r2 h k=>by
 unfold fIxT at h
 split at h
 · obtain ⟨d,e,p⟩:=h
   cases r2
   cases r1 with
   | tuple e1 _ _ rs=>
    obtain ⟨v,ev,r⟩:=reps_at rs e
    exact ⟨_,_,_,v,rfl,rfl,SqT.of e1,ev,k _ _ _ p .refl r⟩
 · exact h.elim⟩
noncomputable abbrev gIxO (i:Nat) (gb:GE):GE:=fun env n Q=>match env[i]? with
 | some (.own xs)=>gb env n fun y n1=>fIxL (.list xs) y fun d=>Q d n1
 | some (.d x)=>gb env n fun y n1=>fIxL x y fun d=>Q d n1
 | _=>False
noncomputable instance (priority:=high) ev_ixO {K:PySem.W.Frag}{i:Nat}{tb:TE}{gb:GE} [B:EV true tb gb]:EV true (tOp (rIxL K) (tVar i) tb) (gIxO i gb):=⟨fun {S ex env σ H n Q P} E h k=>by
 unfold gIxO at h
 split at h
 · rename_i xs e
   obtain ⟨a,vs,ev,h1,h2,h3,h4,h5⟩:=E.sl i _ e
   refine ⟨_,join_some ev,B.ev E h fun y n1 v1 H1 hh s1 r1=>?_⟩
   cases r1 with
   | int j=>
    obtain ⟨d,ed,p⟩:=hh
    obtain ⟨v,ev2,r⟩:=reps_at (E.reps s1 h3) ed
    exact ⟨_,_,_,v,rfl,rfl,SqL.of (s1.1 _ _ h1 h5),ev2,k _ _ _ _ p s1 r⟩
   | none=>exact hh.elim
   | obj=>exact hh.elim
   | dctf=>exact hh.elim
   | bool=>exact hh.elim
   | str=>exact hh.elim
   | tuple=>exact hh.elim
   | list=>exact hh.elim
 · rename_i x e
   obtain ⟨v,ev,r⟩:=E.sl i _ e
   refine ⟨v,join_some ev,B.ev E h fun y n1 v1 H1 hh s1 r1=>?_⟩
   exact (ov_ixL (K:=K)).ov (E.step s1).al (E.rep s1 r) r1 hh fun d v H' p kp r=>k _ _ _ _ p (s1.then kp) r
 · exact h.elim⟩
noncomputable instance on_rep:ON rRep (fun x y Q=>match x,y with | .list xs,.int k=>(-(2^63)≤k∧k<2^63∧xs.length*k.toNat≤sizeLine)∧Q (List.replicate k.toNat xs).flatten | _,_=>False):=⟨fun {ex H x y dx dy Q P} r1 r2 h k=>by
 split at h
 · cases r1 with
   | list e1 _ _ rs=>
    cases r2
    have l1:=rs.length
    refine ⟨_,_,_,rfl,rfl,e1,h.1.1,h.1.2.1,by rw [← l1];exact h.1.2.2,fun p hp=>k _ p _ h.2 hp ?_ (rs.rep _)⟩
    rw [len_rep,← l1,Nat.mul_comm];exact h.1.2.2
 · exact h.elim⟩
noncomputable abbrev fLen:G1:=fun ds Q=>match ds with
 | [.list xs]=>Q (.int xs.length)
 | [.tuple xs]=>Q (.int xs.length)
 | _=>False
noncomputable instance cs_len {K:PySem.W.Frag}:CS (fun xs H Q=>∃ p ys,xs=[.ref p]∧(SqL K H p ys∨SqT K H p ys)∧Q (.int ys.length) H) fLen:=⟨fun {H xs ds Q P} r h k=>by
 unfold fLen at h
 split at h
 · cases r with
   | cons r1 t=>
    cases t
    cases r1 with
    | list e _ _ rs=>exact ⟨_,_,rfl,.inl (SqL.of e),by rw [← rs.length];exact k _ _ h fun _=>.int _⟩
 · cases r with
   | cons r1 t=>
    cases t
    cases r1 with
    | tuple e _ _ rs=>exact ⟨_,_,rfl,.inr (SqT.of e),by rw [← rs.length];exact k _ _ h fun _=>.int _⟩
 · exact h.elim⟩
noncomputable abbrev fListOf (ds:List PyData) (Q:List PyData→Prop):Prop:=match ds with
 | [.list xs]=>Q xs
 | [.tuple xs]=>Q xs
 | _=>False
noncomputable instance cn_list {K:PySem.W.Frag}:CN (fun xs H Q=>∃ p ys,xs=[.ref p]∧(SqL K H p ys∨SqT K H p ys)∧∀ l,H l=none→Q (.ref l) (upd H l (.lst ys))) fListOf:=⟨fun {ex H xs ds Q P} r h k=>by
 unfold fListOf at h
 split at h
 · cases r with
   | cons r1 t=>
    cases t
    cases r1 with
    | list e _ z rs=>exact ⟨_,_,rfl,.inl (SqL.of e),fun l hl=>k _ l _ h hl z rs⟩
 · cases r with
   | cons r1 t=>
    cases t
    cases r1 with
    | tuple e _ z rs=>exact ⟨_,_,rfl,.inr (SqT.of e),fun l hl=>k _ l _ h hl z rs⟩
 · exact h.elim⟩
noncomputable abbrev fTupleOf:G1:=fun ds Q=>match ds with
 | [.list xs]=>Q (.tuple xs)
 | [.tuple xs]=>Q (.tuple xs)
 | _=>False
noncomputable instance co_tuple {K:PySem.W.Frag}:CO (fun xs H Q=>∃ p ys,xs=[.ref p]∧((SqL K H p ys∧∀ l,H l=none→Q (.ref l) (upd H l (.tup ys)))∨(SqT K H p ys∧Q (.ref p) H))) fTupleOf:=⟨fun {ex H xs ds Q P} al r h k=>by
 unfold fTupleOf at h
 split at h
 · cases r with
   | cons r1 t=>
    cases t
    cases r1 with
    | list e _ z rs=>exact ⟨_,_,rfl,.inl ⟨SqL.of e,fun l hl=>k _ _ _ h (Kp.new hl _) (.tuple upd_same (al.nm hl) z (rs.keep (Kp.new hl _)))⟩⟩
 · cases r with
   | cons r1 t=>
    cases t
    cases r1 with
    | tuple e n z rs=>exact ⟨_,_,rfl,.inr ⟨SqT.of e,k _ _ _ h .refl (.tuple e n z rs)⟩⟩
 · exact h.elim⟩
theorem Reps.bools_inv {ex:List Addr}{H:Hp}:∀ {ns:List Bool}{vs:List V},Reps ex H (ns.map PyData.bool) vs→vs=ns.map V.bl
 | [],_,.nil=>rfl
 | n::r,_,.cons (.bool _) t=>by rw [Reps.bools_inv t];rfl
noncomputable def fAll (c:Bool):G1:=fun ds Q=>∃ bs:List Bool,ds=[.list (bs.map .bool)]∧c=true∧Q (.bool (bs.all id))
noncomputable instance cs_all {K:PySem.W.Frag}{c:Bool}:CS (fun xs H Q=>c=true∧∃ (p:Addr) (bs:List Bool),xs=[.ref p]∧SqL K H p (bs.map V.bl)∧Q (.bl (bs.all id)) H) (fAll c):=⟨fun {H xs ds Q P} r h k=>by
 obtain ⟨ns,rfl,hc,q⟩:=h
 cases r with
 | cons r1 t=>
  cases t
  cases r1 with
  | list e _ _ rs=>
   cases Reps.bools_inv rs
   exact ⟨hc,_,ns,rfl,SqL.of e,k _ _ q fun _=>.bool _⟩⟩
noncomputable def fAnyI (tup:Bool):G1:=fun ds Q=>∃ ns:List Int,ds=[if tup then .tuple (ns.map .int) else .list (ns.map .int)]∧Q (.bool (ns.any fun n=>decide (n≠0)))
noncomputable instance cs_anyL {K:PySem.W.Frag}:CS (fun xs H Q=>∃ (p:Addr) (ns:List Int),xs=[.ref p]∧SqL K H p (ns.map V.int)∧Q (.bl (ns.any fun n=>decide (n≠0))) H) (fAnyI false):=⟨fun {H xs ds Q P} r h k=>by
 obtain ⟨ns,rfl,q⟩:=h
 cases r with
 | cons r1 t=>
  cases t
  cases r1 with
  | list e _ _ rs=>
   cases rs.ints_inv
   exact ⟨_,ns,rfl,SqL.of e,k _ _ q fun _=>.bool _⟩⟩
noncomputable abbrev fTwo (f:Int→Int→Int):G1:=fun ds Q=>match ds with
 | [.int i,.int j]=>Q (.int (f i j))
 | _=>False
theorem two_inv {ex:List Addr}{H:Hp}{ds:List PyData}{xs:List V}{A:Int→Int→Prop}(h:match ds with | [.int i,.int j]=>A i j | _=>False) (r:Reps ex H ds xs):∃ i j,xs=[.int i,.int j]∧A i j:=by
 split at h
 · cases r with
   | cons r1 t=>cases t with
    | cons r2 t=>cases t;cases r1;cases r2;exact ⟨_,_,rfl,h⟩
 · exact h.elim
noncomputable instance cs_max2:CS (fun xs H Q=>∃ i j,xs=[.int i,.int j]∧Q (.int (if j>i then j else i)) H) (fTwo fun i j=>if j>i then j else i):=⟨fun {H xs ds Q P} r h k=>by
 obtain ⟨i,j,rfl,q⟩:=two_inv (A:=fun i j=>P (.int (if j>i then j else i))) h r
 exact ⟨i,j,rfl,k _ _ q fun _=>.int _⟩⟩
noncomputable instance cs_min2:CS (fun xs H Q=>∃ i j,xs=[.int i,.int j]∧Q (.int (if j<i then j else i)) H) (fTwo fun i j=>if j<i then j else i):=⟨fun {H xs ds Q P} r h k=>by
 obtain ⟨i,j,rfl,q⟩:=two_inv (A:=fun i j=>P (.int (if j<i then j else i))) h r
 exact ⟨i,j,rfl,k _ _ q fun _=>.int _⟩⟩
noncomputable abbrev gInst (T:String) (g:GE):GE:=fun env n Q=>g env n fun d n1=>noD d=true∧Q (.bool (instD d T)) n1
section
variable {b:Bool}{te:TE}{g:GE}
theorem ev_inst (T:String) (hT:T = "int"∨T = "bool"∨T = "str"∨T = "tuple"∨T = "list") [A:EV false te g]:EV b (tCB (fun xs H Q=>∃ ex d x T,xs=[x,.ty T]∧Rep ex H d x∧noD d=true∧(T = "int"∨T = "bool"∨T = "str"∨T = "tuple"∨T = "list")∧Q (.bl (instD d T)) H) (tCons te (tCons (tC (.ty T)) tNil))) (gInst T g):=⟨fun {S ex env σ H n Q P} E h k=>
 A.ev E h fun d n1 v H1 h1 s1 r1=>⟨_,d,v,T,rfl,r1,h1.1,hT,k _ _ _ _ h1.2 s1 (.bool _)⟩⟩
noncomputable instance (priority:=high) ev_instI [A:EV false te g]:EV b (tCB (fun xs H Q=>∃ ex d x T,xs=[x,.ty T]∧Rep ex H d x∧noD d=true∧(T = "int"∨T = "bool"∨T = "str"∨T = "tuple"∨T = "list")∧Q (.bl (instD d T)) H) (tCons te (tCons (tC (.ty "int")) tNil))) (gInst "int" g):=ev_inst _ (by simp)
noncomputable instance (priority:=high) ev_instB [A:EV false te g]:EV b (tCB (fun xs H Q=>∃ ex d x T,xs=[x,.ty T]∧Rep ex H d x∧noD d=true∧(T = "int"∨T = "bool"∨T = "str"∨T = "tuple"∨T = "list")∧Q (.bl (instD d T)) H) (tCons te (tCons (tC (.ty "bool")) tNil))) (gInst "bool" g):=ev_inst _ (by simp)
noncomputable instance (priority:=high) ev_instT [A:EV false te g]:EV b (tCB (fun xs H Q=>∃ ex d x T,xs=[x,.ty T]∧Rep ex H d x∧noD d=true∧(T = "int"∨T = "bool"∨T = "str"∨T = "tuple"∨T = "list")∧Q (.bl (instD d T)) H) (tCons te (tCons (tC (.ty "tuple")) tNil))) (gInst "tuple" g):=ev_inst _ (by simp)
noncomputable instance (priority:=high) ev_instL [A:EV false te g]:EV b (tCB (fun xs H Q=>∃ ex d x T,xs=[x,.ty T]∧Rep ex H d x∧noD d=true∧(T = "int"∨T = "bool"∨T = "str"∨T = "tuple"∨T = "list")∧Q (.bl (instD d T)) H) (tCons te (tCons (tC (.ty "list")) tNil))) (gInst "list" g):=ev_inst _ (by simp)
class OPV (t:TO) (g:outParam (List Vl→Nat→(Option Int→Nat→Prop)→Prop)):Prop where
 op:∀ {S:Src} {ex:List Addr} {env:List Vl} {σ:L2.St} {H:Hp} {n:Nat} {Q:Option Int→Hp→Prop} {P:Option Int→Nat→Prop},Ev S ex env σ H n→g env n P→(∀ o n' H',P o n'→Step S n' H H'→Q o H')→t σ H Q
noncomputable instance op_no:OPV tNoPart (fun _ n Q=>Q none n):=⟨fun E h k=>k _ _ _ h (.refl E.inv)⟩
noncomputable abbrev gPart (g:GE):List Vl→Nat→(Option Int→Nat→Prop)→Prop:=fun env n Q=>g env n fun d n1=>match d with
 | .int i=>Q (some i) n1
 | _=>False
noncomputable instance op_part [A:EV false te g]:OPV (tPart te) (gPart g):=⟨fun {S ex env σ H n Q P} E h k=>A.ev E h fun d n1 v H1 h1 s1 r1=>by
 cases r1 with
 | int i=>exact ⟨i,rfl,k _ _ _ h1 s1⟩
 | none=>exact h1.elim
 | obj=>exact h1.elim
 | dctf=>exact h1.elim
 | bool=>exact h1.elim
 | str=>exact h1.elim
 | tuple=>exact h1.elim
 | list=>exact h1.elim⟩
theorem reps_cut {ex:List Addr}{H:Hp}{ds:List PyData}{vs:List V}(r:Reps ex H ds vs) (lo hi:Option Int):Reps ex H (cutD ds lo hi) (cutV vs lo hi):=by
 unfold cutD cutV
 rw [r.length]
 exact Reps.take _ (Reps.drop _ r)
end
noncomputable def ItAt (ex:List Addr) (J:It) (items:List PyData) (H:Hp):Prop:=J.stop items.length H∧∀ (i:Nat) (d:PyData),items[i]? = some d→J.go i H∧∀ x H',J.yld i H x H'→Kp [] H H'∧Rep ex H' d x
class IV (wi:TI) (g:outParam GN):Prop where
 iv:∀ {S:Src} {ex:List Addr} {env:List Vl} {σ:L2.St} {H:Hp} {n:Nat} {R:It→Hp→Prop} {P:List PyData→Nat→Prop},Ev S ex env σ H n→g env n P →
  (∀ items n' J (hd:List (PyData×V)) H',P items n'→Step S n' H H'→(∀ h∈hd,Rep ex H' h.1 h.2)→(∀ ex' H2,Alc ex' H2→(∀ h∈hd,Rep ex' H2 h.1 h.2)→ItAt ex' J items H2)→R J H')→wi σ H R
class IC (wi:TI) (g:outParam GN):Prop where
 ic:∀ {S:Src} {ex:List Addr} {env:List Vl} {σ:L2.St} {H:Hp} {n:Nat} {R:It→Hp→Prop} {P:List PyData→Nat→Prop},Ev S ex env σ H n→g env n P →
  (∀ items n' J H',P items n'→Step S n' H H'→(∀ l H2,H' l=none→Kp (l::S.ch) H' H2→Alc (l::ex) H2→ItAt (l::ex) J items H2)→R J H')→wi σ H R
section
variable {K:PySem.W.Frag}{S:Src}{n m:Nat}{H H1 H2 H':Hp}{ex:List Addr}{env:List Vl}{σ:L2.St}{b:Bool}{te ta tb tc:TE}{g ga gb gc:GE}{wi:TI}{gi:GN}
theorem kp_cons {l:Addr}(hc:∀ a∈S.ch,a∈ex) (k:Kp (l::S.ch) H H'):Kp (l::ex) H H':=k.mono fun b hb=>(List.mem_cons.mp hb).elim (fun e=>by rw [e];exact List.mem_cons_self) fun h=>List.mem_cons_of_mem _ (hc b h)
noncomputable instance (priority:=low) ic_iv [I:IV wi gi]:IC wi gi:=⟨fun {S ex env σ H n R P} E h k=>I.iv E h fun items n' J hd H' p s hr hit=>k _ _ _ _ p s fun l H2 hl kp al=>
 hit _ _ al fun x hx=>(Rep.add hl (hr x hx)).keep (kp_cons E.ch kp)⟩
theorem it_list {a:Addr}{vs:List V}{ds:List PyData}(ha:H a=some (.lst vs)) (r:Reps ex H ds vs):ItAt ex (Itl K a) ds H:=by
 refine ⟨⟨vs,SqL.of ha,by rw [r.length];exact Nat.le_refl _⟩,fun i d e=>?_⟩
 obtain ⟨v,ev,rv⟩:=r.get e
 refine ⟨⟨vs,v,SqL.of ha,ev⟩,fun x H' y=>?_⟩
 obtain ⟨rfl,hx⟩:=y
 have:=hx vs (SqL.of ha)
 rw [ev] at this
 cases this
 exact ⟨.refl,rv⟩
theorem it_tup {a:Addr}{vs:List V}{ds:List PyData}(ha:H a=some (.tup vs)) (r:Reps ex H ds vs):ItAt ex (Itt K a) ds H:=by
 refine ⟨⟨vs,SqT.of ha,by rw [r.length];exact Nat.le_refl _⟩,fun i d e=>?_⟩
 obtain ⟨v,ev,rv⟩:=r.get e
 refine ⟨⟨vs,v,SqT.of ha,ev⟩,fun x H' y=>?_⟩
 obtain ⟨rfl,hx⟩:=y
 have:=hx vs (SqT.of ha)
 rw [ev] at this
 cases this
 exact ⟨.refl,rv⟩
noncomputable def rngD (lo:Int) (k:Nat):List PyData:=(List.range k).map fun (i:Nat)=>.int (lo+(i:Int))
theorem rngD_len (lo:Int) (k:Nat):(rngD lo k).length=k:=by unfold rngD;rw [List.length_map,List.length_range]
theorem it_rng {lo:Int}{k:Nat}:ItAt ex (Itr lo k) (rngD lo k) H:=by
 refine ⟨by rw [rngD_len];exact Nat.le_refl _,fun i d e=>?_⟩
 have hi:i<k:=by
  have:=(List.getElem?_eq_some_iff.mp e).1
  rw [rngD_len] at this
  exact this
 unfold rngD at e
 rw [List.getElem?_map,List.getElem?_range hi] at e
 cases e
 refine ⟨hi,fun x H' y=>?_⟩
 obtain ⟨rfl,rfl⟩:=y
 exact ⟨.refl,.int _⟩
noncomputable def seqD:PyData→Option (List PyData)
 | .list xs=>some xs
 | .tuple xs=>some xs
 | _=>none
theorem rep_seq {d:PyData}{v:V}{ds:List PyData}(r:Rep ex H d v) (h:seqD d=some ds):∃ (c:Bool) (a:Addr) (vs:List V),v = .ref a∧(∀ K,SqK c K H a vs)∧Reps ex H ds vs∧((c=true∧H a=some (.tup vs))∨(c=false∧H a=some (.lst vs)))∧a∉ex:=by
 cases r with
 | tuple e n z rs=>cases h;exact ⟨true,_,_,rfl,fun K=>SqT.of e,rs,.inl ⟨rfl,e⟩,n⟩
 | list e n z rs=>cases h;exact ⟨false,_,_,rfl,fun K=>SqL.of e,rs,.inr ⟨rfl,e⟩,n⟩
 | none=>cases h
 | obj=>cases h
 | dctf=>cases h
 | bool=>cases h
 | int=>cases h
 | str=>cases h
theorem two_line:(2:Nat)≤sizeLine:=by rw [sizeLine_eq];decide
theorem three_line:(3:Nat)≤sizeLine:=by rw [sizeLine_eq];decide
noncomputable def zipD (ds es:List PyData):List PyData:=List.zipWith (fun x y=>.tuple [x,y]) ds es
theorem it_zip {c c':Bool}{a a':Addr}{vs vs':List V}{ds es:List PyData}(al:Alc ex H) (ha:SqK c K H a vs) (r:Reps ex H ds vs) (ha':SqK c' K H a' vs') (r':Reps ex H es vs'):ItAt ex (Itz c c' K a a') (zipD ds es) H:=by
 unfold zipD
 refine ⟨⟨vs,vs',ha,ha',by rw [List.length_zipWith,r.length,r'.length]⟩,fun i d e=>?_⟩
 rw [List.getElem?_zipWith] at e
 cases hd:ds[i]? with
 | none=>rw [hd] at e;cases e
 | some d0=>
  cases he:es[i]? with
  | none=>rw [hd,he] at e;cases e
  | some e0=>
   rw [hd,he] at e
   cases e
   obtain ⟨v,ev,rv⟩:=r.get hd
   obtain ⟨v',ev',rv'⟩:=r'.get he
   refine ⟨⟨vs,vs',v,v',ha,ha',ev,ev'⟩,fun x H' y=>?_⟩
   obtain ⟨p,y,y',hp,rfl,rfl,hy,hy'⟩:=y
   have:=hy vs ha
   rw [ev] at this
   cases this
   have:=hy' vs' ha'
   rw [ev'] at this
   cases this
   exact ⟨Kp.new hp _,.tuple upd_same (al.nm hp) two_line (.cons (rv.keep (Kp.new hp _)) (.cons (rv'.keep (Kp.new hp _)) .nil))⟩
noncomputable abbrev gIter (f:PyData→Option (List PyData)) (g:GE):GN:=fun env n Q=>g env n fun d n1=>match f d with
 | some ds=>Q ds n1
 | none=>False
noncomputable def lstD:PyData→Option (List PyData)
 | .list xs=>some xs
 | _=>none
noncomputable def tupD':PyData→Option (List PyData)
 | .tuple xs=>some xs
 | _=>none
noncomputable instance iv_list [A:EV true te g]:IV (iList K te) (gIter lstD g):=⟨fun {S ex env σ H n R P} E h k=>A.ev E h fun d n1 v H1 h1 s1 r1=>by
 cases r1 with
 | list e m z rs=>
  refine ⟨_,rfl,⟨_,SqL.of e⟩,k _ _ _ [(PyData.list _,V.ref _)] _ h1 s1 (fun h hh=>by rw [List.mem_singleton.mp hh];exact .list e m z rs) fun ex' H2 al hr=>?_⟩
  have:=hr _ (List.mem_singleton.mpr rfl)
  cases this with
  | list e m z rs=>exact it_list e rs
 | none=>exact h1.elim
 | obj=>exact h1.elim
 | dctf=>exact h1.elim
 | bool=>exact h1.elim
 | str=>exact h1.elim
 | int=>exact h1.elim
 | tuple=>exact h1.elim⟩
noncomputable instance iv_tup [A:EV true te g]:IV (iTup K te) (gIter tupD' g):=⟨fun {S ex env σ H n R P} E h k=>A.ev E h fun d n1 v H1 h1 s1 r1=>by
 cases r1 with
 | tuple e m z rs=>
  refine ⟨_,rfl,⟨_,SqT.of e⟩,k _ _ _ [(PyData.tuple _,V.ref _)] _ h1 s1 (fun h hh=>by rw [List.mem_singleton.mp hh];exact .tuple e m z rs) fun ex' H2 al hr=>?_⟩
  have:=hr _ (List.mem_singleton.mpr rfl)
  cases this with
  | tuple e m z rs=>exact it_tup e rs
 | none=>exact h1.elim
 | obj=>exact h1.elim
 | dctf=>exact h1.elim
 | bool=>exact h1.elim
 | str=>exact h1.elim
 | int=>exact h1.elim
 | list=>exact h1.elim⟩
noncomputable abbrev gIterO (i:Nat):GN:=fun env n Q=>match env[i]? with
 | some (.own xs)=>Q xs n
 | some (.d (.list xs))=>Q xs n
 | _=>False
noncomputable instance (priority:=high) ic_own {i:Nat}:IC (iList K (tVar i)) (gIterO i):=⟨fun {S ex env σ H n R P} E h k=>by
 unfold gIterO at h
 split at h
 · rename_i xs e
   obtain ⟨a,vs,ev,h1,h2,h3,h4,h5⟩:=E.sl i _ e
   refine ⟨_,join_some ev,_,rfl,⟨_,SqL.of h1⟩,k _ _ _ _ h (.refl E.inv) fun l H2 hl kp al=>?_⟩
   have na:a≠l:=ne_of_none h1 hl
   exact it_list (kp _ _ h1 fun z=>(List.mem_cons.mp z).elim na h5) ((Reps.add hl h3).keep (kp_cons E.ch kp))
 · rename_i xs e
   obtain ⟨v,ev,r⟩:=E.sl i _ e
   cases r with
   | list e1 m z rs=>
    refine ⟨_,join_some ev,_,rfl,⟨_,SqL.of e1⟩,k _ _ _ _ h (.refl E.inv) fun l H2 hl kp al=>?_⟩
    have:=(Rep.add hl (.list e1 m z rs)).keep (kp_cons E.ch kp)
    cases this with
    | list e m z rs=>exact it_list e rs
 · exact h.elim⟩
noncomputable abbrev gRng1 (t:GN):GN:=fun env n Q=>t env n fun ds n1=>∃ j:Int,ds=[.int j]∧(-(2^62)≤j∧j<2^62)∧Q (rngD 0 j.toNat) n1
noncomputable instance iv_rng1 {t:TA}{gt:GN} [A:DV false t gt]:IV (iRng1 t) (gRng1 gt):=⟨fun {S ex env σ H n R P} E h k=>A.dv E h fun ds n1 vs H1 h1 s1 r1=>by
 obtain ⟨j,rfl,h2,q⟩:=h1
 cases r1 with
 | cons r1 t=>
  cases t
  cases r1
  exact ⟨j,rfl,h2.1,h2.2,k _ _ _ [] _ q s1 (fun h hh=>by cases hh) fun ex' H2 al _=>it_rng⟩⟩
noncomputable abbrev gZip (t:GN):GN:=fun env n Q=>t env n fun ds n1=>∃ d e xs ys,ds=[d,e]∧seqD d=some xs∧seqD e=some ys∧Q (zipD xs ys) n1
theorem rep_seqc {d:PyData}{ds:List PyData}{c:Bool}{a:Addr}{vs:List V}(hs:seqD d=some ds) (hc:(c=true∧H a=some (.tup vs))∨(c=false∧H a=some (.lst vs))) (r:Rep ex H d (.ref a)) (ex':List Addr) (H2:Hp) (r2:Rep ex' H2 d (.ref a)):∃ vs',(∀ K,SqK c K H2 a vs')∧Reps ex' H2 ds vs':=by
 cases r2 with
 | obj=>cases hs
 | dctf=>cases hs
 | tuple e n z rs=>
  cases hs
  refine ⟨_,fun K=>?_,rs⟩
  rcases hc with ⟨rfl,_⟩ | ⟨_,h⟩
  · exact SqT.of e
  · cases r with | tuple e' _ _ _=>rw [h] at e';cases e'
 | list e n z rs=>
  cases hs
  refine ⟨_,fun K=>?_,rs⟩
  rcases hc with ⟨_,h⟩ | ⟨rfl,_⟩
  · cases r with | list e' _ _ _=>rw [h] at e';cases e'
  · exact SqL.of e
noncomputable instance iv_zip {t:TA}{gt:GN} [A:DV true t gt]:IV (iZip K t) (gZip gt):=⟨fun {S ex env σ H n R P} E h k=>A.dv E h fun ds n1 vs H1 h1 s1 r1=>by
 obtain ⟨d,e,xs,ys,rfl,hs,hs',q⟩:=h1
 cases r1 with
 | cons r1 t=>
  cases t with
  | cons r2 t=>
   cases t
   obtain ⟨c,a,ws,rfl,hq,rs,hc,na⟩:=rep_seq r1 hs
   obtain ⟨c',a',ws',rfl,hq',rs',hc',na'⟩:=rep_seq r2 hs'
   refine ⟨c,c',a,a',ws,ws',rfl,hq K,hq' K,k _ _ _ [(d,V.ref a),(e,V.ref a')] _ q s1 (fun h hh=>?_) fun ex' H2 al hr=>?_⟩
   · rcases List.mem_cons.mp hh with e | hh
     · rw [e];exact r1
     · rw [List.mem_singleton.mp hh];exact r2
   obtain ⟨v1,h3,h4⟩:=rep_seqc hs hc r1 ex' H2 (hr _ List.mem_cons_self)
   obtain ⟨v2,h5,h6⟩:=rep_seqc hs' hc' r2 ex' H2 (hr _ (List.mem_cons_of_mem _ (List.mem_singleton.mpr rfl)))
   exact it_zip al (h3 K) h4 (h5 K) h6⟩
end
noncomputable def ownAt (env:List Vl) (σ:L2.St) (i:Nat):List Addr:=match env[i]?,(σ[i]?).join with
 | some (.own _),some (.ref a)=>[a]
 | some (.dct _),some (.ref a)=>[a]
 | some (.own2 _ ps),some (.ref a)=>a::ps.map (·.1)
 | _,_=>[]
noncomputable abbrev GG:=PyData→List Vl→(List Vl→Prop)→Prop
noncomputable abbrev GGs:=List PyData→List Vl→(List Vl→Prop)→Prop
class GV (g:TG) (bd:outParam GG) (ks:outParam (List Nat)):Prop where
 gv:∀ {S:Src} {ex:List Addr} {env:List Vl} {σ:L2.St} {H:Hp} {n:Nat} {d:PyData} {v:V} {Q:L2.St→Hp→Prop} {P:List Vl→Prop},Ev S ex env σ H n→Rep ex H d v→bd d env P →
  (∀ env' σ',P env'→Ev S ex env' σ' H n→(∀ i a,a∈ownAt env' σ' i→a∈ownAt env σ i)→(∀ i:Nat,i∉ks→σ'[i]? = σ[i]?)→σ'.length = σ.length→Q σ' H)→g v σ H Q
class GVs (g:TGs) (bd:outParam GGs) (ks:outParam (List Nat)):Prop where
 gvs:∀ {S:Src} {ex:List Addr} {env:List Vl} {σ:L2.St} {H:Hp} {n:Nat} {d:List PyData} {v:List V} {Q:L2.St→Hp→Prop} {P:List Vl→Prop},Ev S ex env σ H n→Reps ex H d v→bd d env P →
  (∀ env' σ',P env'→Ev S ex env' σ' H n→(∀ i a,a∈ownAt env' σ' i→a∈ownAt env σ i)→(∀ i:Nat,i∉ks→σ'[i]? = σ[i]?)→σ'.length = σ.length→Q σ' H)→g v σ H Q
noncomputable abbrev bName (i:Nat):GG:=fun d env P=>P (env.set i (.d d))
theorem Ev.put {S:Src}{ex:List Addr}{env:List Vl}{σ:L2.St}{H:Hp}{n i:Nat}{w:Vl}{v:V}(E:Ev S ex env σ H n) (h:SlR S ex H w (some v)):Ev S ex (env.set i w) (σ.set i (some v)) H n:=by
 refine ⟨by rw [List.length_set,List.length_set];exact E.len,fun j u e=>?_,E.ch,E.al,E.inv⟩
 by_cases hj:i=j
 · subst hj
   have hl:i<env.length:=by
    have:=(List.getElem?_eq_some_iff.mp e).1
    rw [List.length_set] at this;exact this
   rw [List.getElem?_set_self hl] at e
   cases e
   rw [List.getElem?_set_self (Nat.lt_of_lt_of_le hl E.len)]
   exact h
 · rw [List.getElem?_set_ne hj] at e ⊢
   exact E.sl j u e
theorem own_put {env:List Vl}{σ:L2.St}{i:Nat}{d:PyData}{v:V}:∀ j a,a∈ownAt (env.set i (.d d)) (σ.set i (some v)) j→a∈ownAt env σ j:=fun j a h=>by
 unfold ownAt at h ⊢
 by_cases hj:i=j
 · subst hj
   by_cases hl:i<env.length
   · rw [List.getElem?_set_self hl] at h
     cases h
   · rw [List.getElem?_eq_none (by rw [List.length_set];omega)] at h
     cases h
 · rw [List.getElem?_set_ne hj,List.getElem?_set_ne hj] at h
   exact h
noncomputable instance gv_name {i:Nat}:GV (gName i) (bName i) [i]:=⟨fun {S ex env σ H n d v Q P} E r h k=>k _ _ h (E.put ⟨v,rfl,r⟩) own_put (fun j hj=>List.getElem?_set_ne (fun z=>hj (by rw [z];exact List.mem_singleton.mpr rfl))) List.length_set⟩
noncomputable abbrev bNil:GGs:=fun ds env P=>ds=[]∧P env
noncomputable abbrev bCons (t:GG) (u:GGs):GGs:=fun ds env P=>match ds with
 | d::r=>t d env fun env1=>u r env1 P
 | []=>False
noncomputable instance gvs_nil:GVs L2.gNil bNil []:=⟨fun {S ex env σ H n d v Q P} E r h k=>by
 obtain ⟨rfl,h⟩:=h
 cases r
 exact ⟨rfl,k _ _ h E (fun _ _ h=>h) (fun _ _=>rfl) rfl⟩⟩
noncomputable instance gvs_cons {t:TG}{u:TGs}{bt:GG}{bu:GGs}{k1 k2:List Nat} [A:GV t bt k1] [B:GVs u bu k2]:GVs (L2.gCons t u) (bCons bt bu) (k1++k2):=⟨fun {S ex env σ H n d v Q P} E r h k=>by
 cases r with
 | nil=>exact h.elim
 | cons r1 t=>
  refine ⟨_,_,rfl,A.gv E r1 h fun env1 σ1 h1 E1 o1 f1 z1=>B.gvs E1 t h1 fun env2 σ2 h2 E2 o2 f2 z2=>k _ _ h2 E2 (fun i a ha=>o1 i a (o2 i a ha)) (fun i hi=>?_) (z2.trans z1)⟩
  rw [f2 i fun z=>hi (List.mem_append_right _ z),f1 i fun z=>hi (List.mem_append_left _ z)]⟩
noncomputable abbrev bTup (k:Nat) (bs:GGs):GG:=fun d env P=>match d with
 | .tuple ds=>ds.length=k∧bs ds env P
 | _=>False
noncomputable abbrev bLst (k:Nat) (bs:GGs):GG:=fun d env P=>match d with
 | .list ds=>ds.length=k∧bs ds env P
 | _=>False
noncomputable instance gv_tup {K:PySem.W.Frag}{k:Nat}{t:TGs}{bs:GGs}{ks:List Nat} [A:GVs t bs ks]:GV (gTup K k t) (bTup k bs) ks:=⟨fun {S ex env σ H n d v Q P} E r h k=>by
 cases r with
 | tuple e m z rs=>exact ⟨_,_,rfl,SqT.of e,by rw [← rs.length];exact h.1,A.gvs E rs h.2 k⟩
 | none=>exact h.elim
 | obj=>exact h.elim
 | dctf=>exact h.elim
 | bool=>exact h.elim
 | str=>exact h.elim
 | int=>exact h.elim
 | list=>exact h.elim⟩
noncomputable instance gv_lst {K:PySem.W.Frag}{k:Nat}{t:TGs}{bs:GGs}{ks:List Nat} [A:GVs t bs ks]:GV (gTupL K k t) (bLst k bs) ks:=⟨fun {S ex env σ H n d v Q P} E r h k=>by
 cases r with
 | list e m z rs=>exact ⟨_,_,rfl,SqL.of e,by rw [← rs.length];exact h.1,A.gvs E rs h.2 k⟩
 | none=>exact h.elim
 | obj=>exact h.elim
 | dctf=>exact h.elim
 | bool=>exact h.elim
 | str=>exact h.elim
 | int=>exact h.elim
 | tuple=>exact h.elim⟩
noncomputable def cmpW (f:PyData→Nat→(Option PyData→Nat→Prop)→Prop):List PyData→Nat→(List PyData→Nat→Prop)→Prop
 | [],n,Q=>Q [] n
 | x::xs,n,Q=>f x n fun o n1=>cmpW f xs n1 fun ys n2=>Q (o.toList++ys) n2
noncomputable def jenv (k:Nat) (idx:List Nat) (env:List Vl):List Vl:=List.replicate k .jnk++idx.map fun i=>(env[i]?).getD .jnk
noncomputable abbrev gTurn (bd:GG) (gt:GT) (ge:GE) (env:List Vl):PyData→Nat→(Option PyData→Nat→Prop)→Prop:=fun x n Q=>bd x env fun env'=>gt env' n fun c n1=>if c=true then ge env' n1 fun y n2=>Q (some y) n2 else Q none n1
noncomputable abbrev gComp (gi:GN) (k:Nat) (idx:List Nat) (ks:List Nat) (bd:GG) (gt:GT) (ge:GE):GN:=fun env n Q=>gi env n fun items n1=>(ks.all (fun i=>decide (i<k))=true∧items.length≤sizeLine)∧cmpW (gTurn bd gt ge (jenv k idx env)) items n1 Q
theorem SlR.add {S:Src}{ex:List Addr}{H:Hp}{l:Addr}{w:Vl}{o:Option V}(hl:H l=none) (h:SlR S ex H w o):SlR S (l::ex) H w o:=by
 cases w with
 | jnk=>trivial
 | jar=>exact h
 | tape=>exact h
 | d x=>obtain ⟨v,e,r⟩:=h;exact ⟨v,e,Rep.add hl r⟩
 | pin v x=>obtain ⟨e,r⟩:=h;exact ⟨e,Rep.add hl r⟩
 | own xs=>obtain ⟨a,vs,e,h1,h2,h3,h4,h5⟩:=h;exact ⟨a,vs,e,h1,h2,Reps.add hl h3,List.mem_cons_of_mem _ h4,h5⟩
 | dct kvs=>obtain ⟨a,kws,e,h1,⟨h2,h3⟩,h4,h5⟩:=h;exact ⟨a,kws,e,h1,⟨h2,Reps.add hl h3⟩,List.mem_cons_of_mem _ h4,h5⟩
 | own2 ks ps=>obtain ⟨a,e,q⟩:=h;exact ⟨a,e,q.h,q.z,q.k,q.nd,List.mem_cons_of_mem _ q.m,q.c,fun p hp=>let w:=q.i p hp;⟨List.mem_cons_of_mem _ w.m,w.c,let ⟨vs,h1,h2,h3⟩:=w.h;⟨vs,h1,h2,Reps.add hl h3⟩⟩⟩
theorem SlR.upd {S:Src}{ex:List Addr}{H:Hp}{l:Addr}{w:Vl}{o:Option V}{u:HO}(hl:l∈ex) (hn:∀ b∈ownAt [w] [o] 0,b≠l) (h:SlR S ex H w o):SlR S ex (upd H l u) w o:=by
 cases w with
 | jnk=>trivial
 | jar=>exact h
 | tape=>exact h
 | d x=>obtain ⟨v,e,r⟩:=h;exact ⟨v,e,r.keep (Kp.at hl _)⟩
 | pin v x=>obtain ⟨e,r⟩:=h;exact ⟨e,r.keep (Kp.at hl _)⟩
 | own xs=>obtain ⟨a,vs,e,h1,h2,h3,h4,h5⟩:=h;subst e;exact ⟨a,vs,rfl,by rw [upd_ne (hn a List.mem_cons_self)];exact h1,h2,h3.keep (Kp.at hl _),h4,h5⟩
 | dct kvs=>obtain ⟨a,kws,e,h1,⟨h2,h3⟩,h4,h5⟩:=h;subst e;exact ⟨a,kws,rfl,by rw [upd_ne (hn a List.mem_cons_self)];exact h1,⟨h2,h3.keep (Kp.at hl _)⟩,h4,h5⟩
 | own2 ks ps=>obtain ⟨a,e,q⟩:=h;subst e;exact ⟨a,rfl,by rw [upd_ne (hn a List.mem_cons_self)];exact q.h,q.z,q.k,q.nd,q.m,q.c,fun p hp=>let w:=q.i p hp;⟨w.m,w.c,let ⟨vs,h1,h2,h3⟩:=w.h;⟨vs,by rw [upd_ne (hn p.1 (List.mem_cons_of_mem _ (List.mem_map.mpr ⟨p,hp,rfl⟩)))];exact h1,h2,h3.keep (Kp.at hl _)⟩⟩⟩
theorem ev_inner {S:Src}{ex:List Addr}{env:List Vl}{σ:L2.St}{H:Hp}{n:Nat}(E:Ev S ex env σ H n) (k:Nat) (idx:List Nat):Ev S ex (jenv k idx env) (startC k idx σ) H n:=by
 refine ⟨by unfold jenv startC;simp,fun i w e=>?_,E.ch,E.al,E.inv⟩
 unfold jenv at e
 by_cases hi:i<k
 · rw [List.getElem?_append_left (by simpa using hi),List.getElem?_replicate,if_pos hi] at e
   cases e
   trivial
 · rw [List.getElem?_append_right (by simpa using Nat.le_of_not_lt hi),List.getElem?_map] at e
   rw [List.length_replicate] at e
   cases hj:idx[i-k]? with
   | none=>rw [hj] at e;cases e
   | some j=>
    rw [hj] at e
    cases e
    have e2:(startC k idx σ)[i]? = some ((σ[j]?).join):=by
     unfold startC
     rw [List.getElem?_append_right (by simpa using Nat.le_of_not_lt hi),List.length_replicate,List.getElem?_map,hj];rfl
    rw [e2]
    show SlR S ex H ((env[j]?).getD .jnk) (σ[j]?).join
    cases hw:env[j]? with
    | none=>exact trivial
    | some w=>exact E.sl j w hw
theorem ev_turn {S:Src}{ex:List Addr}{je:List Vl}{σ0 σ':L2.St}{H1 H2:Hp}{n1 n2 k:Nat}{l:Addr}(E:Ev S ex je σ0 H1 n1) (hl:H1 l=none) (kp:Kp (l::S.ch) H1 H2) (h2:H2 l≠none) (iv:S.inv n2 H2) (hj:∀ j:Nat,j<k→je[j]? = none∨je[j]? = some .jnk) (hs:∀ j:Nat,k≤j→σ'[j]? = σ0[j]?) (hz:σ'.length = σ0.length):Ev S (l::ex) je σ' H2 n2:=by
 have hc:∀ a∈S.ch,a∈l::ex:=fun a h=>List.mem_cons_of_mem _ (E.ch a h)
 have kx:Kp (l::ex) H1 H2:=kp_cons E.ch kp
 refine ⟨by rw [hz];exact E.len,fun j w e=>?_,hc,fun a ha=>?_,iv⟩
 · by_cases hjk:j<k
   · rcases hj j hjk with h | h
     · rw [h] at e;cases e
     · rw [h] at e;cases e;trivial
   · rw [hs j (Nat.le_of_not_lt hjk)]
     have h:=SlR.add hl (E.sl j w e)
     cases w with
     | jnk=>trivial
     | jar=>exact h
     | tape=>exact h
     | d x=>obtain ⟨v,e,r⟩:=h;exact ⟨v,e,r.keep kx⟩
     | pin v x=>obtain ⟨e,r⟩:=h;exact ⟨e,r.keep kx⟩
     | own xs=>obtain ⟨a,vs,e,h1,h2,h3,h4,h5⟩:=h;exact ⟨a,vs,e,kp _ _ h1 fun z=>(List.mem_cons.mp z).elim (ne_of_none h1 hl) h5,h2,h3.keep kx,h4,h5⟩
     | dct kvs=>obtain ⟨a,kws,e,h1,⟨h2,h3⟩,h4,h5⟩:=h;exact ⟨a,kws,e,kp _ _ h1 fun z=>(List.mem_cons.mp z).elim (ne_of_none h1 hl) h5,⟨h2,h3.keep kx⟩,h4,h5⟩
     | own2 ks ps=>obtain ⟨a,e,q⟩:=h;exact ⟨a,e,kp _ _ q.h fun z=>(List.mem_cons.mp z).elim (ne_of_none q.h hl) q.c,q.z,q.k,q.nd,q.m,q.c,fun p hp=>let w:=q.i p hp;⟨w.m,w.c,let ⟨vs,h1,h2,h3⟩:=w.h;⟨vs,kp _ _ h1 fun z=>(List.mem_cons.mp z).elim (ne_of_none h1 hl) w.c,h2,h3.keep kx⟩⟩⟩
 · rcases List.mem_cons.mp ha with rfl | ha
   · exact h2
   · by_cases hac:a∈S.ch
     · exact S.dom iv a hac
     · intro z
       cases e:H1 a with
       | none=>exact E.al a ha e
       | some o=>
        rw [kp a o e fun q=>(List.mem_cons.mp q).elim (ne_of_none e hl) hac] at z
        cases z
theorem jenv_jnk {k:Nat}{idx:List Nat}{env:List Vl}(j:Nat) (h:j<k):(jenv k idx env)[j]? = none∨(jenv k idx env)[j]? = some .jnk:=by
 right
 unfold jenv
 rw [List.getElem?_append_left (by simpa using h),List.getElem?_replicate,if_pos h]
noncomputable instance nv_comp {wi:TI}{gi:GN}{k:Nat}{idx ks:List Nat}{g:TG}{bd:GG}{tt:TT}{gt:GT}{te:TE}{ge:GE} [I:IC wi gi] [G:GV g bd ks] [T:TV tt gt] [A:EV true te ge]:NV (tComp wi k idx g tt te) (gComp gi k idx ks bd gt ge):=⟨fun {S ex env σ H n Q P} E h kk=>by
 refine I.ic E h fun items n1 J H1 hc s1 hit l hl=>?_
 obtain ⟨⟨hk,hz⟩,hc⟩:=hc
 have E1:=ev_inner (E.step s1) k idx
 have lch:l∉S.ch:=fun z=>S.dom s1.2 l z hl
 have hkk:∀ i∈ks,i<k:=fun i hi=>of_decide_eq_true (List.all_eq_true.mp hk i hi)
 refine ⟨fun i m σ' H2=>i≤items.length∧m=items.length-i∧∃ (n2:Nat) (ds:List PyData) (vs:List V),cmpW (gTurn bd gt ge (jenv k idx env)) (items.drop i) n2 (fun ys n'=>P (ds++ys) n')∧Kp (l::S.ch) H1 H2∧H2 l=some (.lst vs)∧vs.length≤i∧Reps (l::ex) H2 ds vs∧S.inv n2 H2∧(∀ j:Nat,k≤j→σ'[j]? = (startC k idx σ)[j]?)∧σ'.length=(startC k idx σ).length,
  ⟨items.length,Nat.zero_le _,rfl,n1,[],[],by simpa using hc,Kp.new hl _,upd_same,Nat.le_refl _,.nil,S.keep s1.2 fun b _ o' e=>Kp.new (ex:=[]) hl _ _ _ e (by simp),fun _ _=>rfl,rfl⟩,?_⟩
 rintro i m σ' H2 ⟨hi,rfl,n2,ds,vs,hcm,kp,h2l,hvl,rs,iv2,hsl,hln⟩
 have E2:Ev S (l::ex) (jenv k idx env) σ' H2 n2:=ev_turn E1 hl kp (by rw [h2l];intro z;cases z) iv2 jenv_jnk hsl hln
 have IT:=hit l H2 hl kp E2.al
 rcases Nat.lt_or_ge i items.length with hlt | hge
 · refine .inr ⟨(IT.2 i items[i] (List.getElem?_eq_getElem hlt)).1,fun x H3 y=>?_⟩
   obtain ⟨kp3,rx⟩:=(IT.2 i items[i] (List.getElem?_eq_getElem hlt)).2 x H3 y
   rw [List.drop_eq_getElem_cons hlt] at hcm
   have st3:Step S n2 H2 H3:=Step.new E2.inv kp3
   have E3:=E2.step st3
   refine G.gv E3 rx hcm fun env' σ2 ht E4 _ hs hl2=>T.tv E4 ht fun c n4 H4 h4 s4=>?_
   have hs2:∀ j:Nat,k≤j→σ2[j]? = (startC k idx σ)[j]?:=fun j hj=>by
    rw [hs j fun z=>by have:=hkk j z;omega];exact hsl j hj
   cases c with
   | true=>
    refine A.ev (E4.step s4) h4 fun d n5 v H5 h5 s5 r5=>?_
    have s25:=st3.trans (s4.trans s5)
    have k5:Kp S.ch H2 H5:=s25.1
    have h5l:H5 l=some (.lst vs):=k5 _ _ h2l lch
    refine ⟨vs,h5l,by omega,_,(?_:items.length-(i+1)<_),hlt,rfl,n5,ds++[d],vs++[v],?_,?_,upd_same,?_,?_,?_,hs2,hl2.trans hln⟩
    · omega
    · simpa using h5
    · exact (kp.trans (k5.mono fun b hb=>List.mem_cons_of_mem _ hb)).trans (Kp.at List.mem_cons_self _)
    · rw [List.length_append,List.length_singleton];omega
    · have q1:Reps (l::ex) H5 ds vs:=rs.keep (k5.mono E2.ch)
      exact (Reps.append q1 (.cons r5 .nil)).keep (Kp.at List.mem_cons_self _)
    · exact S.keep s25.2 fun b hb o e=>by rw [upd_ne (fun z=>lch (by rw [← z];exact hb))];exact e
   | false=>
    have s24:=st3.trans s4
    refine ⟨_,(?_:items.length-(i+1)<_),hlt,rfl,n4,ds,vs,by simpa using h4,kp.trans (s24.1.mono fun b hb=>List.mem_cons_of_mem _ hb),s24.1 _ _ h2l lch,by omega,rs.keep (s24.1.mono E2.ch),s24.2,hs2,hl2.trans hln⟩
    omega
 · have e:i=items.length:=by omega
   subst e
   rw [List.drop_length] at hcm
   refine .inl ⟨IT.1,kk _ _ _ _ _ (by simpa [cmpW] using hcm) ⟨fun b o e nb=>kp b o (s1.1 b o e nb) fun z=>(List.mem_cons.mp z).elim (fun e2=>by rw [e2,s1.free hl] at e;cases e) nb,iv2⟩ (s1.free hl) h2l (Nat.le_trans hvl hz) rs⟩⟩
structure VEnds where
 nx:List Vl→Nat→Prop
 rt:PyData→Nat→Prop
 rtn:List PyData→Nat→Prop
 bk:List Vl→Nat→Prop:=fun _ _=>False
 ct:List Vl→Nat→Prop:=fun _ _=>False
 xc:XK→Addr→Nat→Prop:=fun _ _ _=>False
 rt2:List (List PyData)→Nat→Prop:=fun _ _=>False
noncomputable abbrev GS:=VEnds→List Vl→Nat→Prop
structure Cv where
 S:Src
 ex0:List Addr
 H0:Hp
 held:List (PyData×V)
structure At (C:Cv) (ex:List Addr) (env:List Vl) (σ:L2.St) (H:Hp) (n:Nat):Prop where
 ev:Ev C.S ex env σ H n
 ex0:∀ a∈C.ex0,a∈ex
 al0:Alc C.ex0 C.H0
 sep:∀ i j a,a∈ownAt env σ i→a∈ownAt env σ j→i=j
 new:∀ i a,a∈ownAt env σ i→C.H0 a=none
 kp:Kp C.S.ch C.H0 H
 held:∀ h∈C.held,Rep ex H h.1 h.2
structure Ret (C:Cv) (d:PyData) (n:Nat) (v:V) (H:Hp):Prop where
 kp:Kp C.S.ch C.H0 H
 inv:C.S.inv n H
 r:Rep C.ex0 H d v
structure RetN (C:Cv) (ds:List PyData) (n:Nat) (a:Addr) (H:Hp):Prop where
 kp:Kp C.S.ch C.H0 H
 inv:C.S.inv n H
 fr:C.H0 a=none
 r:∃ vs,H a=some (.lst vs)∧vs.length≤sizeLine∧Reps (a::C.ex0) H ds vs
structure Ret2 (C:Cv) (ps:List (Addr×List PyData)) (n:Nat) (a:Addr) (H:Hp):Prop where
 kp:Kp C.S.ch C.H0 H
 inv:C.S.inv n H
 fr:C.H0 a=none
 frs:∀ p∈ps,C.H0 p.1=none
 o:Own2 C.S (a::ps.map (·.1)++C.ex0) H none ps a
structure EndsOk (C:Cv) (G:VEnds) (D:Ends):Prop where
 nx:∀ {ex env σ H n},At C ex env σ H n→G.nx env n→D.nx σ H
 bk:∀ {ex env σ H n},At C ex env σ H n→G.bk env n→D.bk σ H
 ct:∀ {ex env σ H n},At C ex env σ H n→G.ct env n→D.ct σ H
 rt:∀ {d n v H},Ret C d n v H→G.rt d n→D.rt v H
 rtn:∀ {ds n a H},RetN C ds n a H→G.rtn ds n→D.rt (.ref a) H
 xc:∀ {E c n H},Kp C.S.ch C.H0 H→C.S.inv n H→G.xc E c n→E (.ref c) none H
 r2:∀ {ps n a H},Ret2 C ps n a H→G.rt2 (ps.map (·.2)) n→D.rt (.ref a) H
class SV (ts:TS) (gs:outParam GS):Prop where
 sv:∀ {C:Cv} {G:VEnds} {D:Ends},EndsOk C G D→∀ {ex env σ H n},At C ex env σ H n→gs G env n→ts D σ H
section
variable {C:Cv}{ex:List Addr}{env:List Vl}{σ:L2.St}{H H':Hp}{n m:Nat}
theorem At.step (A:At C ex env σ H n) (s:Step C.S m H H'):At C ex env σ H' m:=⟨A.ev.step s,A.ex0,A.al0,A.sep,A.new,A.kp.trans s.1,fun h hh=>A.ev.rep s (A.held h hh)⟩
theorem own_sl {i:Nat}{a:Addr}(E:Ev C.S ex env σ H n) (h:a∈ownAt env σ i):H a≠none∧a∈ex∧a∉C.S.ch:=by
 unfold ownAt at h
 split at h
 · rename_i xs b e1 e2
   obtain ⟨c,vs,e,h1,h2,h3,h4,h5⟩:=E.sl i _ e1
   rw [e2] at e
   cases e
   rw [List.mem_singleton.mp h]
   exact ⟨(by rw [h1];intro z;cases z),h4,h5⟩
 · rename_i xs b e1 e2
   obtain ⟨c,vs,e,h1,h2,h4,h5⟩:=E.sl i _ e1
   rw [e2] at e
   cases e
   rw [List.mem_singleton.mp h]
   exact ⟨(by rw [h1];intro z;cases z),h4,h5⟩
 · rename_i ks ps b e1 e2
   obtain ⟨c,e,q⟩:=E.sl i _ e1
   rw [e2] at e
   cases e
   rcases List.mem_cons.mp h with rfl | h
   · exact ⟨(by rw [q.h];exact Option.some_ne_none _),q.m,q.c⟩
   · obtain ⟨p,hp,rfl⟩:=List.mem_map.mp h
     have w:=q.i p hp
     obtain ⟨vs,h1,_⟩:=w.h
     exact ⟨(by rw [h1];exact Option.some_ne_none _),w.m,w.c⟩
 · cases h
theorem set_get {α:Type}{l:List α}{i:Nat}{a b:α}(h:(l.set i a)[i]? = some b):b=a:=by
 have hl:=(List.getElem?_eq_some_iff.mp h).1
 rw [List.length_set] at hl
 rw [List.getElem?_set_self hl] at h
 exact (Option.some.inj h).symm
theorem own_one {j:Nat}{w:Vl}(e:env[j]? = some w):ownAt env σ j=ownAt [w] [(σ[j]?).join] 0:=by
 unfold ownAt
 rw [e]
 rfl
theorem At.put (A:At C ex env σ H n) {i:Nat}{d:PyData}{v:V}(r:Rep ex H d v):At C ex (env.set i (.d d)) (σ.set i (some v)) H n:=
 ⟨A.ev.put ⟨v,rfl,r⟩,A.ex0,A.al0,fun j k a h1 h2=>A.sep j k a (own_put j a h1) (own_put k a h2),fun j a h=>A.new j a (own_put j a h),A.kp,A.held⟩
theorem At.bind (A:At C ex env σ H n) {env':List Vl}{σ':L2.St}(E:Ev C.S ex env' σ' H n) (o:∀ i a,a∈ownAt env' σ' i→a∈ownAt env σ i):At C ex env' σ' H n:=
 ⟨E,A.ex0,A.al0,fun j k a h1 h2=>A.sep j k a (o j a h1) (o k a h2),fun j a h=>A.new j a (o j a h),A.kp,A.held⟩
theorem At.free (A:At C ex env σ H n) {a:Addr}(h:H a=none):C.H0 a=none:=by
 cases e:C.H0 a with
 | none=>rfl
 | some o=>
  by_cases hp:a∈C.S.ch
  · exact absurd h (C.S.dom A.ev.inv a hp)
  · rw [A.kp a o e hp] at h;cases h
theorem own_other {i j:Nat}{w:Vl}{o:Option V}(h:i≠j):ownAt (env.set i w) (σ.set i o) j=ownAt env σ j:=by
 unfold ownAt
 rw [List.getElem?_set_ne h,List.getElem?_set_ne h]
theorem own_at {i:Nat}{ds:List PyData}{a b:Addr}(h:b∈ownAt (env.set i (.own ds)) (σ.set i (some (.ref a))) i):b=a:=by
 unfold ownAt at h
 split at h
 · rename_i c e1 e2
   have e3:(σ.set i (some (.ref a)))[i]? = some (some (.ref c)):=join_some e2
   have:=set_get e3
   cases this
   exact List.mem_singleton.mp h
 · rename_i e1 e2
   have:=set_get e1
   cases this
 · rename_i e1 e2
   have:=set_get e1
   cases this
 · cases h
theorem At.own (A:At C ex env σ H n) {i:Nat}{ds:List PyData}{vs:List V}{a:Addr}(s:Step C.S m H H') (ha:H a=none) (hl:H' a=some (.lst vs)) (hz:vs.length≤sizeLine) (r:Reps (a::ex) H' ds vs) :
 At C (a::ex) (env.set i (.own ds)) (σ.set i (some (.ref a))) H' m:=by
 have ac:a∉C.S.ch:=fun z=>C.S.dom A.ev.inv a z ha
 have hc:∀ b∈C.S.ch,b∈a::ex:=fun b h=>List.mem_cons_of_mem _ (A.ev.ch b h)
 have E1:Ev C.S (a::ex) env σ H' m:=by
  refine ⟨A.ev.len,fun j w e=>(SlR.add ha (A.ev.sl j w e)).kp hc s.1,hc,fun b hb=>?_,s.2⟩
  rcases List.mem_cons.mp hb with rfl | hb
  · rw [hl];intro z;cases z
  · exact A.ev.al.step s b hb
 refine ⟨E1.put ⟨a,vs,rfl,hl,hz,r,List.mem_cons_self,ac⟩,fun b h=>List.mem_cons_of_mem _ (A.ex0 b h),A.al0,fun j k b h1 h2=>?_,fun j b h=>?_,A.kp.trans s.1,fun h hh=>(Rep.add ha (A.held h hh)).keep (s.1.mono hc)⟩
 · by_cases hj:i=j
   · subst hj
     have e:=own_at h1
     subst e
     by_cases hk:i=k
     · exact hk
     · rw [own_other hk] at h2
       exact absurd ha (own_sl A.ev h2).1
   · rw [own_other hj] at h1
     by_cases hk:i=k
     · subst hk
       have e:=own_at h2
       subst e
       exact absurd ha (own_sl A.ev h1).1
     · rw [own_other hk] at h2
       exact A.sep j k b h1 h2
 · by_cases hj:i=j
   · subst hj
     have e:=own_at h
     subst e
     exact A.free ha
   · rw [own_other hj] at h
     exact A.new j b h
theorem own_same {i:Nat}{xs ys:List PyData}(h:env[i]? = some (.own xs)):∀ j,ownAt (env.set i (.own ys)) σ j=ownAt env σ j:=fun j=>by
 unfold ownAt
 by_cases hj:i=j
 · subst hj
   rw [List.getElem?_set_self (List.getElem?_eq_some_iff.mp h).1,h]
   cases (σ[i]?).join with
   | none=>rfl
   | some v=>cases v<;>rfl
 · rw [List.getElem?_set_ne hj]
theorem At.re (A:At C ex env σ H n) {i:Nat}{xs ys:List PyData}{ws:List V}{a:Addr}(h:env[i]? = some (.own xs)) (hs:(σ[i]?).join=some (.ref a)) (r:Reps ex H ys ws) (hz:ws.length≤sizeLine) :
 At C ex (env.set i (.own ys)) σ (upd H a (.lst ws)) n:=by
 have ha:a∈ownAt env σ i:=by unfold ownAt;rw [h,hs];exact List.mem_singleton.mpr rfl
 obtain ⟨h1,h2,h3⟩:=own_sl A.ev ha
 have h0:=A.new i a ha
 have kx:Kp ex H (upd H a (.lst ws)):=Kp.at h2 _
 refine ⟨⟨by rw [List.length_set];exact A.ev.len,fun j w e=>?_,A.ev.ch,fun b hb=>?_,C.S.keep A.ev.inv fun b hb o e=>by rw [upd_ne (fun z=>h3 (by rw [← z];exact hb))];exact e⟩,A.ex0,A.al0,fun j k b q1 q2=>?_,fun j b q=>?_,Kp.late A.kp h0 _,fun x hx=>(A.held x hx).keep kx⟩
 · by_cases hj:i=j
   · subst hj
     rw [List.getElem?_set_self (List.getElem?_eq_some_iff.mp h).1] at e
     cases e
     exact ⟨a,ws,hs,upd_same,hz,r.keep kx,h2,h3⟩
   · rw [List.getElem?_set_ne hj] at e
     exact SlR.upd h2 (fun b hb z=>hj (A.sep i j a ha (by rw [own_one e,← z];exact hb))) (A.ev.sl j w e)
 · by_cases hb2:b=a
   · rw [hb2,upd_same];intro z;cases z
   · rw [upd_ne hb2];exact A.ev.al b hb
 · rw [own_same h] at q1 q2;exact A.sep j k b q1 q2
 · rw [own_same h] at q;exact A.new j b q
inductive Fz:List Vl→List Vl→Prop
 | refl {env:List Vl}:Fz env env
 | fz {env env':List Vl} (i:Nat) (xs:List PyData) (h:env[i]? = some (.own xs)) (t:Fz (env.set i (.d (.list xs))) env'):Fz env env'
 | jnk {env env':List Vl} (i:Nat) (t:Fz (env.set i .jnk) env'):Fz env env'
 | fz2 {env env':List Vl} (i:Nat) (ps:List (Addr×List PyData)) (h:env[i]? = some (.own2 none ps)) (t:Fz (env.set i (.d (.list (ps.map fun p=>.list p.2)))) env'):Fz env env'
 | fzh {env env':List Vl} (i:Nat) (ps:List (Addr×List PyData)) (h:env[i]? = some (.own2 none ps)) (t:Fz (env.set i (.own (ps.map fun p=>.list p.2))) env'):Fz env env'
theorem At.fz1 (A:At C ex env σ H n) {i:Nat}{xs:List PyData}(h:env[i]? = some (.own xs)):∃ ex',At C ex' (env.set i (.d (.list xs))) σ H n:=by
 obtain ⟨a,vs,e,h1,h2,h3,h4,h5⟩:=A.ev.sl i _ h
 have ha:a∈ownAt env σ i:=by unfold ownAt;rw [h,e];exact List.mem_singleton.mpr rfl
 have hsub:∀ b∈ex.filter (fun b=>decide (b≠a)),b∈ex:=fun b hb=>(List.mem_filter.mp hb).1
 have hin:∀ b∈ex,b≠a→b∈ex.filter (fun b=>decide (b≠a)):=fun b hb hn=>List.mem_filter.mpr ⟨hb,decide_eq_true hn⟩
 have hn:a∉ex.filter (fun b=>decide (b≠a)):=fun z=>(of_decide_eq_true (List.mem_filter.mp z).2) rfl
 have oo:∀ j b,b∈ownAt (env.set i (.d (.list xs))) σ j→b∈ownAt env σ j∧b≠a:=fun j b hb=>by
  by_cases hj:i=j
  · subst hj
    unfold ownAt at hb
    rw [List.getElem?_set_self (List.getElem?_eq_some_iff.mp h).1] at hb
    cases hb
  · have:ownAt (env.set i (.d (.list xs))) σ j=ownAt env σ j:=by unfold ownAt;rw [List.getElem?_set_ne hj]
    rw [this] at hb
    exact ⟨hb,fun z=>hj (A.sep i j a ha (by rw [← z];exact hb))⟩
 refine ⟨ex.filter fun b=>decide (b≠a),⟨by rw [List.length_set];exact A.ev.len,fun j w ew=>?_,fun b hb=>hin b (A.ev.ch b hb) fun z=>h5 (by rw [← z];exact hb),fun b hb=>A.ev.al b (hsub b hb),A.ev.inv⟩,fun b hb=>hin b (A.ex0 b hb) fun z=>?_,A.al0,fun j k b q1 q2=>A.sep j k b (oo j b q1).1 (oo k b q2).1,fun j b q=>A.new j b (oo j b q).1,A.kp,fun x hx=>Rep.mono hsub (A.held x hx)⟩
 · by_cases hj:i=j
   · subst hj
     rw [List.getElem?_set_self (List.getElem?_eq_some_iff.mp h).1] at ew
     cases ew
     exact ⟨_,e,.list h1 hn h2 (Reps.mono hsub h3)⟩
   · rw [List.getElem?_set_ne hj] at ew
     have q:=A.ev.sl j w ew
     have ne:∀ b∈ownAt [w] [(σ[j]?).join] 0,b≠a:=fun b hb z=>hj (A.sep i j a ha (by rw [own_one ew,← z];exact hb))
     cases w with
     | jnk=>trivial
     | jar=>exact q
     | tape=>exact q
     | d x=>obtain ⟨v,e,r⟩:=q;exact ⟨v,e,Rep.mono hsub r⟩
     | pin v x=>obtain ⟨e,r⟩:=q;exact ⟨e,Rep.mono hsub r⟩
     | own ys=>obtain ⟨b,ws,e,g1,g2,g3,g4,g5⟩:=q;exact ⟨b,ws,e,g1,g2,Reps.mono hsub g3,hin b g4 (ne b (by rw [e];exact List.mem_cons_self)),g5⟩
     | dct kvs=>obtain ⟨b,ws,e,g1,⟨g2,g3⟩,g4,g5⟩:=q;exact ⟨b,ws,e,g1,⟨g2,Reps.mono hsub g3⟩,hin b g4 (ne b (by rw [e];exact List.mem_cons_self)),g5⟩
     | own2 ks ps=>obtain ⟨b,e,q⟩:=q;exact ⟨b,e,q.h,q.z,q.k,q.nd,hin b q.m (ne b (by rw [e];exact List.mem_cons_self)),q.c,fun p hp=>let w:=q.i p hp;⟨hin p.1 w.m (ne p.1 (by rw [e];exact List.mem_cons_of_mem _ (List.mem_map.mpr ⟨p,hp,rfl⟩))),w.c,let ⟨vs,h1,h2,h3⟩:=w.h;⟨vs,h1,h2,Reps.mono hsub h3⟩⟩⟩
 · subst z
   exact A.al0 b hb (A.new i b ha)
theorem At.fz2 (A:At C ex env σ H n) {i:Nat}{ps:List (Addr×List PyData)}(h:env[i]? = some (.own2 none ps)):∃ ex',At C ex' (env.set i (.d (.list (ps.map fun p=>.list p.2)))) σ H n:=by
 obtain ⟨a,e,o⟩:=A.ev.sl i _ h
 have hL:∀ b∈a::ps.map (·.1),b∈ownAt env σ i:=fun b hb=>by unfold ownAt;rw [h,e];exact hb
 have hsub:∀ b∈ex.filter (fun b=>decide (b∉a::ps.map (·.1))),b∈ex:=fun b hb=>(List.mem_filter.mp hb).1
 have hin:∀ b∈ex,b∉a::ps.map (·.1)→b∈ex.filter (fun b=>decide (b∉a::ps.map (·.1))):=fun b hb hn=>List.mem_filter.mpr ⟨hb,decide_eq_true hn⟩
 have hn:∀ b∈a::ps.map (·.1),b∉ex.filter (fun b=>decide (b∉a::ps.map (·.1))):=fun b hb z=>(of_decide_eq_true (List.mem_filter.mp z).2) hb
 have hc:∀ b∈a::ps.map (·.1),b∉C.S.ch:=fun b hb=>by
  rcases List.mem_cons.mp hb with rfl | hb
  · exact o.c
  · obtain ⟨p,hp,rfl⟩:=List.mem_map.mp hb;exact (o.i p hp).c
 have oo:∀ j b,b∈ownAt (env.set i (.d (.list (ps.map fun p=>.list p.2)))) σ j→b∈ownAt env σ j∧b∉a::ps.map (·.1):=fun j b hb=>by
  by_cases hj:i=j
  · subst hj
    unfold ownAt at hb
    rw [List.getElem?_set_self (List.getElem?_eq_some_iff.mp h).1] at hb
    cases hb
  · have:ownAt (env.set i (.d (.list (ps.map fun p=>.list p.2)))) σ j=ownAt env σ j:=by unfold ownAt;rw [List.getElem?_set_ne hj]
    rw [this] at hb
    exact ⟨hb,fun z=>hj (A.sep i j b (hL b z) hb)⟩
 refine ⟨ex.filter fun b=>decide (b∉a::ps.map (·.1)),⟨by rw [List.length_set];exact A.ev.len,fun j w ew=>?_,fun b hb=>hin b (A.ev.ch b hb) fun z=>hc b z hb,fun b hb=>A.ev.al b (hsub b hb),A.ev.inv⟩,fun b hb=>hin b (A.ex0 b hb) fun z=>?_,A.al0,fun j k b q1 q2=>A.sep j k b (oo j b q1).1 (oo k b q2).1,fun j b q=>A.new j b (oo j b q).1,A.kp,fun x hx=>Rep.mono hsub (A.held x hx)⟩
 · by_cases hj:i=j
   · subst hj
     rw [List.getElem?_set_self (List.getElem?_eq_some_iff.mp h).1] at ew
     cases ew
     refine ⟨_,e,.list o.h (hn a List.mem_cons_self) (by unfold refs;rw [List.length_map,sizeLine_eq];have:=o.z;omega) ?_⟩
     have:∀ qs:List (Addr×List PyData),(∀ q∈qs,q∈ps)→Reps (ex.filter fun b=>decide (b∉a::ps.map (·.1))) H (qs.map fun p=>PyData.list p.2) (refs qs):=by
      intro qs
      induction qs with
      | nil=>exact fun _=>.nil
      | cons q qs ih=>
       intro hq
       have hm:=hq q List.mem_cons_self
       obtain ⟨vs,g1,g2,g3⟩:=(o.i q hm).h
       exact .cons (.list g1 (hn q.1 (List.mem_cons_of_mem _ (List.mem_map.mpr ⟨q,hm,rfl⟩))) g2 (Reps.mono hsub g3)) (ih fun x hx=>hq x (List.mem_cons_of_mem _ hx))
     exact this ps fun _ h=>h
   · rw [List.getElem?_set_ne hj] at ew
     have q:=A.ev.sl j w ew
     have ne:∀ b∈ownAt [w] [(σ[j]?).join] 0,b∉a::ps.map (·.1):=fun b hb z=>hj (A.sep i j b (hL b z) (by rw [own_one ew];exact hb))
     cases w with
     | jnk=>trivial
     | jar=>exact q
     | tape=>exact q
     | d x=>obtain ⟨v,e,r⟩:=q;exact ⟨v,e,Rep.mono hsub r⟩
     | pin v x=>obtain ⟨e,r⟩:=q;exact ⟨e,Rep.mono hsub r⟩
     | own ys=>obtain ⟨b,ws,e,g1,g2,g3,g4,g5⟩:=q;exact ⟨b,ws,e,g1,g2,Reps.mono hsub g3,hin b g4 (ne b (by rw [e];exact List.mem_cons_self)),g5⟩
     | dct kvs=>obtain ⟨b,ws,e,g1,⟨g2,g3⟩,g4,g5⟩:=q;exact ⟨b,ws,e,g1,⟨g2,Reps.mono hsub g3⟩,hin b g4 (ne b (by rw [e];exact List.mem_cons_self)),g5⟩
     | own2 ks qs=>obtain ⟨b,e,q⟩:=q;exact ⟨b,e,q.h,q.z,q.k,q.nd,hin b q.m (ne b (by rw [e];exact List.mem_cons_self)),q.c,fun p hp=>let w:=q.i p hp;⟨hin p.1 w.m (ne p.1 (by rw [e];exact List.mem_cons_of_mem _ (List.mem_map.mpr ⟨p,hp,rfl⟩))),w.c,let ⟨vs,h1,h2,h3⟩:=w.h;⟨vs,h1,h2,Reps.mono hsub h3⟩⟩⟩
 · exact A.al0 b hb (A.new i b (hL b z))
theorem At.fzh (A:At C ex env σ H n) {i:Nat}{ps:List (Addr×List PyData)}(h:env[i]? = some (.own2 none ps)):∃ ex',At C ex' (env.set i (.own (ps.map fun p=>.list p.2))) σ H n:=by
 obtain ⟨a,e,o⟩:=A.ev.sl i _ h
 have hL:∀ b∈ps.map (·.1),b∈ownAt env σ i:=fun b hb=>by unfold ownAt;rw [h,e];exact List.mem_cons_of_mem _ hb
 have hsub:∀ b∈ex.filter (fun b=>decide (b∉ps.map (·.1))),b∈ex:=fun b hb=>(List.mem_filter.mp hb).1
 have hin:∀ b∈ex,b∉ps.map (·.1)→b∈ex.filter (fun b=>decide (b∉ps.map (·.1))):=fun b hb hn=>List.mem_filter.mpr ⟨hb,decide_eq_true hn⟩
 have hn:∀ b∈ps.map (·.1),b∉ex.filter (fun b=>decide (b∉ps.map (·.1))):=fun b hb z=>(of_decide_eq_true (List.mem_filter.mp z).2) hb
 have hc:∀ b∈ps.map (·.1),b∉C.S.ch:=fun b hb=>by
  obtain ⟨p,hp,rfl⟩:=List.mem_map.mp hb;exact (o.i p hp).c
 have ha:a∈ownAt env σ i:=by unfold ownAt;rw [h,e];exact List.mem_cons_self
 have hna:a∉ps.map (·.1):=(List.nodup_cons.mp o.nd).1
 have oo:∀ j b,b∈ownAt (env.set i (.own (ps.map fun p=>.list p.2))) σ j→b∈ownAt env σ j∧b∉ps.map (·.1):=fun j b hb=>by
  by_cases hj:i=j
  · subst hj
    unfold ownAt at hb
    rw [List.getElem?_set_self (List.getElem?_eq_some_iff.mp h).1,e] at hb
    have hb':b=a:=List.mem_singleton.mp hb
    rw [hb']
    exact ⟨ha,hna⟩
  · have:ownAt (env.set i (.own (ps.map fun p=>.list p.2))) σ j=ownAt env σ j:=by unfold ownAt;rw [List.getElem?_set_ne hj]
    rw [this] at hb
    exact ⟨hb,fun z=>hj (A.sep i j b (hL b z) hb)⟩
 refine ⟨ex.filter fun b=>decide (b∉ps.map (·.1)),⟨by rw [List.length_set];exact A.ev.len,fun j w ew=>?_,fun b hb=>hin b (A.ev.ch b hb) fun z=>hc b z hb,fun b hb=>A.ev.al b (hsub b hb),A.ev.inv⟩,fun b hb=>hin b (A.ex0 b hb) fun z=>?_,A.al0,fun j k b q1 q2=>A.sep j k b (oo j b q1).1 (oo k b q2).1,fun j b q=>A.new j b (oo j b q).1,A.kp,fun x hx=>Rep.mono hsub (A.held x hx)⟩
 · by_cases hj:i=j
   · subst hj
     rw [List.getElem?_set_self (List.getElem?_eq_some_iff.mp h).1] at ew
     cases ew
     refine ⟨a,refs ps,e,o.h,by unfold refs;rw [List.length_map,sizeLine_eq];have:=o.z;omega,?_,hin a o.m hna,o.c⟩
     have:∀ qs:List (Addr×List PyData),(∀ q∈qs,q∈ps)→Reps (ex.filter fun b=>decide (b∉ps.map (·.1))) H (qs.map fun p=>PyData.list p.2) (refs qs):=by
      intro qs
      induction qs with
      | nil=>exact fun _=>.nil
      | cons q qs ih=>
       intro hq
       have hm:=hq q List.mem_cons_self
       obtain ⟨vs,g1,g2,g3⟩:=(o.i q hm).h
       exact .cons (.list g1 (hn q.1 (List.mem_map.mpr ⟨q,hm,rfl⟩)) g2 (Reps.mono hsub g3)) (ih fun x hx=>hq x (List.mem_cons_of_mem _ hx))
     exact this ps fun _ h=>h
   · rw [List.getElem?_set_ne hj] at ew
     have q:=A.ev.sl j w ew
     have ne:∀ b∈ownAt [w] [(σ[j]?).join] 0,b∉ps.map (·.1):=fun b hb z=>hj (A.sep i j b (hL b z) (by rw [own_one ew];exact hb))
     cases w with
     | jnk=>trivial
     | jar=>exact q
     | tape=>exact q
     | d x=>obtain ⟨v,e,r⟩:=q;exact ⟨v,e,Rep.mono hsub r⟩
     | pin v x=>obtain ⟨e,r⟩:=q;exact ⟨e,Rep.mono hsub r⟩
     | own ys=>obtain ⟨b,ws,e,g1,g2,g3,g4,g5⟩:=q;exact ⟨b,ws,e,g1,g2,Reps.mono hsub g3,hin b g4 (ne b (by rw [e];exact List.mem_cons_self)),g5⟩
     | dct kvs=>obtain ⟨b,ws,e,g1,⟨g2,g3⟩,g4,g5⟩:=q;exact ⟨b,ws,e,g1,⟨g2,Reps.mono hsub g3⟩,hin b g4 (ne b (by rw [e];exact List.mem_cons_self)),g5⟩
     | own2 ks qs=>obtain ⟨b,e,q⟩:=q;exact ⟨b,e,q.h,q.z,q.k,q.nd,hin b q.m (ne b (by rw [e];exact List.mem_cons_self)),q.c,fun p hp=>let w:=q.i p hp;⟨hin p.1 w.m (ne p.1 (by rw [e];exact List.mem_cons_of_mem _ (List.mem_map.mpr ⟨p,hp,rfl⟩))),w.c,let ⟨vs,h1,h2,h3⟩:=w.h;⟨vs,h1,h2,Reps.mono hsub h3⟩⟩⟩
 · exact A.al0 b hb (A.new i b (hL b z))
theorem At.jnk (A:At C ex env σ H n) (i:Nat):At C ex (env.set i .jnk) σ H n:=by
 have oo:∀ j b,b∈ownAt (env.set i .jnk) σ j→b∈ownAt env σ j:=fun j b hb=>by
  by_cases hj:i=j
  · subst hj
    unfold ownAt at hb
    by_cases hl:i<env.length
    · rw [List.getElem?_set_self hl] at hb;cases hb
    · rw [List.getElem?_eq_none (by rw [List.length_set];omega)] at hb;cases hb
  · have:ownAt (env.set i .jnk) σ j=ownAt env σ j:=by unfold ownAt;rw [List.getElem?_set_ne hj]
    rw [this] at hb
    exact hb
 refine A.bind ⟨by rw [List.length_set];exact A.ev.len,fun j w e=>?_,A.ev.ch,A.ev.al,A.ev.inv⟩ oo
 by_cases hj:i=j
 · subst hj
   have hl:i<env.length:=by
    have:=(List.getElem?_eq_some_iff.mp e).1
    rw [List.length_set] at this;exact this
   rw [List.getElem?_set_self hl] at e
   cases e
   trivial
 · rw [List.getElem?_set_ne hj] at e
   exact A.ev.sl j w e
theorem At.fz {env':List Vl}(f:Fz env env'):∀ {ex:List Addr},At C ex env σ H n→∃ ex',At C ex' env' σ H n:=by
 induction f with
 | refl=>exact fun A=>⟨_,A⟩
 | fz i xs h t ih=>exact fun A=>let ⟨_,B⟩:=A.fz1 h;ih B
 | jnk i t ih=>exact fun A=>ih (A.jnk i)
 | fz2 i ps h t ih=>exact fun A=>let ⟨_,B⟩:=A.fz2 h;ih B
 | fzh i ps h t ih=>exact fun A=>let ⟨_,B⟩:=A.fzh h;ih B
end
section
variable {te ta:TE}{ge ga:GE}{gn:GN}{t u tb:TS}{gt gu gb:GS}{i j:Nat}{K:PySem.W.Frag}
noncomputable instance sv_next:SV tNext (fun G env n=>G.nx env n):=⟨fun {C G D} O {ex env σ H n} A h=>O.nx A h⟩
noncomputable abbrev gSeq (t u:GS):GS:=fun G env n=>t { G with nx:=fun env1 n1=>∃ env2,Fz env1 env2∧u G env2 n1 } env n
noncomputable instance sv_seq [T:SV t gt] [U:SV u gu]:SV (tSeq t u) (gSeq gt gu):=⟨fun {C G D} O {ex env σ H n} A h=>by
 refine T.sv (C:=C) (G:={ G with nx:=fun env1 n1=>∃ env2,Fz env1 env2∧gu G env2 n1 }) (D:={ D with nx:=u D }) ⟨fun {ex1 env1 σ1 H1 n1} A1 h1=>?_,O.bk,O.ct,O.rt,O.rtn,O.xc,O.r2⟩ A h
 obtain ⟨env2,f,h2⟩:=h1
 obtain ⟨ex2,A2⟩:=A1.fz f
 exact U.sv O A2 h2⟩
noncomputable abbrev gSet (i:Nat) (g:GE):GS:=fun G env n=>g env n fun d n1=>G.nx (env.set i (.d d)) n1
noncomputable abbrev gSetN (i:Nat) (g:GN):GS:=fun G env n=>g env n fun ds n1=>G.nx (env.set i (.own ds)) n1
noncomputable instance sv_setN [E:NV te gn]:SV (tAsg te (gName i)) (gSetN i gn):=⟨fun {C G D} O {ex env σ H n} A h=>E.nv A.ev h fun ds n1 a vs H1 h1 s1 ha hl hz r=>O.nx (A.own s1 ha hl hz r) h1⟩
noncomputable instance (priority:=low) sv_set [E:EV true te ge]:SV (tAsg te (gName i)) (gSet i ge):=⟨fun {C G D} O {ex env σ H n} A h=>E.ev A.ev h fun d n1 v H1 h1 s1 r=>O.nx ((A.step s1).put r) h1⟩
noncomputable instance sv_setC {wi:TI}{k:Nat}{idx:List Nat}{g:TG}{tt:TT} [E:NV (tComp wi k idx g tt te) gn]:SV (tSetComp i wi k idx g tt te) (gSetN i gn):=⟨fun {C G D} O {ex env σ H n} A h=>
 show tComp wi k idx g tt te σ H (fun v H2=>D.nx (σ.set i (some v)) H2) from E.nv A.ev h fun ds n1 a vs H1 h1 s1 ha hl hz r=>O.nx (A.own s1 ha hl hz r) h1⟩
noncomputable abbrev gAsg (bd:GG) (g:GE):GS:=fun G env n=>g env n fun d n1=>bd d env fun env1=>G.nx env1 n1
noncomputable instance (priority:=low) sv_asg {g:TG}{bd:GG}{ks:List Nat} [E:EV true te ge] [B:GV g bd ks]:SV (tAsg te g) (gAsg bd ge):=⟨fun {C G D} O {ex env σ H n} A h=>E.ev A.ev h fun d n1 v H1 h1 s1 r=>
 B.gv (A.step s1).ev r h1 fun env' σ' p E' o _ _=>O.nx ((A.step s1).bind E' o) p⟩
noncomputable abbrev gRet (g:GE):GS:=fun G env n=>g env n fun d n1=>G.rt d n1
noncomputable abbrev gRetN (g:GN):GS:=fun G env n=>g env n fun ds n1=>G.rtn ds n1
noncomputable abbrev gRetV (i:Nat):GS:=fun G env n=>match env[i]? with
 | some (.d x)=>G.rt x n
 | some (.own xs)=>G.rtn xs n
 | _=>False
noncomputable instance (priority:=low) sv_ret [E:EV true te ge]:SV (tRet te) (gRet ge):=⟨fun {C G D} O {ex env σ H n} A h=>E.ev A.ev h fun d n1 v H1 h1 s1 r=>O.rt ⟨(A.step s1).kp,s1.2,Rep.mono A.ex0 r⟩ h1⟩
noncomputable instance sv_retN [E:NV te gn]:SV (tRet te) (gRetN gn):=⟨fun {C G D} O {ex env σ H n} A h=>E.nv A.ev h fun ds n1 a vs H1 h1 s1 ha hl hz r=>
 O.rtn ⟨(A.step s1).kp,s1.2,A.free ha,vs,hl,hz,Reps.mono (fun b hb=>(List.mem_cons.mp hb).elim (fun e=>by rw [e];exact List.mem_cons_self) fun h=>List.mem_cons_of_mem _ (A.ex0 b h)) r⟩ h1⟩
noncomputable instance (priority:=high) sv_retV:SV (tRet (tVar i)) (gRetV i):=⟨fun {C G D} O {ex env σ H n} A h=>by
 unfold gRetV at h
 split at h
 · rename_i x e
   obtain ⟨v,ev,r⟩:=A.ev.sl i _ e
   exact ⟨v,join_some ev,O.rt ⟨A.kp,A.ev.inv,Rep.mono A.ex0 r⟩ h⟩
 · rename_i xs e
   obtain ⟨a,vs,ev,h1,h2,h3,h4,h5⟩:=A.ev.sl i _ e
   have ha:a∈ownAt env σ i:=by unfold ownAt;rw [e,ev];exact List.mem_singleton.mpr rfl
   obtain ⟨ex',A'⟩:=A.fz1 e
   obtain ⟨v',ev',r'⟩:=A'.ev.sl i _ (List.getElem?_set_self (List.getElem?_eq_some_iff.mp e).1)
   rw [ev] at ev'
   cases ev'
   have:=A.new i a ha
   refine ⟨_,join_some ev,O.rtn ⟨A.kp,A.ev.inv,this,vs,h1,h2,Reps.mono (fun b hb=>?_) h3⟩ h⟩
   rcases List.mem_cons.mp hb with rfl | hb
   · exact h4
   · exact A.ex0 b hb
 · exact h.elim⟩
noncomputable abbrev gIfS (c:GT) (t u:GS):GS:=fun G env n=>c env n fun b n1=>if b=true then t G env n1 else u G env n1
noncomputable instance sv_if {c:TT}{gc:GT} [X:TV c gc] [T:SV t gt] [U:SV u gu]:SV (tIfS c t u) (gIfS gc gt gu):=⟨fun {C G D} O {ex env σ H n} A h=>X.tv A.ev h fun b n1 H1 h1 s1=>by
 cases b with
 | true=>exact T.sv O (A.step s1) h1
 | false=>exact U.sv O (A.step s1) h1⟩
noncomputable abbrev gFor (gi:GN) (bd:GG) (gb:GS):GS:=fun G env n=>gi env n fun items n1=>∃ W:Nat→List Vl→Nat→Prop,W 0 env n1 ∧
 (∀ i x env n,items[i]? = some x→W i env n→bd x env fun env1=>gb { G with nx:=W (i+1),ct:=W (i+1),bk:=G.nx } env1 n)∧∀ env n,W items.length env n→G.nx env n
noncomputable instance sv_for {wi:TI}{gi:GN}{g:TG}{bd:GG}{ks:List Nat} [I:IV wi gi] [B:GV g bd ks] [T:SV tb gb]:SV (tFor wi g tb) (gFor gi bd gb):=⟨fun {C G D} O {ex env σ H n} A h=>I.iv A.ev h fun items n1 J hd H1 h1 s1 hr hit=>by
 obtain ⟨W,w0,wt,wd⟩:=h1
 have A1:=A.step s1
 have dropd:∀ {ex2 env2 σ2 H2 n2},At { C with held:=hd++C.held } ex2 env2 σ2 H2 n2→At C ex2 env2 σ2 H2 n2:=fun {_ _ _ _ _} B=>⟨B.ev,B.ex0,B.al0,B.sep,B.new,B.kp,fun h hh=>B.held h (List.mem_append_right _ hh)⟩
 refine ⟨fun i m σ2 H2=>i≤items.length∧m=items.length-i∧∃ ex2 env2 n2,At { C with held:=hd++C.held } ex2 env2 σ2 H2 n2∧W i env2 n2,⟨_,Nat.zero_le _,rfl,ex,env,n1,⟨A1.ev,A1.ex0,A1.al0,A1.sep,A1.new,A1.kp,fun h hh=>(List.mem_append.mp hh).elim (hr h) (A1.held h)⟩,w0⟩,?_⟩
 rintro i m σ2 H2 ⟨hi,rfl,ex2,env2,n2,A2,w2⟩
 have IT:=hit ex2 H2 A2.ev.al fun h hh=>A2.held h (List.mem_append_left _ hh)
 rcases Nat.lt_or_ge i items.length with hlt | hge
 · refine .inr ⟨(IT.2 i items[i] (List.getElem?_eq_getElem hlt)).1,fun σ' H'=>∃ ex3 env3 n3,At { C with held:=hd++C.held } ex3 env3 σ' H' n3∧W (i+1) env3 n3,fun σ' H' h=>⟨items.length-(i+1),by omega,hlt,rfl,h⟩,fun x H3 y=>?_⟩
   obtain ⟨kp3,rx⟩:=(IT.2 i items[i] (List.getElem?_eq_getElem hlt)).2 x H3 y
   have A3:=A2.step (Step.new A2.ev.inv kp3)
   refine B.gv A3.ev rx (wt i _ env2 n2 (List.getElem?_eq_getElem hlt) w2) fun env' σ' p E' o _ _=>?_
   refine T.sv (C:={ C with held:=hd++C.held }) (G:={ G with nx:=W (i+1),ct:=W (i+1),bk:=G.nx }) (D:={ D with nx:=fun σ' H'=>∃ ex3 env3 n3,At { C with held:=hd++C.held } ex3 env3 σ' H' n3∧W (i+1) env3 n3,ct:=fun σ' H'=>∃ ex3 env3 n3,At { C with held:=hd++C.held } ex3 env3 σ' H' n3∧W (i+1) env3 n3,bk:=D.nx }) ⟨fun A4 w4=>⟨_,_,_,A4,w4⟩,fun A4 q4=>O.nx (dropd A4) q4,fun A4 w4=>⟨_,_,_,A4,w4⟩,fun R q=>O.rt ⟨R.kp,R.inv,R.r⟩ q,fun R q=>O.rtn ⟨R.kp,R.inv,R.fr,R.r⟩ q,O.xc,fun R q=>O.r2 ⟨R.kp,R.inv,R.fr,R.frs,R.o⟩ q⟩ (A3.bind E' o) p
 · have e:i=items.length:=by omega
   subst e
   exact .inl ⟨IT.1,O.nx (dropd A2) (wd _ _ w2)⟩⟩
noncomputable abbrev gWhile (c:GT) (gb:GS):GS:=fun G env n=>∃ W:Nat→List Vl→Nat→Prop,(∃ m,W m env n)∧∀ m env n,W m env n→c env n fun b n1=>
 if b=true then gb { G with nx:=fun env1 n2=>∃ m',m'<m∧W m' env1 n2,ct:=fun env1 n2=>∃ m',m'<m∧W m' env1 n2,bk:=G.nx } env n1 else G.nx env n1
noncomputable instance sv_while {c:TT}{gc:GT} [X:TV c gc] [T:SV tb gb]:SV (tWhile c tb) (gWhile gc gb):=⟨fun {C G D} O {ex env σ H n} A h=>by
 obtain ⟨W,⟨m0,w0⟩,wt⟩:=h
 refine ⟨fun m σ2 H2=>∃ ex2 env2 n2,At C ex2 env2 σ2 H2 n2∧W m env2 n2,⟨m0,ex,env,n,A,w0⟩,?_⟩
 rintro m σ2 H2 ⟨ex2,env2,n2,A2,w2⟩
 refine X.tv A2.ev (wt m env2 n2 w2) fun b n3 H3 h3 s3=>?_
 cases b with
 | true=>
  refine iteT ⟨fun σ' H'=>∃ m',m'<m∧∃ ex2 env2 n2,At C ex2 env2 σ' H' n2∧W m' env2 n2,fun σ' H' h=>h,?_⟩
  exact T.sv (C:=C) (G:={ G with nx:=fun env1 n2=>∃ m',m'<m∧W m' env1 n2,ct:=fun env1 n2=>∃ m',m'<m∧W m' env1 n2,bk:=G.nx }) (D:={ D with nx:=fun σ' H'=>∃ m',m'<m∧∃ ex2 env2 n2,At C ex2 env2 σ' H' n2∧W m' env2 n2,ct:=fun σ' H'=>∃ m',m'<m∧∃ ex2 env2 n2,At C ex2 env2 σ' H' n2∧W m' env2 n2,bk:=D.nx }) ⟨fun A4 ⟨m',hm,w4⟩=>⟨m',hm,_,_,_,A4,w4⟩,fun A4 q4=>O.nx A4 q4,fun A4 ⟨m',hm,w4⟩=>⟨m',hm,_,_,_,A4,w4⟩,O.rt,O.rtn,O.xc,O.r2⟩ (A2.step s3) h3
 | false=>exact iteF (O.nx (A2.step s3) h3)⟩
theorem At.at_own {C:Cv}{ex:List Addr}{env:List Vl}{σ:L2.St}{H:Hp}{n:Nat}(A:At C ex env σ H n) {i:Nat}{xs:List PyData}(e:env[i]? = some (.own xs)):∃ a vs,(σ[i]?).join=some (.ref a)∧H a=some (.lst vs)∧vs.length≤sizeLine∧Reps ex H xs vs:=by
 obtain ⟨a,vs,ev,h1,h2,h3,h4,h5⟩:=A.ev.sl i _ e
 exact ⟨a,vs,ev,h1,h2,h3⟩
noncomputable abbrev gApp (i:Nat) (g:GE):GS:=fun G env n=>match env[i]? with
 | some (.own xs)=>g env n fun d n1=>xs.length<sizeLine∧G.nx (env.set i (.own (xs++[d]))) n1
 | _=>False
theorem own_step {C:Cv}{ex:List Addr}{env:List Vl}{σ:L2.St}{H H1:Hp}{n n1:Nat}{i:Nat}{xs:List PyData}{a:Addr}{vs:List V}(A:At C ex env σ H n) (e:env[i]? = some (.own xs)) (ev:(σ[i]?).join=some (.ref a)) (h1:H a=some (.lst vs)) (r:Reps ex H xs vs) (s:Step C.S n1 H H1):H1 a=some (.lst vs)∧Reps ex H1 xs vs:=by
 have ha:a∈ownAt env σ i:=by unfold ownAt;rw [e,ev];exact List.mem_singleton.mpr rfl
 exact ⟨s.1 _ _ h1 (own_sl A.ev ha).2.2,A.ev.reps s r⟩
noncomputable instance sv_app [E:EV true te ge]:SV (tDrop (tBM K "list" rAppend (tVar i) (tCons te tNil))) (gApp i ge):=⟨fun {C G D} O {ex env σ H n} A h=>by
 unfold gApp at h
 split at h
 · rename_i xs e
   obtain ⟨a,vs,ev,h1,h2,h3⟩:=A.at_own e
   refine ⟨_,join_some ev,.inl ⟨rfl,_,SqL.of h1⟩,E.ev A.ev h fun d n1 v H1 hd s1 r=>?_⟩
   obtain ⟨g1,g2⟩:=own_step A e ev h1 h3 s1
   have l:=g2.length
   exact ⟨a,vs,v,rfl,rfl,g1,by rw [← l];exact hd.1,O.nx ((A.step s1).re e ev (Reps.append g2 (.cons r .nil)) (by rw [List.length_append,List.length_singleton,← l];exact hd.1)) hd.2⟩
 · exact h.elim⟩
theorem reps_erase {ex:List Addr}{H:Hp}:∀ {ds:List PyData}{vs:List V}(k:Nat),Reps ex H ds vs→Reps ex H (ds.eraseIdx k) (vs.eraseIdx k)
 | _,_,_,.nil=>.nil
 | _,_,0,.cons _ t=>t
 | _,_,k+1,.cons r t=>.cons r (reps_erase k t)
theorem len_erase (vs:List V) (k:Nat):(vs.eraseIdx k).length≤vs.length:=by
 rw [List.length_eraseIdx];split<;>omega
theorem reps_set {ex:List Addr}{H:Hp}{d:PyData}{v:V}(r:Rep ex H d v):∀ {ds:List PyData}{vs:List V}(k:Nat),Reps ex H ds vs→Reps ex H (ds.set k d) (vs.set k v)
 | _,_,_,.nil=>.nil
 | _,_,0,.cons _ t=>.cons r t
 | _,_,k+1,.cons q t=>.cons q (reps_set r k t)
noncomputable abbrev gSetI (i:Nat) (gx ge:GE):GS:=fun G env n=>ge env n fun d n1=>match env[i]? with
 | some (.own xs)=>gx env n1 fun k n2=>(match k with
  | .int z=>∃ m,ixN xs.length z=some m∧G.nx (env.set i (.own (xs.set m d))) n2
  | _=>False)
 | _=>False
noncomputable instance sv_setI {tx:TE}{gx:GE} [E:EV true te ge] [X:EV true tx gx]:SV (tAsg te (gSub (tVar i) tx rSetL)) (gSetI i gx ge):=⟨fun {C G D} O {ex env σ H n} A h=>by
 refine E.ev A.ev h fun d n1 v H1 hd s1 r=>?_
 have A1:=A.step s1
 split at hd
 · rename_i xs e
   obtain ⟨a,vs,ev,h1,h2,h3⟩:=A1.at_own e
   refine ⟨_,join_some ev,X.ev A1.ev hd fun k n2 kv H2 hk s2 rk=>?_⟩
   obtain ⟨g1,g2⟩:=own_step A1 e ev h1 h3 s2
   have l:=g2.length
   cases rk with
   | int z=>
    obtain ⟨m,hm,q⟩:=hk
    exact ⟨a,vs,z,m,rfl,rfl,g1,by rw [← l];exact hm,O.nx ((A1.step s2).re e ev (reps_set (A1.ev.rep s2 r) m g2) (by rw [List.length_set];exact h2)) q⟩
   | none=>exact hk.elim
   | obj=>exact hk.elim
   | dctf=>exact hk.elim
   | bool=>exact hk.elim
   | str=>exact hk.elim
   | tuple=>exact hk.elim
   | list=>exact hk.elim
 · exact hd.elim⟩
end
theorem ArgsR.len {S:Src}{ex:List Addr}{H:Hp}:∀ {as:List Vl}{vs:List V},ArgsR S ex H as vs→as.length=vs.length
 | [],[],_=>rfl
 | _::_,_::_,h=>by rw [List.length_cons,List.length_cons,ArgsR.len h.2]
 | [],_::_,h=>h.elim
 | _::_,[],h=>h.elim
theorem ArgsR.get {S:Src}{ex:List Addr}{H:Hp}:∀ {as:List Vl}{vs:List V}{i:Nat}{w:Vl},ArgsR S ex H as vs→as[i]? = some w→∃ v,vs[i]? = some v∧SlR S ex H w (some v)
 | [],[],_,_,_,e=>by simp at e
 | _::_,v::_,0,_,h,e=>by simp at e;subst e;exact ⟨v,rfl,h.1⟩
 | _::_,_::_,i+1,_,h,e=>by simpa using ArgsR.get (i:=i) h.2 (by simpa using e)
 | [],_::_,_,_,h,_=>h.elim
 | _::_,[],_,_,h,_=>h.elim
noncomputable def plainA:Vl→Bool
 | .own _ | .dct _ | .own2 _ _=>false
 | _=>true
noncomputable def envOf (N:List Str) (as:List Vl):List Vl:=as++List.replicate (N.length-as.length) .jnk
theorem at_start {S:Src}{ex:List Addr}{H:Hp}{as:List Vl}{vs:List V}{n:Nat}{N:List Str}(r:ArgsR S ex H as vs) (hp:as.all plainA=true) (hc:∀ a∈S.ch,a∈ex) (al:Alc ex H) (iv:S.inv n H):At ⟨S,ex,H,[]⟩ ex (envOf N as) (start N vs) H n:=by
 have l:=r.len
 have no:∀ i,ownAt (envOf N as) (start N vs) i=[]:=fun i=>by
  unfold ownAt envOf
  cases e:(as++List.replicate (N.length-as.length) Vl.jnk)[i]? with
  | none=>rfl
  | some w=>
   have:w∈as++List.replicate (N.length-as.length) Vl.jnk:=List.mem_of_getElem? e
   have hw:plainA w=true:=by
    rcases List.mem_append.mp this with h | h
    · exact List.all_eq_true.mp hp w h
    · rw [(List.mem_replicate.mp h).2];rfl
   cases w with
   | own _=>cases hw
   | dct _=>cases hw
   | own2 _ _=>cases hw
   | _=>rfl
 refine ⟨⟨?_,fun i w e=>?_,hc,al,iv⟩,fun a h=>h,al,fun i j a h=>?_,fun i a h=>?_,.refl,fun h hh=>by cases hh⟩
 · unfold envOf L2.start
   rw [List.length_append,List.length_append,List.length_replicate,List.length_replicate,List.length_map,l];exact Nat.le_refl _
 · unfold envOf at e
   by_cases hi:i<as.length
   · rw [List.getElem?_append_left hi] at e
     obtain ⟨v,hv,sr⟩:=r.get e
     have:(start N vs)[i]? = some (some v):=by
      unfold L2.start
      rw [List.getElem?_append_left (by rw [List.length_map,← l];exact hi),List.getElem?_map,hv];rfl
     rw [this]
     exact sr
   · rw [List.getElem?_append_right (Nat.le_of_not_lt hi)] at e
     have:w = .jnk:=(List.mem_replicate.mp (List.mem_of_getElem? e)).2
     subst this
     trivial
 · rw [no] at h;cases h
 · rw [no] at h;cases h
noncomputable def endsV (P:PyData→Nat→Prop):VEnds:={ nx:=fun _ n=>P .none n,rt:=P,rtn:=fun ds n=>P (.list ds) n,rt2:=fun xss n=>P (.list (xss.map .list)) n }
noncomputable def endsN (P:List PyData→Nat→Prop):VEnds:={ nx:=fun _ _=>False,rt:=fun _ _=>False,rtn:=P }
theorem ret2_rep {C:Cv}{ps:List (Addr×List PyData)}{n:Nat}{a:Addr}{H:Hp}(al:Alc C.ex0 C.H0) (R:Ret2 C ps n a H):Rep C.ex0 H (.list ((ps.map (·.2)).map .list)) (.ref a):=by
 refine .list R.o.h (al.nm R.fr) (by unfold refs;rw [List.length_map,sizeLine_eq];have:=R.o.z;omega) ?_
 have:∀ qs:List (Addr×List PyData),(∀ q∈qs,q∈ps)→Reps C.ex0 H ((qs.map (·.2)).map .list) (refs qs):=by
  intro qs
  induction qs with
  | nil=>exact fun _=>.nil
  | cons q qs ih=>
   intro hq
   have hm:=hq q List.mem_cons_self
   obtain ⟨vs,g1,g2,g3⟩:=(R.o.i q hm).h
   exact .cons (.list g1 (al.nm (R.frs q hm)) g2 (Reps.mono (fun b hb=>List.mem_append_right _ hb) g3)) (ih fun x hx=>hq x (List.mem_cons_of_mem _ hx))
 exact this ps fun _ h=>h
theorem lift_body {sp:GSp}{gs:GS}{ts:TS}{N:List Str}{vs:List V}{H:Hp}{Q:VK}{E:XK} [T:SV ts gs] (h:liftV sp vs H Q E) (hs:∀ as n P,sp as n P→as.all plainA=true∧gs (endsV P) (envOf N as) n):ts { nx:=fun _ H'=>Q .non H',rt:=Q } (start N vs) H:=by
 obtain ⟨S,ex,as,n,P,r,hc,al,iv,p,q⟩:=h
 obtain ⟨hp,g⟩:=hs as n P p
 refine T.sv (C:=⟨S,ex,H,[]⟩) (G:=endsV P) ⟨fun {ex' env σ H' n'} A h=>?_,fun _ h=>h.elim,fun _ h=>h.elim,fun R h=>?_,fun {ds n' a H'} R h=>?_,fun _ _ h=>h.elim,fun {ps n' a H'} R h=>?_⟩ (at_start r hp hc al iv) g
 · exact q _ _ _ _ h ⟨A.kp,A.ev.inv⟩ .none
 · exact q _ _ _ _ h ⟨R.kp,R.inv⟩ R.r
 · obtain ⟨ws,h1,h2,h3⟩:=R.r
   exact q _ _ _ _ h ⟨R.kp,R.inv⟩ (.list h1 (al.nm R.fr) h2 (Reps.sub h3))
 · exact q _ _ _ _ h ⟨R.kp,R.inv⟩ (ret2_rep al R)
theorem lift_bodyN {sp:GSn}{gs:GS}{ts:TS}{N:List Str}{vs:List V}{H:Hp}{Q:VK}{E:XK} [T:SV ts gs] (h:liftN sp vs H Q E) (hs:∀ as n P,sp as n P→as.all plainA=true∧gs (endsN P) (envOf N as) n):ts { nx:=fun _ H'=>Q .non H',rt:=Q } (start N vs) H:=by
 obtain ⟨S,ex,as,n,P,r,hc,al,iv,p,q⟩:=h
 obtain ⟨hp,g⟩:=hs as n P p
 refine T.sv (C:=⟨S,ex,H,[]⟩) (G:=endsN P) ⟨fun _ h=>h.elim,fun _ h=>h.elim,fun _ h=>h.elim,fun _ h=>h.elim,fun {ds n' a H'} R h=>?_,fun _ _ h=>h.elim,fun _ h=>h.elim⟩ (at_start r hp hc al iv) g
 obtain ⟨ws,h1,h2,h3⟩:=R.r
 exact q _ _ _ _ _ h ⟨R.kp,R.inv⟩ R.fr h1 h2 h3
theorem lift_len {sp:GSp}{k:Nat}(h:∀ as n P,sp as n P→as.length=k):∀ vs H Q E,liftV sp vs H Q E→vs.length=k:=fun vs H Q E ⟨S,ex,as,n,P,r,_,_,_,p,_⟩=>by rw [← r.len];exact h _ _ _ p
theorem lift_lenN {sp:GSn}{k:Nat}(h:∀ as n P,sp as n P→as.length=k):∀ vs H Q E,liftN sp vs H Q E→vs.length=k:=fun vs H Q E ⟨S,ex,as,n,P,r,_,_,_,p,_⟩=>by rw [← r.len];exact h _ _ _ p
section
variable {turn:PyData→Nat→(Option PyData→Nat→Prop)→Prop}{items:List PyData}{n:Nat}{Q:List PyData→Nat→Prop}
end
theorem Fz.eq {a b:List Vl}(h:a=b):Fz a b:=h ▸ .refl
noncomputable abbrev lstI (ns:List Int):PyData:=.list (ns.map .int)
theorem args2 {S:Src}{ex:List Addr}{H:Hp}{a b:Vl}{vs:List V}(h:ArgsR S ex H [a,b] vs):∃ u v,vs=[u,v]∧SlR S ex H a (some u)∧SlR S ex H b (some v):=by
 match vs,h with
 | [u,v],h=>exact ⟨u,v,rfl,h.1,h.2.1⟩
 | [],h=>exact h.elim
 | [_],h=>exact h.2.elim
 | _::_::_::_,h=>exact h.2.2.elim
theorem at_getD {α:Type}{xs:List α}{i:Int}{d:α}(h0:0≤i) (h:xs[i.toNat]? = some d):atI xs i=some d:=by
 have:=(List.getElem?_eq_some_iff.mp h).1
 unfold atI
 rw [ixN_of h0 (by omega)]
 exact h
class SQ (te:TE) (g:outParam GN):Prop where
 sq:∀ {S:Src} {ex:List Addr} {env:List Vl} {σ:L2.St} {H:Hp} {n:Nat} {Q:VK} {P:List PyData→Nat→Prop},Ev S ex env σ H n→g env n P→(∀ ds n' a vs H',P ds n'→Step S n' H H'→a∉S.ch→H' a=some (.lst vs)→vs.length≤sizeLine→Reps ex H' ds vs→Q (.ref a) H')→te σ H Q
noncomputable abbrev gSq (i:Nat):GN:=fun env n Q=>match env[i]? with
 | some (.own xs)=>Q xs n
 | some (.d (.list xs))=>Q xs n
 | _=>False
noncomputable instance (priority:=high) sq_var {i:Nat}:SQ (tVar i) (gSq i):=⟨fun {S ex env σ H n Q P} E h k=>by
 unfold gSq at h
 split at h
 · rename_i xs e
   obtain ⟨a,vs,ev,h1,h2,h3,h4,h5⟩:=E.sl i _ e
   exact ⟨_,join_some ev,k _ _ _ _ _ h (.refl E.inv) h5 h1 h2 h3⟩
 · rename_i xs e
   obtain ⟨v,ev,r⟩:=E.sl i _ e
   cases r with
   | list e1 m z rs=>exact ⟨_,join_some ev,k _ _ _ _ _ h (.refl E.inv) (fun z=>m (E.ch _ z)) e1 z rs⟩
 · exact h.elim⟩
noncomputable instance sq_nv {te:TE}{g:GN} [A:NV te g]:SQ te g:=⟨fun {S ex env σ H n Q P} E h k=>A.nv E h fun ds n1 a vs H1 h1 s1 ha hl hz r=>k _ _ _ _ _ h1 s1 (fun z=>S.dom E.inv a z ha) hl hz (Reps.sub r)⟩
noncomputable abbrev gCatS (ga gb:GN):GN:=fun env n Q=>ga env n fun xs n1=>gb env n1 fun ys n2=>xs.length+ys.length≤sizeLine∧Q (xs++ys) n2
noncomputable instance (priority:=high) nv_catS {ta tb:TE}{ga gb:GN} [A:SQ ta ga] [B:SQ tb gb]:NV (tOp rCat ta tb) (gCatS ga gb):=⟨fun {S ex env σ H n Q P} E h k=>
 A.sq E h fun xs n1 a vs H1 h1 s1 na ha hz r1=>B.sq (E.step s1) h1 fun ys n2 b us H2 h2 s2 nb hb hz2 r2=>by
  have r1':=(E.step s1).reps s2 r1
  have l1:=r1'.length
  have l2:=r2.length
  refine ⟨a,b,vs,us,rfl,rfl,s2.1 _ _ ha na,hb,by rw [← l1,← l2];exact h2.1,fun p hp=>?_⟩
  obtain ⟨c1,c2,c3⟩:=nv_close E (s1.trans s2) hp (Reps.append r1' r2)
  exact k _ _ _ _ _ h2.2 c1 c2 upd_same (by rw [List.length_append,← l1,← l2];exact h2.1) c3⟩
noncomputable abbrev gSlS (g:GN) (gl gh:List Vl→Nat→(Option Int→Nat→Prop)→Prop):GN:=fun env n Q=>g env n fun xs n1=>gl env n1 fun lo n2=>gh env n2 fun hi n3=>Q (cutD xs lo hi) n3
noncomputable instance (priority:=high) nv_slS {K:PySem.W.Frag}{te:TE}{g:GN}{tl th:TO}{gl gh:List Vl→Nat→(Option Int→Nat→Prop)→Prop} [A:SQ te g] [B:OPV tl gl] [C:OPV th gh]:NV (tSl (rSlL K) te tl th) (gSlS g gl gh):=⟨fun {S ex env σ H n Q P} E h k=>
 A.sq E h fun xs n1 a vs H1 h1 s1 na ha hz r1=>B.op (E.step s1) h1 fun lo n2 H2 h2 s2=>C.op (E.step (s1.trans s2)) h2 fun hi n3 H3 h3 s3=>by
  have r3:=(E.step s1).reps (s2.trans s3) r1
  refine ⟨a,vs,rfl,SqL.of ((s2.trans s3).1 _ _ ha na),fun p hp=>?_⟩
  obtain ⟨c1,c2,c3⟩:=nv_close E ((s1.trans s2).trans s3) hp (reps_cut r3 lo hi)
  exact k _ _ _ _ _ h3 c1 c2 upd_same (Nat.le_trans (cutV_length _ _ _) hz) c3⟩
noncomputable def InOk (d:PyData) (xs:List PyData):Prop:=PyData.canLayAll0 xs=true∧d.canLay0=true∧min (PyData.depthAll xs) d.depth≤50
section
variable {X:Cx}
end
section
variable {K:PySem.W.Frag}{H:Hp}{ex:List Addr}
end
noncomputable def fl (u:Nat) (f:Nat→Int):List PyData:=(List.range u).map fun i=>.int (f i)
theorem fl_len (u:Nat) (f:Nat→Int):(fl u f).length=u:=by unfold fl;rw [List.length_map,List.length_range]
theorem fl_get {u:Nat}{f:Nat→Int}{i:Nat}(h:i<u):(fl u f)[i]? = some (.int (f i)):=by
 unfold fl;rw [List.getElem?_map,List.getElem?_range h];rfl
theorem wayAt_mem' {ws:List Way}{k:Int}(h0:0≤k) (h1:k<ws.length):wayAt ws k∈ws:=by
 unfold wayAt
 rw [List.getD_eq_getElem?_getD,List.getElem?_eq_getElem (by omega)]
 exact List.getElem_mem _
noncomputable abbrev tupF (U:Int) (f:Nat→Int):PyData:=.tuple (fl U.toNat f)
theorem at_way {ws:List Way}{k:Int}(h0:0≤k) (h1:k<ws.length):atI (ws.map wayPD) k=some (wayPD (wayAt ws k)):=by
 refine at_getD h0 ?_
 rw [List.getElem?_map,List.getElem?_eq_getElem (by omega)]
 unfold wayAt
 rw [List.getD_eq_getElem?_getD,List.getElem?_eq_getElem (by omega)]
 rfl
theorem rep0s (U:Int):(List.replicate U.toNat [PyData.int 0]).flatten=fl U.toNat fun _=>0:=by
 unfold fl
 induction U.toNat with
 | zero=>rfl
 | succ n ih=>rw [List.replicate_succ',List.range_succ,List.map_append,List.flatten_append,ih];rfl
theorem cmpW_mapR {turn:PyData→Nat→(Option PyData→Nat→Prop)→Prop}{u n:Nat}{Q:List PyData→Nat→Prop}{e:Nat→PyData}(f:Nat→PyData) (h:∀ i,i<u→∀ n K,K (some (f i)) n→turn (e i) n K) (q:Q ((List.range u).map f) n):cmpW turn ((List.range u).map e) n Q:=by
 have key:∀ (l:List Nat) (n:Nat) (Q:List PyData→Nat→Prop),(∀ i∈l,i<u)→Q (l.map f) n→cmpW turn (l.map e) n Q:=by
  intro l
  induction l with
  | nil=>intro n Q _ q;exact q
  | cons x xs ih=>intro n Q hl q;exact h x (hl x List.mem_cons_self) _ _ (ih _ _ (fun i hi=>hl i (List.mem_cons_of_mem _ hi)) q)
 exact key _ _ _ (fun i hi=>List.mem_range.mp hi) q
theorem fEq_i {i j:Int}{Q:PyData→Prop}(h:Q (.bool (decide (i=j)))):fEq false (.int i) (.int j) Q:=h
theorem fNe_i {i j:Int}{Q:PyData→Prop}(h:Q (.bool (!decide (i=j)))):fEq true (.int i) (.int j) Q:=h
noncomputable def endsL:VEnds:={ nx:=fun _ _=>False,rt:=fun d _=>d = .bool true,rtn:=fun _ _=>False }
end My
namespace L2
open PySem PySem.Spec PyProof.Rows
section
variable {X:Cx}{x:Str}{e:Expr}{es:List Expr}{p pos:Pos}{t:TA}{k:Nat}{ps:List Str}{sp:Sp}{i:Int}
end
end L2
namespace My
open PySem PySem.Spec PyProof.Rows L2
theorem vseq {t u:GS}{G:VEnds}{env:List Vl}{n:Nat}(Mid:List Vl→Nat→Prop) (h1:∀ N:List Vl→Nat→Prop,(∀ e k,Mid e k→N e k)→t { G with nx:=N } env n) (h2:∀ e k,Mid e k→∃ e2,Fz e e2∧u G e2 k):gSeq t u G env n:=h1 _ h2
noncomputable abbrev GSx:=List Vl→Nat→(PyData→Nat→Prop)→(Addr→Nat→Prop)→Prop
theorem fl_of (xs:List PyData) (u:Nat) (hl:xs.length=u) (h:∀ x∈xs,∃ i:Int,x = .int i):∃ f:Nat→Int,xs=fl u f:=by
 subst hl
 induction xs with
 | nil=>exact ⟨fun _=>0,rfl⟩
 | cons x xs ih=>
  obtain ⟨i,rfl⟩:=h x List.mem_cons_self
  obtain ⟨f,hf⟩:=ih fun y hy=>h y (List.mem_cons_of_mem _ hy)
  refine ⟨fun k=>match k with | 0=>i | k+1=>f k,?_⟩
  unfold fl at hf ⊢
  rw [List.length_cons,List.range_succ_eq_map,List.map_cons,List.map_map]
  exact congrArg (PyData.int i :: ·) hf
noncomputable def putF (f:Nat→Int) (k:Nat) (v:Int):Nat→Int:=fun i=>if i=k then v else f i
theorem fl_set (u:Nat) (f:Nat→Int) (k:Nat) (v:Int):(fl u f).set k (.int v)=fl u (putF f k v):=by
 apply List.ext_getElem?
 intro i
 unfold fl putF
 rw [List.getElem?_set,List.getElem?_map,List.getElem?_map]
 by_cases hk:k=i
 · subst hk
   rw [if_pos rfl,List.length_map,List.length_range]
   by_cases hu:k<u
   · rw [if_pos hu,List.getElem?_range hu]
     simp
   · rw [if_neg hu,List.getElem?_eq_none (by simp;omega)]
     rfl
 · rw [if_neg hk]
   by_cases hu:i<u
   · rw [List.getElem?_range hu]
     simp [show ¬ i=k from fun e=>hk e.symm]
   · rw [List.getElem?_eq_none (by simp;omega)]
     rfl
noncomputable def gsWhole:GSp:=fun as n Q=>∃ (x:Int),as=[.d (.int x)]∧Q (.bool true) n
noncomputable def fCatD:G2:=fun x y Q=>match x,y with
 | .tuple xs,.tuple ys=>xs.length+ys.length≤sizeLine∧Q (.tuple (xs++ys))
 | _,_=>False
noncomputable instance ov_catD {K:PySem.W.Frag}:OV (rCatD K) fCatD:=⟨fun {ex H x y dx dy Q P} al r1 r2 h k=>by
 unfold fCatD at h
 split at h
 · obtain ⟨h2,h3⟩:=h
   cases r1 with
   | tuple e1 n1 z1 rs=>
    cases r2 with
    | tuple e2 n2 z2 rs2=>
     have l1:=rs.length
     have l2:=rs2.length
     refine ⟨_,_,_,_,rfl,rfl,SqT.of e1,SqT.of e2,by rw [← l1,← l2];exact h2,fun z=>?_,fun _ z=>?_,fun _ _ p hp=>k _ _ _ h3 (Kp.new hp _) (.tuple upd_same (al.nm hp) (by rw [List.length_append,← l1,← l2];exact h2) ((rs.append rs2).keep (Kp.new hp _)))⟩
     · subst z
       cases rs
       exact k _ _ _ h3 .refl (.tuple e2 n2 z2 rs2)
     · subst z
       cases rs2
       rw [List.append_nil] at h3
       exact k _ _ _ h3 .refl (.tuple e1 n1 z1 rs)
 · exact h.elim⟩
theorem neSelf {x:PyData}{Q:PyData→Prop}(h:x.canLay0=true) (hd:x.depth≤50) (q:Q (.bool false)):fEqD true x x Q:=⟨⟨h,h,Nat.le_trans (Nat.min_le_left _ _) hd⟩,by rw [PySem.SeqAt.eqv_refl _ h];exact q⟩
theorem fl_ofInts (u:Nat) (f:Nat→Int):fl u f=((List.range u).map f).map .int:=by unfold fl;rw [List.map_map];rfl
theorem rng_get {k i:Nat}{y:PyData}(h:(rngD 0 k)[i]? = some y):i<k∧y = .int i:=by
 have hi:=(List.getElem?_eq_some_iff.mp h).1
 rw [rngD_len] at hi
 refine ⟨hi,?_⟩
 unfold rngD at h
 rw [List.getElem?_map,List.getElem?_range hi] at h
 cases h
 simp
noncomputable def gsDraw:GSp:=fun as n Q=>∃ many:Int,as=[.tape,.d (.int many)]∧n<2^40∧0<many∧many<2^9000∧∀ r:Int,0≤r→r<many→Q (.int r) (n+1)
noncomputable instance scal_draw:Scal gsDraw:=⟨fun {as n P} h=>by
 obtain ⟨many,e,hn,h0,h1,q⟩:=h
 exact ⟨many,e,hn,h0,h1,fun r r0 r1=>⟨rfl,q r r0 r1⟩⟩⟩
theorem imp_draw:∀ (vs:List V) (H:Hp) (Q:VK) (E:XK),liftV gsDraw vs H Q E→spDraw vs H Q E:=fun vs H Q E h=>by
 obtain ⟨S,ex,as,n,P,r,hc,al,iv,⟨many,rfl,hn,h0,h1,q⟩,k⟩:=h
 obtain ⟨u,v,rfl,⟨p,c,rfl,eu⟩,⟨w,ew,rw'⟩⟩:=args2 r
 cases eu
 cases ew
 cases rw'
 exact ⟨p,c,n,many,rfl,iv,hn,h0,h1,fun r H' r0 r1 J' kp=>k _ _ _ _ (q r r0 r1) ⟨kp,J'⟩ (.int r)⟩
theorem law_startT {K:PySem.W.Frag}{N:List Str}{vs:List V}{H:Hp}{Q:VK}{E E':XK}{rest:TS}{gs:GS} [T:SV rest gs] (hN:2≤N.length) (h:spLaw K vs H Q E) (hs:gs endsL (.jnk :: .tape::List.replicate (N.length-2) .jnk) 0) :
 tSeq (tAsg (tCall (spTape K) [] E' (tCons (tVar 0) tNil)) (gName 1)) rest { nx:=fun _ H'=>Q .non H',rt:=Q } (L2.start N vs) H:=by
 obtain ⟨a,ns,rfl,hS,hlen,q⟩:=h
 have est:L2.start N [V.ref a]=some (V.ref a)::none::List.replicate (N.length-2) none:=by
  unfold L2.start
  rw [show N.length-[V.ref a].length=(N.length-2)+1 by simp;omega]
  rfl
 rw [est]
 refine ⟨_,rfl,a,ns,rfl,hS,hlen,fun p c H1 k1 _ _ J=>?_⟩
 have al:Alc [p,c] H1:=fun b hb z=>J.fresh z hb
 have no:∀ i,ownAt (.jnk :: .tape::List.replicate (N.length-2) .jnk) (some (V.ref a)::some (V.ref p)::List.replicate (N.length-2) none) i=[]:=fun i=>by
  unfold ownAt
  cases e:((.jnk :: .tape::List.replicate (N.length-2) .jnk:List Vl))[i]? with
  | none=>rfl
  | some w=>
   have hm:=List.mem_of_getElem? e
   have:w = .jnk∨w = .tape:=by
    rcases List.mem_cons.mp hm with h | h
    · exact .inl h
    · rcases List.mem_cons.mp h with h | h
      · exact .inr h
      · exact .inl (List.mem_replicate.mp h).2
   rcases this with rfl | rfl<;>rfl
 refine T.sv (C:=⟨Src.tape p c,[p,c],H1,[]⟩) (G:=endsL) ⟨fun _ h=>h.elim,fun _ h=>h.elim,fun _ h=>h.elim,fun {d n v H'} R h=>?_,fun _ h=>h.elim,fun _ _ h=>h.elim,fun _ h=>h.elim⟩ (ex:=[p,c]) (env:=.jnk :: .tape::List.replicate (N.length-2) .jnk) (σ:=some (V.ref a)::some (V.ref p)::List.replicate (N.length-2) none) ⟨⟨?_,fun i w e=>?_,fun b h=>h,al,J⟩,fun b h=>h,al,fun i j b h=>?_,fun i b h=>?_,.refl,fun x hx=>by cases hx⟩ hs
 · cases h
   have r:=R.r
   cases r
   exact q _
 · simp
 · match i with
   | 0=>cases e;trivial
   | 1=>cases e;exact ⟨p,c,rfl,rfl⟩
   | i+2=>
    have:w = .jnk:=(List.mem_replicate.mp (List.mem_of_getElem? (by simpa using e))).2
    subst this
    trivial
 · rw [no] at h;cases h
 · rw [no] at h;cases h
noncomputable def gsGainV:GSp:=fun as n Q=>as=[.tape]∧n<2^39∧∀ (r:Int) (m:Nat),-9≤r→r≤9→m≤n+2→Q (.int r) m
noncomputable instance scal_gainV:Scal gsGainV:=⟨fun {as n P} h=>⟨h.1,h.2.1,fun r m r0 r1 hm=>⟨rfl,h.2.2 r m r0 r1 hm⟩⟩⟩
noncomputable def gsGainsV:GSp:=fun as n Q=>∃ U:Int,as=[.tape,.d (.int U)]∧n<2^38∧0≤U∧U≤6∧∀ (f:Nat→Int) (m:Nat),(∀ i,i<U.toNat→-9≤f i∧f i≤9)→m≤n+12→Q (tupF U f) m
theorem cmpW_cnt {turn:PyData→Nat→(Option PyData→Nat→Prop)→Prop}{items:List PyData}{n:Nat}{Q:List PyData→Nat→Prop}(c B:Nat) (R:PyData→Prop) (h:∀ x∈items,∀ n K,n≤B→(∀ y n',R y→n'≤n+c→K (some y) n')→turn x n K) (hB:n+c*items.length≤B) (q:∀ ys n',ys.length=items.length→(∀ y∈ys,R y)→n'≤n+c*items.length→Q ys n'):cmpW turn items n Q:=by
 induction items generalizing n Q with
 | nil=>exact q [] n rfl (fun y hy=>by cases hy) (Nat.le_add_right _ _)
 | cons x xs ih=>
  rw [List.length_cons,Nat.mul_add] at hB
  refine h x List.mem_cons_self _ _ (by omega) fun y n' hy hn=>ih (fun z hz=>h z (List.mem_cons_of_mem _ hz)) (by omega) fun ys n2 hl hr hn2=>q _ _ (by simp [hl]) (fun z hz=>?_) (by rw [List.length_cons,Nat.mul_add];omega)
  rcases List.mem_cons.mp hz with rfl | hz
  · exact hy
  · exact hr z hz
noncomputable def wayFn (a b U:Int) (f:Nat→Int):Way:=⟨a,b,(List.range U.toNat).map f⟩
theorem wayFn_pd (a b U:Int) (f:Nat→Int):PyData.tuple [.int a,.int b,tupF U f]=wayPD (wayFn a b U f):=by
 unfold wayPD wayFn tupF
 rw [fl_ofInts]
theorem wayFn_ok {R a b U:Int}{f:Nat→Int}(ha:0≤a∧a<R) (hb:0≤b∧b<R) (hU:0≤U) (hf:∀ i,i<U.toNat→-99≤f i∧f i≤99):WayOk R U (wayFn a b U f):=by
 refine ⟨ha.1,ha.2,hb.1,hb.2,?_,fun x hx=>?_⟩
 · show (((List.range U.toNat).map f).length:Int)=U
   rw [List.length_map,List.length_range];omega
 · obtain ⟨i,hi,rfl⟩:=List.mem_map.mp hx
   exact hf i (List.mem_range.mp hi)
theorem fl_ofB (ys:List PyData) (u:Nat) {lo hi:Int}(hl:ys.length=u) (h:∀ y∈ys,∃ i:Int,y = .int i∧lo≤i∧i≤hi):∃ f:Nat→Int,ys=fl u f∧∀ i,i<u→lo≤f i∧f i≤hi:=by
 obtain ⟨f,rfl⟩:=fl_of ys u hl fun y hy=>(h y hy).imp fun i hi=>hi.1
 refine ⟨f,rfl,fun i hi=>?_⟩
 have hm:PyData.int (f i)∈fl u f:=by unfold fl;exact List.mem_map.mpr ⟨i,List.mem_range.mpr hi,rfl⟩
 obtain ⟨j,e,h1⟩:=h _ hm
 cases e
 exact h1
theorem putF_le {u:Nat}{f:Nat→Int}{k:Nat}{v lo hi:Int}(h:∀ i,i<u→lo≤f i∧f i≤hi) (hv:lo≤v∧v≤hi):∀ i,i<u→lo≤putF f k v i∧putF f k v i≤hi:=fun i hi'=>by
 unfold putF
 split
 · exact hv
 · exact h i hi'
noncomputable abbrev gTru (g:GE):GT:=fun env n Q=>g env n fun d n1=>match d with
 | .list xs=>Q (!xs.isEmpty) n1
 | .tuple xs=>Q (!xs.isEmpty) n1
 | _=>False
theorem empty_reps {ex:List Addr}{H:Hp}{ds:List PyData}{vs:List V}(r:Reps ex H ds vs):ds.isEmpty=vs.isEmpty:=by
 cases r<;>rfl
noncomputable def tTru (K:PySem.W.Frag) (te:TE):TT:=fun σ H Q=>te σ H fun x H'=>∃ k,TruV K x H' k∧Q k H'
theorem pt_tru {X:Cx}{a:Expr}{ta:TE}(ha:PE X a ta) (he:∀ whole,isTrue a X.env whole=(do let v ← whole;standAt a.pos;holding [v] (truthy v))):PT X a (tTru X.K ta):=pt_truth ha he
noncomputable instance tv_tru {K:PySem.W.Frag}{te:TE}{g:GE} [A:EV false te g]:TV (tTru K te) (gTru g):=⟨fun {S ex env σ H n Q P} E h k=>A.ev E h fun d n1 v H1 h1 s1 r1=>by
 cases r1 with
 | list e m z rs=>exact ⟨_,.inl ⟨_,SqL.of e,rfl⟩,by rw [← empty_reps rs];exact k _ _ _ h1 s1⟩
 | tuple e m z rs=>exact ⟨_,.inr (.inl ⟨_,SqT.of e,rfl⟩),by rw [← empty_reps rs];exact k _ _ _ h1 s1⟩
 | none=>exact h1.elim
 | obj=>exact h1.elim
 | dctf=>exact h1.elim
 | bool=>exact h1.elim
 | str=>exact h1.elim
 | int=>exact h1.elim⟩
noncomputable abbrev MT:Int:=10^100-1
theorem rep_flat (n:Nat) (d:PyData):(List.replicate n [d]).flatten=List.replicate n d:=by
 induction n with
 | zero=>rfl
 | succ n ih=>rw [List.replicate_succ,List.flatten_cons,ih,List.replicate_succ];rfl
mutual
noncomputable def nd:PyData→Nat
 | .tuple ds=>1+nds ds
 | _=>0
noncomputable def nds:List PyData→Nat
 | []=>0
 | d::r=>nd d+nds r
end
mutual
noncomputable def smI:PyData→Bool
 | .int i=>decide (i≤MT)
 | .tuple ds=>smIs ds
 | .list ds=>smIs ds
 | _=>true
noncomputable def smIs:List PyData→Bool
 | []=>true
 | d::r=>smI d&&smIs r
end
end My
namespace HT
open PySem PySem.Spec PyProof.Rows
section
variable {prog:Program}{w:World}{A:Around}{E:Value→Shared→Prop}{s:Shared}
end
end HT
namespace L2
open PySem PySem.Spec PyProof.Rows
section
variable {X:Cx}{e st:Expr}{te:TE}{ts:TO}{pos p2:Pos}
end
end L2
namespace My
open PySem PySem.Spec PyProof.Rows L2
section
variable {b:Bool}{te:TE}{g:GE}
noncomputable abbrev gSlW (g:GE) (gl gh:List Vl→Nat→(Option Int→Nat→Prop)→Prop):GE:=fun env n Q=>g env n fun d n1=>gl env n1 fun lo n2=>gh env n2 fun hi n3=>match d with
 | .tuple xs=>Q (.tuple (cutD xs lo hi)) n3
 | _=>False
noncomputable instance ev_slW {K:PySem.W.Frag}{tl th:TO}{gl gh:List Vl→Nat→(Option Int→Nat→Prop)→Prop} [A:EV b te g] [B:OPV tl gl] [C:OPV th gh]:EV b (tSl (rSlW K) te tl th) (gSlW g gl gh):=⟨fun {S ex env σ H n Q P} E h k=>
 A.ev E h fun d n1 v H1 h1 s1 r1=>B.op (E.step s1) h1 fun lo n2 H2 h2 s2=>C.op (E.step (s1.trans s2)) h2 fun hi n3 H3 h3 s3=>by
  have r3:=(E.step s1).repm b (s2.trans s3) r1
  cases r3 with
  | tuple e m z rs=>
   refine ⟨_,_,rfl,SqT.of e,fun hw=>?_,fun p hp=>?_⟩
   · rename_i ds
     have hl:=rs.length
     have e2:cutD ds lo hi=ds:=by unfold cutD;rw [hl,hw.1,hw.2,List.drop_zero,Nat.sub_zero,← hl,List.take_length]
     have e3:P (.tuple (cutD ds lo hi)) n3:=h3
     rw [e2] at e3
     exact k _ _ _ _ e3 ((s1.trans s2).trans s3) (.tuple e m z rs)
   · exact k _ _ _ _ h3 (((s1.trans s2).trans s3).then (Kp.new hp _)) (.tuple upd_same ((E.step ((s1.trans s2).trans s3)).alm b |>.nm hp) (Nat.le_trans (cutV_length _ _ _) z) ((reps_cut rs lo hi).keep (Kp.new hp _)))
  | none=>exact h3.elim
  | obj=>exact h3.elim
  | dctf=>exact h3.elim
  | bool=>exact h3.elim
  | str=>exact h3.elim
  | list=>exact h3.elim
  | int=>exact h3.elim⟩
end
noncomputable def gdB (d:PyData):Bool:=d.canLay0&&(d.intsShort 101&&(d.showable&&smI d))
section
variable {d:PyData}{k n g:Int}(hg:gdB d=true) (gk:gdB (.int k)=true) (wk:(PyData.int k).weight≤10) (gn:gdB (.int n)=true) (wn:(PyData.int n).weight≤10) (gg:gdB (.int g)=true) (wg:(PyData.int g).weight≤333)
include hg gk wk gn wn gg wg
end
end My
namespace L2
open PySem PySem.Spec PyProof.Rows
section
variable {X:Cx}
end
end L2
namespace My
open PySem PySem.Spec PyProof.Rows L2
section
variable {S:Src}{ex L:List Addr}{H H1 H2:Hp}{w:Vl}{o:Option V}
end
section
variable {C:Cv}{ex:List Addr}{env:List Vl}{σ:L2.St}{H H':Hp}{n m:Nat}
end
section
variable {C:Cv}{ex:List Addr}{env:List Vl}{σ:L2.St}{H H':Hp}{n m:Nat}
end
section
variable {R a x y:Nat}{f g:Nat→Nat→Bool}
end
noncomputable def esOf (ws:List Way) (ks:List Int):List (Nat×Nat):=ks.map fun k=>((wayAt ws k).a.toNat,(wayAt ws k).b.toNat)
section
variable {X:Cx}{pins:List (Addr×Obj)}{σ:L2.St}{H:Hp}{s:Shared}{a:Addr}{kvs:List (Key×V)}{k:Key}{u:Value}{A:Around}{E:Value→Shared→Prop}
end
section
variable {X:Cx}{o e f:Expr}{apos cpos p pos:Pos}{td ty tx:TE}
end
section
variable {C:Cv}{ex:List Addr}{env:List Vl}{σ:L2.St}{H H':Hp}{n m:Nat}
end
theorem int_get {cs:List Int}{i:Nat}(h:i<cs.length):(cs.map PyData.int)[i]? = some (.int (cs.getD i 0)):=by
 rw [List.getElem?_map,List.getElem?_eq_getElem h,List.getD_eq_getElem?_getD,List.getElem?_eq_getElem h];rfl
theorem reps_ints {ex:List Addr}{H:Hp}:∀ (ns:List Int),Reps ex H (ns.map PyData.int) (ns.map V.int)
 | []=>.nil
 | n::ns=>.cons (.int n) (reps_ints ns)
theorem lay_is:∀ ns:List Int,PyData.canLayAll0 (ns.map PyData.int)=true
 | []=>rfl
 | n::ns=>by rw [List.map_cons,PyData.canLayAll0,lay_is ns];rfl
theorem dep_is:∀ ns:List Int,PyData.depthAll (ns.map PyData.int)=0
 | []=>rfl
 | n::ns=>by rw [List.map_cons,PyData.depthAll,dep_is ns];rfl
theorem neL {ns:List Int}{Q:PyData→Prop}(q:Q (.bool false)):fEqD true (lstI ns) (lstI ns) Q:=neSelf (by unfold lstI;rw [PyData.canLay0];exact lay_is ns) (by unfold lstI;rw [PyData.depth,dep_is];decide) q
noncomputable abbrev GSn2:=List Vl→Nat→(List (List PyData)→Nat→Prop)→Prop
section
variable {b:Bool}{i:Nat}{sp:GSn2}{E':XK}{t:TA}{gt:GA}
end
theorem eqvA_ints:∀ xs ys:List Int,PyData.eqvAll (xs.map PyData.int) (ys.map PyData.int)=decide (xs=ys)
 | [],[]=>rfl
 | [],_::_=>rfl
 | _::_,[]=>rfl
 | x::xs,y::ys=>by
  rw [List.map_cons,List.map_cons,PyData.eqvAll,eqvA_ints xs ys]
  have:PyData.eqv (.int x) (.int y)=decide (x=y):=rfl
  rw [this,Bool.eq_iff_iff,Bool.and_eq_true,decide_eq_true_iff,decide_eq_true_iff,decide_eq_true_iff,List.cons.injEq]
theorem eqvL_ints {xs ys:List Int}:PyData.eqv (.list (xs.map PyData.int)) (.list (ys.map PyData.int))=decide (xs=ys):=by rw [PyData.eqv];exact eqvA_ints xs ys
noncomputable def ringL (r:List Int):PyData:=.list (r.map .int)
theorem lay_rings:∀ rs:List (List Int),PyData.canLayAll0 (rs.map ringL)=true
 | []=>rfl
 | r::rs=>by
  rw [List.map_cons,PyData.canLayAll0,lay_rings rs]
  unfold ringL
  rw [PyData.canLay0,lay_is];rfl
theorem dep_ring (r:List Int):(ringL r).depth≤50:=by unfold ringL;rw [PyData.depth,dep_is];decide
theorem cut_sub {xs:List PyData}{lo hi:Option Int}:(∀ y∈cutD xs lo hi,y∈xs)∧(cutD xs lo hi).length≤xs.length:=by
 unfold cutD
 refine ⟨fun y hy=>List.mem_of_mem_drop (List.mem_of_mem_take hy),?_⟩
 rw [List.length_take,List.length_drop]
 omega
end My
namespace L2
open PySem PySem.Spec PyProof.Rows My
section
variable {X:Cx}
end
end L2
namespace My
open PySem PySem.Spec PyProof.Rows L2
end My
namespace L2
open PySem PySem.Spec PyProof.Rows My
section
variable {X:Cx}{x y:Str}{e:Expr}{es:List Expr}{p p' pos apos:Pos}{t:TA}{k:Nat}{ps:List Str}{sp:Sp}{i:Int}
end
end L2
namespace My
open PySem PySem.Spec PyProof.Rows L2
noncomputable abbrev GSxn:=List Vl→Nat→(List PyData→Nat→Prop)→(Addr→Nat→Prop)→Prop
section
variable {i:Nat}{sp:GSxn}{t:TA}{gt:GA}{tv:TE}{gv:GE}{d:Int}
end
noncomputable def tRetIf (t:TT) (ta tb:TE):TS:=tRet (tIf t ta tb)
theorem as_retIf {X:Cx}{st:Stmt}{t:TT}{ta tb:TE}(h:PS X st (tRet (tIf t ta tb))):PS X st (tRetIf t ta tb):=h
noncomputable instance sv_retIf {t:TT}{gt:GT}{ta tb:TE}{ga gb:GS} [T:TV t gt] [U:SV (tRet ta) ga] [V':SV (tRet tb) gb]:SV (tRetIf t ta tb) (gIfS gt ga gb):=⟨fun {C G D} O {ex env σ H n} A h=>T.tv A.ev h fun c n1 H1 h1 s1=>by
 cases c with
 | true=>exact iteT (U.sv O (A.step s1) h1)
 | false=>exact iteF (V'.sv O (A.step s1) h1)⟩
end My
namespace L2
open PySem PySem.Spec PyProof.Rows My
theorem compLoopD_go {prog:Program}{w:World}{A:Around}{R:Result→Shared→Prop}{s:Shared}{kx vx target iter:Expr}{ifs:List Expr}{scope:Scope}{pos:Pos}{it:Value}{acc:Addr}{env:Env}(I:Nat→Shared→Prop)
 (turn:∀ n s,I n s→wpAny (model prog w) A (pyNext it) (fun r s₁=>match r with
  | none=>R (.ok .next) s₁
  | some v=>wpAny (model prog w) A (letOwnedTupleGo target it v) (fun _ s₁'=>wpAny (model prog w) A (assign target env v) (fun _ s₂=>
   wpAny (model prog w) A (forIn ifs true fun c r=>if r=true then do let ok ← isTrue c env (eval c env);pure (ForInStep.yield ok) else pure (ForInStep.yield r)) (fun ok s₃=>
    if ok=true then wpAny (model prog w) A (eval kx env) (fun kv s₄=>wpAny (model prog w) A (eval vx env) (fun vv s₄'=>
     wpAny (model prog w) A (dictSet acc kv vv) (fun _ s₅=>∃ m,m<n∧I m s₅) NoE s₄') NoE s₄) NoE s₃
    else ∃ m,m<n∧I m s₃) NoE s₂) NoE s₁') NoE s₁) NoE s)
 (n:Nat) (h:I n s) :
 codeAny (model prog w) A (.compLoop (.DictComp kx vx [⟨target,iter,ifs,0⟩] scope pos) 0 it (.ref acc) env) R s:=by
 refine codeAny_loop rfl I (fun n s hI=>?_) n h
 show wpAny _ A ((compTurn (.DictComp kx vx [⟨target,iter,ifs,0⟩] scope pos) 0 it (.ref acc) env).onRaise (fun x=>do noteFrame x env;theTreesLotGoes x)) _ _ s
 refine wpAny_noted ?_
 rw [compTurn_dict]
 refine wpAny_bind (wpAny_standAt (wpAny_bind (wpAny_mono (turn n s hI) (fun r s₁ h₁=>?_) fun _ _ f=>f.elim)))
 cases r with
 | none=>exact wpAny_pure h₁
 | some v=>
  refine wpAny_bind (wpAny_mono h₁ (fun _ s₁' h₁'=>wpAny_bind (wpAny_mono h₁' (fun _ s₂ h₂=>wpAny_bind (wpAny_mono h₂ (fun ok s₃ h₃=>?_) fun _ _ f=>f.elim)) fun _ _ f=>f.elim)) fun _ _ f=>f.elim)
  cases ok with
  | false=>exact wpAny_pure ⟨rfl,h₃⟩
  | true=>
   exact wpAny_bind (wpAny_bind (wpAny_mono h₃ (fun kv s₄ h₄=>wpAny_bind (wpAny_holding (wpAny_mono h₄ (fun vv s₄' h₄'=>wpAny_bind (wpAny_standAt (wpAny_holding (wpAny_mono h₄' (fun _ s₅ h₅=>wpAny_pure ⟨rfl,h₅⟩) fun _ _ f=>f.elim)))) fun _ _ f=>f.elim))) fun _ _ f=>f.elim))
noncomputable def dTurns (J:It) (g:TG) (tt:TT) (tk tv:TE) (l:Addr) (σ0:St) (H0:Hp) (Q:Hp→Prop):Prop:=
 ∃ W:Nat→Nat→St→Hp→Prop,(∃ m,W 0 m σ0 H0)∧∀ i m σ H,W i m σ H →
  (J.stop i H∧Q H)∨(J.go i H∧∀ x H',J.yld i H x H'→g x σ H' fun σ2 H2=>tt σ2 H2 fun c H3=>
   if c=true then tk σ2 H3 fun y H4=>tv σ2 H4 fun v H5=>∃ kvs k,y=kV k∧H5 l=some (.dK kvs)∧kvs.length<sizeLine∧∃ m',m'<m∧W (i+1) m' σ2 (upd H5 l (.dK (putK kvs k v)))
   else ∃ m',m'<m∧W (i+1) m' σ2 H3)
theorem d_set {X:Cx}{pins:List (Addr×Obj)}{σ:St}{H:Hp}{s:Shared}{A:Around}{E:Value→Shared→Prop}{a:Addr}{kvs:List (Key×V)}{k:Key}{v:V}{u r:Value}{Q:Unit→Shared→Prop}(I:Inv X pins σ H s) (e:H a=some (.dK kvs)) (l:kvs.length<sizeLine) (ry:RelV (kV k) u) (rv:RelV v r) (h:∀ s',Inv X pins σ (upd H a (.dK (putK kvs k v))) s'→Q () s') :
 wpAny (model X.prog X.w) A (dictSet a u r) Q E s:=by
 obtain ⟨z,hd,vs,rel,dd⟩:=dk_of I.hok e
 have hz:vs.length≤sizeLine:=by rw [← rel.length];exact z
 have hl:(putK kvs k v).length≤sizeLine:=by have:=length_putK kvs k v;omega
 refine wpAny_dictSet_pairs (hsz:=hz) (kV_is ry) dd fun h' dd' hs=>h _ ?_
 have he:∃ q,h'.get? a=some q:=let ⟨q,_,_,hq,_⟩:=dd';⟨q,hq⟩
 exact d_write I (by rw [e];exact True.intro) hs he (dk_new hl hd (rel.put k rv) dd')
section
variable {X:Cx}{tg iter kx vx:Expr}{ifs:List Expr}{scope sc:Scope}{N N':List Str}{k:Nat}{idx:List Nat}{wi:TI}{g:TG}{tt:TT}{tk tv:TE}{pos:Pos}
theorem comp_blockD {pins:List (Addr×Obj)}{s:Shared}{σ:St}{E:Value→Shared→Prop}{RR:Value→Addr→Result→Shared→Prop}{itv:Value}{Qe:Addr→Hp→Prop}
 (hc:X.calm=true) (S:CompScope sc N scope N' k idx) (hsc:X.env.scope=sc) (hNN:X.N=N)
 (hg:∀ C s H fp,PG (cxComp X N' scope C s H fp) tg g) (ht:∀ C s H fp,PTs (cxComp X N' scope C s H fp) ifs tt) (hk:∀ C s H fp,PE (cxComp X N' scope C s H fp) kx tk) (hv:∀ C s H fp,PE (cxComp X N' scope C s H fp) vx tv)
 (hit:PIE X pins σ tg (fun J H1=>∀ l,H1 l=none→dTurns J g tt tk tv l (startC k idx σ) (upd H1 l (.dK [])) fun H2=>Qe l H2) itv s)
 (hRR:∀ l H2 C s2,Inv X pins σ H2 s2→(∃ m,s2.heap.Ns C m)→Free1 X pins H2 C→Qe l H2→RR (.ref l) C (.ok .next) s2) :
 wpAny (model X.prog X.w) X.A newDict (fun acc s₃=>wpAny (model X.prog X.w) X.A (newFunctionEnv scope X.env.globals (closeL X.env scope.names []) [] X.env.qual none .none (some X.env)) (fun cenv s₄=>
  codeAny (model X.prog X.w) X.A (.compStart (.DictComp kx vx [⟨tg,iter,ifs,0⟩] scope pos) 0 itv acc { cenv with scope:=relabel scope X.env }) (RR acc cenv.locals) s₄) E s₃) E s:=by
 obtain ⟨it,fp,tn,J,H1,rfl,I1,T,st1,f1,q⟩:=hit
 refine wpAny_newObj_type ?_
 have hf0:H1 s.heap.objs.size=none:=I1.hok.fresh (Nat.le_refl _)
 have hflt:∀ b∈fp,b<s.heap.objs.size:=fun b hb=>let ⟨_,e,_⟩:=T.obj _ _ st1 b hb;Heap.lt_size e
 generalize hl:s.heap.objs.size=l at *
 have I2:Inv X pins σ (upd H1 l (.dK [])) { s with heap:=s.heap.push { cls:=.type "dict",data:=.dict #[] } }:=
  I1.laid (t':=s.toks) (fun b u e=>Heap.get?_push_of_some _ e) (Nat.le_of_eq hl) (by rw [← hl];exact dk_empty s.heap I1.big)
 have st2:tn 0 (s.heap.push { cls:=.type "dict",data:=.dict #[] }):=T.keep _ _ _ st1 fun b _ o e=>Heap.get?_push_of_some _ e
 have f2:∀ b∈fp,FpOk X pins (upd H1 l (.dK [])) b:=fun b hb=>⟨by rw [upd_ne (Nat.ne_of_lt (hflt b hb))];exact (f1 b hb).1,(f1 b hb).2⟩
 have hsz2:(s.heap.push { cls:=.type "dict",data:=.dict #[] }).objs.size=l+1:=by rw [Heap.size_push,hl]
 have q2:=q l hf0
 generalize hs2:({ s with heap:=s.heap.push { cls:=.type "dict",data:=.dict #[] } }:Shared)=s2 at I2 ⊢
 have st2:tn 0 s2.heap:=by rw [← hs2];exact st2
 have hsz2:s2.heap.objs.size=l+1:=by rw [← hs2];exact hsz2
 refine wpAny_newFunctionEnv S.nocell (by intro y hy;simp at hy) (fun h₁ hns₁ hsb₁=>?_) S.kind
 have hk1:∀ b o,s2.heap.get? b=some o→h₁.get? b=some o:=fun b o e=>hsb₁.extBut b o (Nat.ne_of_lt (Heap.lt_size e)) (Heap.get?_push_of_some _ e)
 have hlt2:∀ b∈fp,b<s2.heap.objs.size:=fun b hb=>by rw [hsz2];exact Nat.lt_succ_of_lt (hflt b hb)
 have I3:=comp_start (t':=s2.toks+([]:List (Str×Value)).length) I2 S hsc hNN f2 hlt2 (by simpa using hns₁) hk1
 generalize hC:s2.heap.objs.size=C at *
 have st3:tn 0 h₁:=T.keep _ _ _ st2 fun b _ o e=>hk1 b o e
 obtain ⟨W,⟨m0,w0⟩,turn⟩:=q2
 -- back to the frame around
 have back:∀ {σ':St} {H':Hp} {s':Shared},Inv (cxComp X N' scope C s2 (upd H1 l (.dK [])) fp) [] σ' H' s'→Inv X pins σ H' s':=fun {σ' H' s'} I'=>
  I2.call' I'.os I'.base I'.hok I'.bare fun b hb=>⟨(f2 b hb).2.2.2.1,(f2 b hb).2.1,(f2 b hb).2.2.2.2.1,(f2 b hb).2.2.2.2.2⟩
 have loop:∀ s₃:Shared,s₃ = { s2 with heap:=h₁,toks:=s2.toks+([]:List (Str×Value)).length } →
  codeAny (model X.prog X.w) X.A (.compLoop (.DictComp kx vx [⟨tg,iter,ifs,0⟩] scope pos) 0 (.ref it) (.ref l) (compEnvC scope (closeL X.env scope.names []) C X.env)) (RR (.ref l) C) s₃:=by
  rintro s₃ rfl
  refine compLoopD_go (fun n s'=>∃ i σ' H',Inv (cxComp X N' scope C s2 (upd H1 l (.dK [])) fp) [] σ' H' s'∧tn i s'.heap∧(∀ b∈fp,H' b=none)∧W i n σ' H') ?_ m0 ⟨0,_,_,I3,st3,fun b hb=>(f2 b hb).1,w0⟩
  rintro n s4 ⟨i,σ4,H4,I4,st4,fr4,w4⟩
  have stat:∀ {H':Hp},(∀ b∈fp,H' b=none)→∀ b∈fp,FpOk (cxComp X N' scope C s2 (upd H1 l (.dK [])) fp) [] H' b:=fun {H'} hn b hb=>
   ⟨hn b hb,(I4.ok.exf b hb).1,I4.ok.exfs b hb,.inl hb,(I4.ok.exf b hb).2,fun p hp=>by cases hp⟩
  rcases turn i n σ4 H4 w4 with ⟨stop,qn⟩ | ⟨go,step⟩
  · refine thn (T.done (cxComp X N' scope C s2 (upd H1 l (.dK [])) fp) rfl rfl rfl hc i [] s4 σ4 H4 NoE I4 (stat fr4) st4 stop) fun r s5 ⟨hr,I5⟩=>?_
    subst hr
    have IX:=back I5
    have hCl:C≠X.env.locals:=fun e=>by
     have:=I2.lt
     rw [hC,← e] at this
     exact Nat.lt_irrefl _ this
    have hCc:∀ x c,X.env.cells.lookup x=some c→c≠C:=fun x c e z=>by
     obtain ⟨v,o,ho,_⟩:=I2.cell x c e
     have:=Heap.lt_size ho
     rw [hC,z] at this
     exact Nat.lt_irrefl _ this
    obtain ⟨m5,hm5,_⟩:=I5.loc
    refine hRR l H4 C s5 IX ⟨m5,hm5⟩ ⟨hCl,hCc,I5.free,by rw [← hC];exact I2.sz,fun p hp z=>?_⟩ qn
    obtain ⟨e,_⟩:=I2.pin p hp
    have:=Heap.lt_size e
    rw [hC,z] at this
    exact Nat.lt_irrefl _ this
  · refine thn (T.item (cxComp X N' scope C s2 (upd H1 l (.dK [])) fp) rfl rfl rfl hc i [] s4 σ4 H4 NoE I4 (stat fr4) st4 go) fun r s5 ⟨u,hr,h5⟩=>?_
    subst hr
    refine thn h5 fun _ s6 ⟨x,H6,I6,r6,y6,st6,fr6⟩=>?_
    have I6':=I6.pinned (stat fr6) (T.obj _ _ st6)
    have keepT:∀ {σ7:St} {H7:Hp} {s7:Shared},Inv (cxComp X N' scope C s2 (upd H1 l (.dK [])) fp) ([]++pinsAt fp s6.heap) σ7 H7 s7→tn (i+1) s7.heap∧∀ b∈fp,H7 b=none:=fun {σ7 H7 s7} I7=>
     ⟨T.keep _ _ _ st6 fun b hb o e=>(I7.pin (b,o) (List.mem_append_right _ (List.mem_append_right _ (mem_pinsAt hb e)))).1,fun b hb=>by
      obtain ⟨o,e,d⟩:=T.obj _ _ st6 b hb
      exact (I7.pin (b,o) (List.mem_append_right _ (List.mem_append_right _ (mem_pinsAt hb e)))).2.1⟩
    refine thn (hg C s2 (upd H1 l (.dK [])) fp _ s6 σ4 H6 x u _ I6' r6 (step x H6 y6)) fun _ s7 ⟨σ7,H7,I7,q7⟩=>?_
    refine thn (ht C s2 (upd H1 l (.dK [])) fp _ s7 σ7 H7 _ I7 q7) fun ok s8 ⟨H8,I8,q8⟩=>?_
    cases ok with
    | false=>
     rw [if_neg (by decide)] at q8 ⊢
     obtain ⟨m',hm,w8⟩:=q8
     have kt:=keepT I8
     exact ⟨m',hm,i+1,σ7,H8,I8.unpinned,kt.1,kt.2,w8⟩
    | true=>
     rw [if_pos rfl] at q8 ⊢
     refine thn (hk C s2 (upd H1 l (.dK [])) fp _ s8 σ7 H8 _ I8 q8) fun u9 s9 ⟨y,H9,I9,r9,q9⟩=>?_
     refine thn (hv C s2 (upd H1 l (.dK [])) fp _ s9 σ7 H9 _ I9 q9) fun v s9' ⟨y',H9',I9',r9',kvs,ky,ey,e9,z9,m',hm,w9⟩=>?_
     subst ey
     refine d_set (X:=cxComp X N' scope C s2 (upd H1 l (.dK [])) fp) I9' e9 z9 r9 r9' fun s10 I10=>?_
     have kt:=keepT I10
     exact ⟨m',hm,i+1,σ7,_,I10.unpinned,kt.1,kt.2,w9⟩
 have e2:(newEnv scope C X.env.globals (closeL X.env scope.names []) X.env.qual none .none (some X.env) builtinsNs).locals=C:=rfl
 show codeAny _ _ (.compStart _ 0 (.ref it) (.ref l) (compEnvC scope (closeL X.env scope.names []) C X.env)) (RR (.ref l) C) _
 exact codeAny_compStart_dict (loop _ rfl) (T.self _ 0 _ _ _ st3 (loop _ rfl))
noncomputable def tSetCompD (i:Nat) (wi:TI) (k:Nat) (idx:List Nat) (g:TG) (tt:TT) (tk tv:TE):TS:=fun D σ H=>wi σ H fun J H1=>∀ l,H1 l=none→dTurns J g tt tk tv l (startC k idx σ) (upd H1 l (.dK [])) fun H2=>D.nx (σ.set i (some (.ref l))) H2
theorem ps_setcompD {i:Nat}{y:Str}{py spos:Pos}(hc:X.calm=true) (hN:X.N.Nodup) (hiN:X.N[i]? = some y) (hy:X.env.scope.names.lookup y=some .local) (S:CompScope sc N scope N' k idx) (hsc:X.env.scope=sc) (hNN:X.N=N) (hi:PI X tg iter wi)
 (hg:∀ C s H fp,PG (cxComp X N' scope C s H fp) tg g) (ht:∀ C s H fp,PTs (cxComp X N' scope C s H fp) ifs tt) (hk:∀ C s H fp,PE (cxComp X N' scope C s H fp) kx tk) (hv:∀ C s H fp,PE (cxComp X N' scope C s H fp) vx tv)
 (hsw:swapsWith (.DictComp kx vx [⟨tg,iter,ifs,0⟩] scope pos) (some (.Name y py)) spos.line X.env=pure true:=by rfl)
 (hs:∀ x,foldedSetIterable iter X.env x=pure x:=by intro _;rfl):PS X (.Assign [.Name y py] (.DictComp kx vx [⟨tg,iter,ifs,0⟩] scope pos) spos) (tSetCompD i wi k idx g tt tk tv):=by
 intro pins s σ H D I h
 rw [exec_Assign_Name_used _ _ _ _ hsw]
 refine wpAny_bind (wpAny_standAt (wpAny_bind ?_))
 show wpAny _ X.A (do let _ ← comprehension (.DictComp kx vx [⟨tg,iter,ifs,0⟩] scope pos) scope X.env _ newDict false (eval iter X.env) (some (assign (.Name y py) X.env))) _ _ s
 have hclos:closureFor scope X.env=pure (closeL X.env scope.names []):=closureFor_eq fun x hx hfree=>I.ok.has x.1 (by
  show X.env.scope.names.lookup x.1=_∨X.env.scope.names.lookup x.1=_
  rw [hsc];exact S.fr x hx hfree)
 refine wpAny_bind (wpAny_mono (wpAny_comprehension_free (use:=some (assign (.Name y py) X.env)) (Q:=fun _ s'=>SP X pins D .next s') rfl hs hclos S.kind S.loc (thn (hi pins s σ H _ I h) fun v s1 h1=>thn h1 fun itv s2 h2=>?_))
  (fun _ s' hq=>wpAny_pure (wpAny_pure hq)) fun _ _ e=>e)
 refine comp_blockD (RR:=fun acc C=>compPost (model X.prog X.w) X.A X.xe (some (assign (.Name y py) X.env)) (fun _ s'=>SP X pins D .next s') acc C) (Qe:=fun l H2=>D.nx (σ.set i (some (.ref l))) H2) hc S hsc hNN hg ht hk hv h2 ?_
 intro l H2 C s2 I2 hm f q
 obtain ⟨m,hm⟩:=hm
 show wpAny _ X.A (assign (.Name y py) X.env (.ref l)) _ _ _
 refine wpAny_assign_Name (store_ok2 (v:=.ref l) I2 hN hiN (.inl hy) rfl (fun s' I' hch=>?_) (.inr hy))
 obtain ⟨a,hsb,ha⟩:=hch
 have haC:C≠a:=fun z=>by
  rcases ha with e | e
  · exact f.loc (z.trans e)
  · exact f.cel y a e z.symm
 exact ⟨m,hm.sameBut hsb haC,fun h' hs'=>⟨_,H2,I'.freed f hs',q⟩⟩
end
section
variable {X:Cx}
end
end L2
namespace My
open PySem PySem.Spec PyProof.Rows L2
noncomputable def valD (kvs:List (Key×PyData)) (k:Key):Option PyData:=(kvs.find? fun kv=>decide (kv.1=k)).map (·.2)
noncomputable def putQ (kvs:List (Key×PyData)) (k:Key) (v:PyData):List (Key×PyData):=
 if (kvs.any fun kv=>decide (kv.1=k))=true then kvs.map (fun kv=>if kv.1=k then (kv.1,v) else kv) else kvs++[(k,v)]
theorem kv_cons {ex:List Addr}{H:Hp}{p:Key×PyData}{kvs:List (Key×PyData)}{kws:List (Key×V)}(h:KvR ex H (p::kvs) kws):∃ v rest,kws=(p.1,v)::rest∧Rep ex H p.2 v∧KvR ex H kvs rest:=by
 obtain ⟨h1,h2⟩:=h
 cases kws with
 | nil=>cases h1
 | cons q rest=>
  rw [List.map_cons,List.map_cons] at h1 h2
  injection h1 with a b
  cases h2 with
  | cons r t=>exact ⟨q.2,rest,by rw [← a],r,b,t⟩
theorem kv_nil {ex:List Addr}{H:Hp}{kws:List (Key×V)}(h:KvR ex H [] kws):kws=[]:=by
 have:=h.1
 cases kws with
 | nil=>rfl
 | cons _ _=>cases this
theorem kv_val {ex:List Addr}{H:Hp}{k:Key}:∀ {kvs:List (Key×PyData)}{kws:List (Key×V)},KvR ex H kvs kws→(valD kvs k=none∧valV kws k=none)∨∃ d v,valD kvs k=some d∧valV kws k=some v∧Rep ex H d v
 | [],kws,h=>by rw [kv_nil h];exact .inl ⟨rfl,rfl⟩
 | p::kvs,kws,h=>by
  obtain ⟨v,rest,rfl,r,t⟩:=kv_cons h
  by_cases e:p.1=k
  · exact .inr ⟨p.2,v,by unfold valD;rw [List.find?_cons_of_pos (by simp [e])];rfl,valV_pos e,r⟩
  · have e1:valD (p::kvs) k=valD kvs k:=by unfold valD;rw [List.find?_cons_of_neg (by simp [e])]
    rw [e1,valV_neg (p:=(p.1,v)) e]
    exact kv_val t
theorem kv_any {ex:List Addr}{H:Hp}{k:Key}:∀ {kvs:List (Key×PyData)}{kws:List (Key×V)},KvR ex H kvs kws→(kws.any fun kv=>decide (kv.1=k))=kvs.any fun kv=>decide (kv.1=k)
 | [],kws,h=>by rw [kv_nil h];rfl
 | p::kvs,kws,h=>by
  obtain ⟨v,rest,rfl,r,t⟩:=kv_cons h
  rw [List.any_cons,List.any_cons,kv_any t]
theorem kv_map {ex:List Addr}{H:Hp}{k:Key}{d:PyData}{w:V}(rd:Rep ex H d w):∀ {kvs:List (Key×PyData)}{kws:List (Key×V)},KvR ex H kvs kws→KvR ex H (kvs.map fun kv=>if kv.1=k then (kv.1,d) else kv) (kws.map fun kv=>if kv.1=k then (kv.1,w) else kv)
 | [],kws,h=>by rw [kv_nil h];exact ⟨rfl,.nil⟩
 | p::kvs,kws,h=>by
  obtain ⟨v,rest,rfl,r,t⟩:=kv_cons h
  obtain ⟨t1,t2⟩:=kv_map rd t
  rw [List.map_cons,List.map_cons]
  by_cases e:p.1=k
  · rw [if_pos e,if_pos e]
    exact ⟨by rw [List.map_cons,List.map_cons,t1],.cons rd t2⟩
  · rw [if_neg e,if_neg e]
    exact ⟨by rw [List.map_cons,List.map_cons,t1],.cons r t2⟩
theorem kv_put {ex:List Addr}{H:Hp}{k:Key}{d:PyData}{w:V}{kvs:List (Key×PyData)}{kws:List (Key×V)}(h:KvR ex H kvs kws) (rd:Rep ex H d w):KvR ex H (putQ kvs k d) (putK kws k w):=by
 unfold putQ putK
 rw [kv_any h]
 split
 · exact kv_map rd h
 · exact ⟨by rw [List.map_append,List.map_append,h.1];rfl,by rw [List.map_append,List.map_append];exact Reps.append h.2 (.cons rd .nil)⟩
theorem kv_len {ex:List Addr}{H:Hp}{kvs:List (Key×PyData)}{kws:List (Key×V)}(h:KvR ex H kvs kws):kws.length=kvs.length:=by
 have:=congrArg List.length h.1
 rw [List.length_map,List.length_map] at this
 exact this
theorem KvR.kp {ex:List Addr}{H H':Hp}{kvs:List (Key×PyData)}{kws:List (Key×V)}(h:KvR ex H kvs kws) (k:Kp ex H H'):KvR ex H' kvs kws:=⟨h.1,h.2.keep k⟩
section
variable {C:Cv}{ex:List Addr}{env:List Vl}{σ:L2.St}{H H':Hp}{n m:Nat}
theorem own_atD {i:Nat}{ds:List (Key×PyData)}{a b:Addr}(h:b∈ownAt (env.set i (.dct ds)) (σ.set i (some (.ref a))) i):b=a:=by
 unfold ownAt at h
 split at h
 · rename_i e1 e2
   have:=set_get e1
   cases this
 · rename_i c e1 e2
   have e3:(σ.set i (some (.ref a)))[i]? = some (some (.ref c)):=join_some e2
   have:=set_get e3
   cases this
   exact List.mem_singleton.mp h
 · rename_i e1 e2
   have:=set_get e1
   cases this
 · cases h
theorem At.ownD (A:At C ex env σ H n) {i:Nat}{ds:List (Key×PyData)}{vs:List (Key×V)}{a:Addr}(s:Step C.S m H H') (ha:H a=none) (hl:H' a=some (.dK vs)) (r:KvR (a::ex) H' ds vs) :
 At C (a::ex) (env.set i (.dct ds)) (σ.set i (some (.ref a))) H' m:=by
 have ac:a∉C.S.ch:=fun z=>C.S.dom A.ev.inv a z ha
 have hc:∀ b∈C.S.ch,b∈a::ex:=fun b h=>List.mem_cons_of_mem _ (A.ev.ch b h)
 have E1:Ev C.S (a::ex) env σ H' m:=by
  refine ⟨A.ev.len,fun j w e=>(SlR.add ha (A.ev.sl j w e)).kp hc s.1,hc,fun b hb=>?_,s.2⟩
  rcases List.mem_cons.mp hb with rfl | hb
  · rw [hl];intro z;cases z
  · exact A.ev.al.step s b hb
 refine ⟨E1.put ⟨a,vs,rfl,hl,r,List.mem_cons_self,ac⟩,fun b h=>List.mem_cons_of_mem _ (A.ex0 b h),A.al0,fun j k b h1 h2=>?_,fun j b h=>?_,A.kp.trans s.1,fun h hh=>(Rep.add ha (A.held h hh)).keep (s.1.mono hc)⟩
 · by_cases hj:i=j
   · subst hj
     have e:=own_atD h1
     subst e
     by_cases hk:i=k
     · exact hk
     · rw [own_other hk] at h2
       exact absurd ha (own_sl A.ev h2).1
   · rw [own_other hj] at h1
     by_cases hk:i=k
     · subst hk
       have e:=own_atD h2
       subst e
       exact absurd ha (own_sl A.ev h1).1
     · rw [own_other hk] at h2
       exact A.sep j k b h1 h2
 · by_cases hj:i=j
   · subst hj
     have e:=own_atD h
     subst e
     exact A.free ha
   · rw [own_other hj] at h
     exact A.new j b h
theorem own_sameD {i:Nat}{xs ys:List (Key×PyData)}(h:env[i]? = some (.dct xs)):∀ j,ownAt (env.set i (.dct ys)) σ j=ownAt env σ j:=fun j=>by
 unfold ownAt
 by_cases hj:i=j
 · subst hj
   rw [List.getElem?_set_self (List.getElem?_eq_some_iff.mp h).1,h]
   cases (σ[i]?).join with
   | none=>rfl
   | some v=>cases v<;>rfl
 · rw [List.getElem?_set_ne hj]
theorem At.reD (A:At C ex env σ H n) {i:Nat}{xs ys:List (Key×PyData)}{ws:List (Key×V)}{a:Addr}(h:env[i]? = some (.dct xs)) (hs:(σ[i]?).join=some (.ref a)) (r:KvR ex H ys ws) :
 At C ex (env.set i (.dct ys)) σ (upd H a (.dK ws)) n:=by
 have ha:a∈ownAt env σ i:=by unfold ownAt;rw [h,hs];exact List.mem_singleton.mpr rfl
 obtain ⟨h1,h2,h3⟩:=own_sl A.ev ha
 have h0:=A.new i a ha
 have kx:Kp ex H (upd H a (.dK ws)):=Kp.at h2 _
 refine ⟨⟨by rw [List.length_set];exact A.ev.len,fun j w e=>?_,A.ev.ch,fun b hb=>?_,C.S.keep A.ev.inv fun b hb o e=>by rw [upd_ne (fun z=>h3 (by rw [← z];exact hb))];exact e⟩,A.ex0,A.al0,fun j k b q1 q2=>?_,fun j b q=>?_,Kp.late A.kp h0 _,fun x hx=>(A.held x hx).keep kx⟩
 · by_cases hj:i=j
   · subst hj
     rw [List.getElem?_set_self (List.getElem?_eq_some_iff.mp h).1] at e
     cases e
     exact ⟨a,ws,hs,upd_same,⟨r.1,r.2.keep kx⟩,h2,h3⟩
   · rw [List.getElem?_set_ne hj] at e
     exact SlR.upd h2 (fun b hb z=>hj (A.sep i j a ha (by rw [own_one e,← z];exact hb))) (A.ev.sl j w e)
 · by_cases hb2:b=a
   · rw [hb2,upd_same];intro z;cases z
   · rw [upd_ne hb2];exact A.ev.al b hb
 · rw [own_sameD h] at q1 q2;exact A.sep j k b q1 q2
 · rw [own_sameD h] at q;exact A.new j b q
theorem At.at_dct (A:At C ex env σ H n) {i:Nat}{xs:List (Key×PyData)}(e:env[i]? = some (.dct xs)):∃ a kws,(σ[i]?).join=some (.ref a)∧H a=some (.dK kws)∧KvR ex H xs kws∧a∈ex∧a∉C.S.ch:=by
 obtain ⟨a,vs,ev,h1,h2,h4,h5⟩:=A.ev.sl i _ e
 exact ⟨a,vs,ev,h1,h2,h4,h5⟩
end
noncomputable instance (priority:=high) sv_dnew {i:Nat}:SV (tAsg tDNewK (gName i)) (fun G env n=>G.nx (env.set i (.dct [])) n):=⟨fun {C G D} O {ex env σ H n} A h=>fun p hp=>
 O.nx (A.ownD (Step.new A.ev.inv (Kp.new hp _)) hp upd_same ⟨rfl,.nil⟩) h⟩
noncomputable abbrev gDPutD (i:Nat) (gy ge:GE):GS:=fun G env n=>ge env n fun d n1=>match env[i]? with
 | some (.dct kvs)=>gy env n1 fun y n2=>(match y with
  | .int j=>kvs.length<sizeLine∧G.nx (env.set i (.dct (putQ kvs (Sum.inl j) d))) n2
  | _=>False)
 | _=>False
noncomputable instance sv_dputQ {i:Nat}{ty tv:TE}{gy ge:GE} [Y:EV false ty gy] [E:EV true tv ge]:SV (sDPut (tVar i) ty tv) (gDPutD i gy ge):=⟨fun {C G D} O {ex env σ H n} A h=>E.ev A.ev h fun d n1 v H1 hd s1 rd=>by
 have A1:=A.step s1
 split at hd
 · rename_i kvs e
   obtain ⟨a,kws,ev,h1,h2,h4,h5⟩:=A1.at_dct e
   refine ⟨_,join_some ev,Y.ev A1.ev hd fun y n2 yv H2 hy s2 ry=>?_⟩
   have A2:=A1.step s2
   cases ry with
   | int j=>
    obtain ⟨hl,hq⟩:=hy
    have h1':=s2.1 _ _ h1 h5
    have h2':=h2.kp (s2.1.mono A1.ev.ch)
    have rd':=A1.ev.rep s2 rd
    exact ⟨a,_,rfl,DPut.k (k:=Sum.inl j) h1' (by rw [kv_len h2];exact hl),O.nx (A2.reD e ev (kv_put h2' rd')) hq⟩
   | none=>exact hy.elim
   | obj=>exact hy.elim
   | dctf=>exact hy.elim
   | bool=>exact hy.elim
   | str=>exact hy.elim
   | list=>exact hy.elim
   | tuple=>exact hy.elim
 · exact hd.elim⟩
noncomputable def cmpDW (turn:PyData→Nat→(Option (Int×PyData)→Nat→Prop)→Prop):List PyData→Nat→List (Key×PyData)→(List (Key×PyData)→Nat→Prop)→Prop
 | [],n,acc,Q=>Q acc n
 | x::xs,n,acc,Q=>turn x n fun o n1=>match o with
  | none=>cmpDW turn xs n1 acc Q
  | some p=>cmpDW turn xs n1 (putQ acc (Sum.inl p.1) p.2) Q
noncomputable abbrev gTurnD (bd:GG) (gt:GT) (gk gv:GE) (env:List Vl):PyData→Nat→(Option (Int×PyData)→Nat→Prop)→Prop:=fun x n Q=>bd x env fun env'=>gt env' n fun c n1=>if c=true then gk env' n1 fun y n2=>(match y with | .int j=>gv env' n2 fun d n3=>Q (some (j,d)) n3 | _=>False) else Q none n1
noncomputable abbrev gSetCompD (i:Nat) (gi:GN) (k:Nat) (idx ks:List Nat) (bd:GG) (gt:GT) (gk gv:GE):GS:=fun G env n=>gi env n fun items n1=>(ks.all (fun i=>decide (i<k))=true∧items.length≤sizeLine)∧cmpDW (gTurnD bd gt gk gv (jenv k idx env)) items n1 [] fun kvs n2=>G.nx (env.set i (.dct kvs)) n2
noncomputable instance sv_setcompD {i0:Nat}{wi:TI}{gi:GN}{k:Nat}{idx ks:List Nat}{g:TG}{bd:GG}{tt:TT}{gt:GT}{tk tv:TE}{gk gv:GE} [I:IC wi gi] [G':GV g bd ks] [T:TV tt gt] [A:EV false tk gk] [B:EV true tv gv]:SV (tSetCompD i0 wi k idx g tt tk tv) (gSetCompD i0 gi k idx ks bd gt gk gv):=⟨fun {C G D} O {ex env σ H n} A0 h=>by
 have E:=A0.ev
 refine I.ic E h fun items n1 J H1 hc s1 hit l hl=>?_
 obtain ⟨⟨hk,hz⟩,hc⟩:=hc
 have E1:=ev_inner (E.step s1) k idx
 have lch:l∉C.S.ch:=fun z=>C.S.dom s1.2 l z hl
 have hkk:∀ i∈ks,i<k:=fun i hi=>of_decide_eq_true (List.all_eq_true.mp hk i hi)
 refine ⟨fun i m σ' H2=>i≤items.length∧m=items.length-i∧∃ (n2:Nat) (ds:List (Key×PyData)) (vs:List (Key×V)),cmpDW (gTurnD bd gt gk gv (jenv k idx env)) (items.drop i) n2 ds (fun kvs n'=>G.nx (env.set i0 (.dct kvs)) n')∧Kp (l::C.S.ch) H1 H2∧H2 l=some (.dK vs)∧vs.length≤i∧KvR (l::ex) H2 ds vs∧C.S.inv n2 H2∧(∀ j:Nat,k≤j→σ'[j]? = (startC k idx σ)[j]?)∧σ'.length=(startC k idx σ).length,
  ⟨items.length,Nat.zero_le _,rfl,n1,[],[],by simpa using hc,Kp.new hl _,upd_same,Nat.le_refl _,⟨rfl,.nil⟩,C.S.keep s1.2 fun b _ o' e=>Kp.new (ex:=[]) hl _ _ _ e (by simp),fun _ _=>rfl,rfl⟩,?_⟩
 rintro i m σ' H2 ⟨hi,rfl,n2,ds,vs,hcm,kp,h2l,hvl,rs,iv2,hsl,hln⟩
 have E2:Ev C.S (l::ex) (jenv k idx env) σ' H2 n2:=ev_turn E1 hl kp (by rw [h2l];intro z;cases z) iv2 jenv_jnk hsl hln
 have IT:=hit l H2 hl kp E2.al
 rcases Nat.lt_or_ge i items.length with hlt | hge
 · refine .inr ⟨(IT.2 i items[i] (List.getElem?_eq_getElem hlt)).1,fun x H3 y=>?_⟩
   obtain ⟨kp3,rx⟩:=(IT.2 i items[i] (List.getElem?_eq_getElem hlt)).2 x H3 y
   rw [List.drop_eq_getElem_cons hlt] at hcm
   have st3:Step C.S n2 H2 H3:=Step.new E2.inv kp3
   have E3:=E2.step st3
   refine G'.gv E3 rx hcm fun env' σ2 ht E4 _ hs hl2=>T.tv E4 ht fun c n4 H4 h4 s4=>?_
   have hs2:∀ j:Nat,k≤j→σ2[j]? = (startC k idx σ)[j]?:=fun j hj=>by
    rw [hs j fun z=>by have:=hkk j z;omega];exact hsl j hj
   cases c with
   | true=>
    refine A.ev (E4.step s4) h4 fun y n5 yv H5 h5 s5 ry=>?_
    cases ry with
    | int j=>
     refine B.ev ((E4.step s4).step s5) h5 fun d n6 v H6 h6 s6 r6=>?_
     have s26:=st3.trans (s4.trans (s5.trans s6))
     have k6:Kp C.S.ch H2 H6:=s26.1
     have h6l:H6 l=some (.dK vs):=k6 _ _ h2l lch
     have q1:KvR (l::ex) H6 ds vs:=rs.kp (k6.mono E2.ch)
     refine ⟨vs,Sum.inl j,rfl,h6l,by omega,_,(?_:items.length-(i+1)<_),hlt,rfl,n6,putQ ds (Sum.inl j) d,putK vs (Sum.inl j) v,h6,?_,upd_same,?_,(kv_put q1 r6).kp (Kp.at List.mem_cons_self _),?_,hs2,hl2.trans hln⟩
     · omega
     · exact (kp.trans (k6.mono fun b hb=>List.mem_cons_of_mem _ hb)).trans (Kp.at List.mem_cons_self _)
     · have:=length_putK vs (Sum.inl j) v;omega
     · exact C.S.keep s26.2 fun b hb o e=>by rw [upd_ne (fun z=>lch (by rw [← z];exact hb))];exact e
    | none=>exact h5.elim
    | obj=>exact h5.elim
    | dctf=>exact h5.elim
    | bool=>exact h5.elim
    | str=>exact h5.elim
    | list=>exact h5.elim
    | tuple=>exact h5.elim
   | false=>
    have s24:=st3.trans s4
    refine ⟨_,(?_:items.length-(i+1)<_),hlt,rfl,n4,ds,vs,h4,kp.trans (s24.1.mono fun b hb=>List.mem_cons_of_mem _ hb),s24.1 _ _ h2l lch,by omega,rs.kp (s24.1.mono E2.ch),s24.2,hs2,hl2.trans hln⟩
    omega
 · have e:i=items.length:=by omega
   subst e
   rw [List.drop_length] at hcm
   refine .inl ⟨IT.1,?_⟩
   exact O.nx (A0.ownD (i:=i0) ⟨fun b o e nb=>kp b o (s1.1 b o e nb) fun z=>(List.mem_cons.mp z).elim (fun e2=>by rw [e2,s1.free hl] at e;cases e) nb,iv2⟩ (s1.free hl) h2l rs) hcm⟩
theorem at_ls {ls:List Int}{k:Int}(h0:0≤k) (h1:k<ls.length):atI (ls.map PyData.int) k=some (.int (ls.getD k.toNat 0)):=by
 unfold atI
 rw [List.length_map,ixN_of h0 h1]
 exact int_get (by omega)
end My
namespace L2
open PySem PySem.Spec PyProof.Rows
section
variable {X:Cx}{pos p2:Pos}
end
end L2
namespace My
open PySem PySem.Spec PyProof.Rows L2
end My
namespace L2
open PySem PySem.Spec PyProof.Rows PySem.SeqAt
section
variable {X:Cx}
end
end L2
namespace My
open PySem PySem.Spec PyProof.Rows L2
noncomputable abbrev gTupO (i:Nat):GE:=fun env n Q=>match env[i]? with
 | some (.own xs)=>Q (.tuple xs) n
 | some (.d (.list xs))=>Q (.tuple xs) n
 | some (.d (.tuple xs))=>Q (.tuple xs) n
 | _=>False
noncomputable instance (priority:=high) ev_tupO {K:PySem.W.Frag}{i:Nat}:EV true (tCB (fun xs H Q=>∃ p ys,xs=[.ref p]∧((SqL K H p ys∧∀ l,H l=none→Q (.ref l) (upd H l (.tup ys)))∨(SqT K H p ys∧Q (.ref p) H))) (tCons (tVar i) tNil)) (gTupO i):=⟨fun {S ex env σ H n Q P} E h k=>by
 unfold gTupO at h
 split at h
 · rename_i xs e
   obtain ⟨a,vs,ev,h1,h2,h3,h4,h5⟩:=E.sl i _ e
   exact ⟨_,join_some ev,_,_,rfl,.inl ⟨SqL.of h1,fun l hl=>k _ _ _ _ h (Step.new E.inv (Kp.new hl _)) (.tuple upd_same (E.al.nm hl) h2 (h3.keep (Kp.new hl _)))⟩⟩
 · rename_i xs e
   obtain ⟨v,ev,r⟩:=E.sl i _ e
   cases r with
   | list h1 _ h2 h3=>exact ⟨_,join_some ev,_,_,rfl,.inl ⟨SqL.of h1,fun l hl=>k _ _ _ _ h (Step.new E.inv (Kp.new hl _)) (.tuple upd_same (E.al.nm hl) h2 (h3.keep (Kp.new hl _)))⟩⟩
 · rename_i xs e
   obtain ⟨v,ev,r⟩:=E.sl i _ e
   cases r with
   | tuple h1 hn h2 h3=>exact ⟨_,join_some ev,_,_,rfl,.inr ⟨SqT.of h1,k _ _ _ _ h (.refl E.inv) (.tuple h1 hn h2 h3)⟩⟩
 · exact h.elim⟩
noncomputable def fIntB:G1:=fun ds Q=>match ds with
 | [.int i]=>Q (.int i)
 | [.bool b]=>Q (.int (if b=true then 1 else 0))
 | _=>False
noncomputable instance cs_intB:CS (fun xs H Q=>(∃ i,xs=[V.int i]∧Q (V.int i) H)∨∃ k,xs=[V.bl k]∧Q (V.int (if k=true then 1 else 0)) H) fIntB:=⟨fun {H xs ds Q P} r h k=>by
 unfold fIntB at h
 split at h
 · cases r with
   | cons r1 t=>
    cases t
    cases r1
    exact .inl ⟨_,rfl,k _ _ h fun ex=>.int _⟩
 · cases r with
   | cons r1 t=>
    cases t
    cases r1
    exact .inr ⟨_,rfl,k _ _ h fun ex=>.int _⟩
 · exact h.elim⟩
end My
namespace L2
open PySem PySem.Spec PyProof.Rows
section
variable {X:Cx}
end
end L2
namespace My
open PySem PySem.Spec PyProof.Rows L2
section
variable {n:Nat}{key:Nat→Int}
structure PA (n:Nat) (p:Array Nat):Prop where
 size:p.size=n
 perm:p.toList.Perm (List.range n)
noncomputable def kv (key:Nat→Int) (p:Array Nat) (i:Nat):Int:=key (p.getD i 0)
end
end My
namespace L2
open PySem PySem.Spec PyProof.Rows PySem.SeqAt
open AutoSeq1 (wpAny_loadPart')
section
variable {prog:Program}{w:World}{A:Around}{E:Value→Shared→Prop}{s:Shared}
end
section
variable {prog:Program}{w:World}{A:Around}{E:Value→Shared→Prop}{s:Shared}
end
section
variable {X:Cx}
end
section
variable {X:Cx}
theorem vals_of_ints:∀ {us:List Value}{ns:List Int},IntsAre us ns→Vals (ns.map V.int) us
 | _,_,.nil=>.nil
 | _,_,.cons n t h=>.cons ⟨_,rfl⟩ (vals_of_ints h)
end
end L2
namespace My
open PySem PySem.Spec PyProof.Rows L2
noncomputable abbrev rt (ws:List Way) (ks:List Int) (i j:Int):Prop:=Rt (esOf ws ks) (wayAt ws i).b.toNat (wayAt ws j).a.toNat
theorem cmpW_filtG {β:Type}{turn:PyData→Nat→(Option PyData→Nat→Prop)→Prop}{n:Nat}{g:β→PyData}{p:β→Bool}:∀ {ks:List β}{Q:List PyData→Nat→Prop},(∀ k∈ks,∀ K:Option PyData→Nat→Prop,(p k=true→K (some (g k)) n)→(p k=false→K none n)→turn (g k) n K)→Q ((ks.filter p).map g) n→cmpW turn (ks.map g) n Q
 | [],_,_,q=>q
 | k::ks,Q,h,q=>by
  refine h k List.mem_cons_self _ (fun c=>?_) (fun c=>?_)
  · rw [List.filter_cons_of_pos c] at q
    exact cmpW_filtG (Q:=fun ys n2=>Q (g k::ys) n2) (fun j hj=>h j (List.mem_cons_of_mem _ hj)) q
  · rw [List.filter_cons_of_neg (by rw [c];decide)] at q
    exact cmpW_filtG (Q:=fun ys n2=>Q ys n2) (fun j hj=>h j (List.mem_cons_of_mem _ hj)) q
end My
namespace L2
open PySem PySem.Spec PyProof.Rows PySem.SeqAt
section
variable {X:Cx}
end
section
variable {X:Cx}{v:Expr}{te:TE}{a:Str}{ja:Nat}{pa pf pos:Pos}
end
end L2
namespace My
open PySem PySem.Spec PyProof.Rows L2
noncomputable def numS (i:Int):Str:=Str.ofString (toString i)
noncomputable def figS (z:Str):Str:=if Txt.startswith z "-" then Txt.slice z (some 1) none else z
noncomputable def numOk (i:Int):Bool:=(numS i).cps.all (fun c=>decide (c=45)||(decide (48≤c)&&decide (c<58)))&&(figS (numS i)).cps.all (fun c=>decide (c<128) && !(Builtin.Str.occurrences "0123456789" ⟨#[c]⟩ 0 10 1).isEmpty)&&decide (1≤(figS (numS i)).length)&&decide ((numS i).length≤3)&&decide ((figS (numS i)).length≤3)&&decide (intText? (numS i)=some i)&&(decide (numS i = "0") || !decide ((figS (numS i)).cps.toList.headD 48=48))&&decide (i.natAbs.log2<1920)
theorem num_all:(List.range 199).all (fun (k:Nat)=>numOk ((k:Int)-99))=true:=by decide +kernel
theorem num_ok {i:Int}(h0:-99≤i) (h1:i≤99):numOk i=true:=by
 have:=List.all_eq_true.mp num_all (i+99).toNat (List.mem_range.mpr (by omega))
 rw [show (((i+99).toNat:Nat):Int)-99=i by omega] at this
 exact this
structure NumOk (i:Int):Prop where
 signs:∀ c∈(numS i).cps.toList,c=45∨(48≤c∧c<58)
 figs:∀ c∈(figS (numS i)).cps.toList,c<128∧(!(Builtin.Str.occurrences "0123456789" ⟨#[c]⟩ 0 10 1).isEmpty)=true
 f1:1≤(figS (numS i)).length
 l3:(numS i).length≤3
 f3:(figS (numS i)).length≤3
 int:intText? (numS i)=some i
 head:numS i = "0"∨(figS (numS i)).cps.toList.headD 48≠48
 log:i.natAbs.log2<1920
theorem num_of {i:Int}(h0:-99≤i) (h1:i≤99):NumOk i:=by
 have h:=num_ok h0 h1
 unfold numOk at h
 simp only [Bool.and_eq_true,Bool.or_eq_true,decide_eq_true_eq,Bool.not_eq_true',decide_eq_false_iff_not,Array.all_eq_true_iff_forall_mem] at h
 obtain ⟨⟨⟨⟨⟨⟨⟨a1,a2⟩,a3⟩,a4⟩,a5⟩,a6⟩,a7⟩,a8⟩:=h
 exact ⟨fun c hc=>a1 c (Array.mem_toList_iff.mp hc),fun c hc=>⟨(a2 c (Array.mem_toList_iff.mp hc)).1,by rw [(a2 c (Array.mem_toList_iff.mp hc)).2];rfl⟩,a3,a4,a5,a6,a7,a8⟩
noncomputable def wayW (w:Way):List Str:=[numS w.a,"->",numS w.b,":"]++w.g.map numS
noncomputable def rowS (w:Way):Str:=Txt.join " " (wayW w)
noncomputable def bookRows (R U:Int) (ws:List Way):List Str:=["rooms " ++ numS R,"purses " ++ numS U]++ws.map rowS
end My
namespace L2
open PySem PySem.Spec PyProof.Rows PySem.SeqAt
section
open AutoSeq1 (wpAny_loadPart')
end
section
variable {prog:Program}{w:World}{A:Around}{E:Value→Shared→Prop}{s:Shared}
end
section
variable {X:Cx}{es:List Expr}{kk:Nat}{tp:Pos}
end
end L2
namespace My
open PySem PySem.Spec PyProof.Rows L2
section
variable {K:PySem.W.Frag}{ex:List Addr}{H:Hp}
end
open PySem.StrLaws PySem.Builtin.Str
theorem join_mem {sep:Str}{c:Nat}:∀ {ps:List Str},c∈(Str.join sep ps).cps.toList→c∈sep.cps.toList∨∃ p∈ps,c∈p.cps.toList
 | [],h=>by cases h
 | [p],h=>.inr ⟨p,List.mem_singleton.mpr rfl,h⟩
 | p::q::ps,h=>by
  have h:c∈(p++sep++Str.join sep (q::ps)).cps.toList:=h
  simp only [Str.cps_append,Array.toList_append,List.mem_append] at h
  rcases h with (h | h) | h
  · exact .inr ⟨p,List.mem_cons_self,h⟩
  · exact .inl h
  · rcases join_mem h with h | ⟨r,hr,h⟩
    · exact .inl h
    · exact .inr ⟨r,List.mem_cons_of_mem _ hr,h⟩
theorem txt_join (sep:Str) (ps:List Str):Txt.join sep ps=Str.join sep ps:=glued_eq_join ..
theorem num_small {R U:Int}{w:Way}(k:WayOk R U w) (hR:R≤12):(-99≤w.a∧w.a≤99)∧(-99≤w.b∧w.b≤99)∧∀ g∈w.g,-99≤g∧g≤99:=by
 have:=k.a0
 have:=k.a1
 have:=k.b0
 have:=k.b1
 exact ⟨⟨by omega,by omega⟩,⟨by omega,by omega⟩,fun g hg=>k.small g hg⟩
theorem num_no {i:Int}(h:-99≤i∧i≤99) {c:Nat}(hc:c∈(numS i).cps.toList):c≠32∧c≠47:=by
 rcases (num_of h.1 h.2).signs c hc with h | h
 · exact ⟨by omega,by omega⟩
 · exact ⟨by omega,by omega⟩
theorem words_ok {R U:Int}{w:Way}(k:WayOk R U w) (hR:R≤12) {q:Str}(hq:q∈wayW w):q.length≤3∧∀ c∈q.cps.toList,c≠32∧c≠47:=by
 obtain ⟨ha,hb,hg⟩:=num_small k hR
 unfold wayW at hq
 rcases List.mem_append.mp hq with hq | hq
 · simp only [List.mem_cons,List.not_mem_nil,or_false] at hq
   rcases hq with rfl | rfl | rfl | rfl
   · exact ⟨(num_of ha.1 ha.2).l3,fun c hc=>num_no ha hc⟩
   · exact ⟨by decide,by decide⟩
   · exact ⟨(num_of hb.1 hb.2).l3,fun c hc=>num_no hb hc⟩
   · exact ⟨by decide,by decide⟩
 · obtain ⟨g,hgm,rfl⟩:=List.mem_map.mp hq
   have:=hg g hgm
   exact ⟨(num_of this.1 this.2).l3,fun c hc=>num_no this hc⟩
theorem wayW_len {R U:Int}{w:Way}(k:WayOk R U w) (hU:U≤6):(wayW w).length≤10:=by
 have:=k.len
 unfold wayW
 rw [List.length_append,List.length_map]
 show 4+_≤_
 omega
theorem rowS_len {R U:Int}{w:Way}(k:WayOk R U w) (hR:R≤12) (hU:U≤6):(rowS w).length≤40:=by
 have h1:=StrLaws.join_length_le " " (wayW w)
 have h2:=sumLen_le (wayW w) (B:=3) fun y hy=>(words_ok k hR hy).1
 have h3:=wayW_len k hU
 unfold rowS
 rw [txt_join]
 have:(" ":Str).length=1:=rfl
 rw [this] at h1
 omega
theorem row_no {R U:Int}{w:Way}(k:WayOk R U w) (hR:R≤12):47∉(rowS w).cps.toList:=fun hc=>by
 unfold rowS at hc
 rw [txt_join] at hc
 rcases join_mem hc with h | ⟨p,hp,h⟩
 · revert h;decide
 · exact ((words_ok k hR hp).2 47 h).2 rfl
theorem app_mem {a b:Str}{c:Nat}(h:c∈(a++b).cps.toList):c∈a.cps.toList∨c∈b.cps.toList:=by
 simpa only [Str.cps_append,Array.toList_append,List.mem_append] using h
theorem rows_ok {R U:Int}{ws:List Way}(k:BookOk R U ws) {q:Str}(hq:q∈bookRows R U ws):q.length≤40∧47∉q.cps.toList:=by
 have:=k.r0
 have:=k.r1
 have:=k.p0
 have:=k.p1
 unfold bookRows at hq
 rcases List.mem_append.mp hq with hq | hq
 · simp only [List.mem_cons,List.not_mem_nil,or_false] at hq
   rcases hq with rfl | rfl
   · have N:-99≤R∧R≤99:=⟨by omega,by omega⟩
     refine ⟨?_,fun hc=>?_⟩
     · rw [strLen_append]
       have:("rooms ":Str).length=6:=rfl
       have:=(num_of N.1 N.2).l3
       omega
     · rcases app_mem hc with h | h
       · revert h;decide
       · exact (num_no N h).2 rfl
   · have N:-99≤U∧U≤99:=⟨by omega,by omega⟩
     refine ⟨?_,fun hc=>?_⟩
     · rw [strLen_append]
       have:("purses ":Str).length=7:=rfl
       have:=(num_of N.1 N.2).l3
       omega
     · rcases app_mem hc with h | h
       · revert h;decide
       · exact (num_no N h).2 rfl
 · obtain ⟨w,hw,rfl⟩:=List.mem_map.mp hq
   have kw:=k.ways w hw
   exact ⟨rowS_len kw k.r1 k.p1,row_no kw k.r1⟩
end My
namespace L2
open PySem PySem.Spec PyProof.Rows PySem.SeqAt
end L2
namespace My
open PySem PySem.Spec PyProof.Rows L2
theorem cmpW_mapG {α:Type}{turn:PyData→Nat→(Option PyData→Nat→Prop)→Prop}{n:Nat}{Q:List PyData→Nat→Prop}{f:α→PyData}(g:α→PyData) {xs:List α}(h:∀ x∈xs,∀ n K,K (some (g x)) n→turn (f x) n K) (q:Q (xs.map g) n):cmpW turn (xs.map f) n Q:=by
 induction xs generalizing n Q with
 | nil=>exact q
 | cons x xs ih=>exact h x List.mem_cons_self _ _ (ih (fun y hy=>h y (List.mem_cons_of_mem _ hy)) q)
end My
namespace PySem
open Sem (wp)
section
variable {prog:Program}{w:World}{A:Around}{E:Value→Shared→Prop}{h:Heap}{g:Array GenState}{d:Drawn}{t:Nat}{os:OsState}
variable {nm q:Str}{C N:Addr}{bs bm bmB:List Value}{hdct:Bool}{sn:List Str}{sub:List Value}{ab:Bool}{col:Option Bool}{dd:Option Addr}{k0 k1 k2 k3 k5:Option Value}{B newId initId:String}
end
end PySem
namespace L2
open PySem PySem.Spec PyProof.Rows
section
variable {prog:Program}{w:World}{A:Around}{E:Value→Shared→Prop}{s:Shared}{l:Addr}{xs:Array (Int×Tok)}
end
section
variable {X:Cx}
end
end L2
namespace My
open PySem PySem.Spec PyProof.Rows L2
section
variable {R:Int}{ws:List Way}{ks:List Int}{x:Int}{l:List Int}{i j:Nat}
end
end My
namespace L2
open PySem PySem.Spec PyProof.Rows PySem.SeqAt
section
variable {X:Cx}{pins:List (Addr×Obj)}{σ:St}{A:Around}{R:Result→Shared→Prop}{it l d:Addr}{ps:List (Key×V×Addr)}
end
section
variable {prog:Program}{w:World}{A:Around}{E:Value→Shared→Prop}{s:Shared}
end
section
variable {X:Cx}
end
end L2
namespace My
open PySem PySem.Spec PyProof.Rows L2 PySem.SeqAt PySem.MeetsSeq
theorem rem_loop {l:Addr}{its:Array Value}{n:Nat}{x:Value}{e:Value→Bool}{j:Nat}(hj:j<its.size) (hit:e its[j]=true) (hz:its.size≤sizeLine) (k:Nat) :
 ∀ i:Nat,j-i=k→i≤j→(∀ m (hm:m<its.size),i≤m→m<j→e its[m]=false) →
 Meets (Builtin.«list.remove.loop» ⟨[.ref l,x,rawInt i],[]⟩) (fun A R s=>s.heap.get? l=some { cls:=.type "list",dict:=none,data:=.seq its n,slots:=#[] }∧(∀ y,y∈its→EqAt A.in1 s y x (e y))∧R (.ok (.ret .none)) { s with heap:=s.heap.update l (Obj.mapSeq fun xs=>xs.eraseIdxIfInBounds j) }):=by
 induction k with
 | zero=>
  intro i hk hij hno prog w A R s h
  obtain ⟨hp,g,d,tk,os⟩:=s
  obtain ⟨hl,he,h⟩:=h
  obtain rfl:i=j:=by omega
  wp_walk using wpAny_loadPart' hl
  rw [show its[((i:Nat):Int).toNat]? = some its[i] by simp [hj]]
  refine wpAny_bind (he _ (Array.getElem_mem hj) prog w _ _ ?_)
  rw [hit]
  have hz':(its.eraseIdxIfInBounds i).size≤sizeLine+1:=Nat.le_trans (size_erased its _) (by omega)
  wp_walk using (wpAny_updateSeq hl rfl (hz:=hz) (_hz':=hz')),wpAny_loadPart' hl
  simpa using h
 | succ k ih=>
  intro i hk hij hno prog w A R s h
  obtain ⟨hp,g,d,tk,os⟩:=s
  obtain ⟨hl,he,h⟩:=h
  have hlt:i<its.size:=by omega
  wp_walk using wpAny_loadPart' hl
  rw [show its[((i:Nat):Int).toNat]? = some its[i] by simp [hlt]]
  refine wpAny_bind (he _ (Array.getElem_mem hlt) prog w _ _ ?_)
  rw [hno i hlt (Nat.le_refl _) (by omega)]
  wp_walk
  rw [show ((i:Int)+1)=((i+1:Nat):Int) by push_cast;rfl]
  refine ⟨plainId_quiet plain_remove_loop _,codeAny_builtin entry_remove_loop ?_⟩
  rw [Around.under_plainId plain_remove_loop _]
  exact ih (i+1) (by omega) (by omega) (fun m hm h1 h2=>hno m hm (by omega) h2) prog w A R _ ⟨hl,he,h⟩
theorem rem_at {l:Addr}{its:Array Value}{n:Nat}{x:Value}{e:Value→Bool}{j:Nat}(hj:j<its.size) (hit:e its[j]=true) (hz:its.size≤sizeLine) (hno:∀ m (hm:m<its.size),m<j→e its[m]=false) :
 Meets (Builtin.«list.remove» ⟨[.ref l,x],[]⟩) (fun A R s=>s.heap.get? l=some { cls:=.type "list",dict:=none,data:=.seq its n,slots:=#[] }∧(∀ y,y∈its→EqAt A.in1 s y x (e y))∧R (.ok (.ret .none)) { s with heap:=s.heap.update l (Obj.mapSeq fun xs=>xs.eraseIdxIfInBounds j) }):=by
 intro prog w A R s h
 obtain ⟨hp,g,d,tk,os⟩:=s
 obtain ⟨hl,he,h⟩:=h
 wp_walk using wpAny_loadPart' hl
 refine ⟨plainId_quiet plain_remove_loop _,codeAny_builtin entry_remove_loop ?_⟩
 rw [Around.under_plainId plain_remove_loop _]
 exact rem_loop hj hit hz _ 0 rfl (Nat.zero_le _) (fun m hm _ h2=>hno m hm h2) prog w A R _ ⟨hl,he,h⟩
noncomputable def firstAt (xs:List PyData) (d:PyData) (j:Nat):Prop:=(∃ a,xs[j]? = some a∧PyData.eqv a d=true)∧∀ m a,m<j→xs[m]? = some a→PyData.eqv a d=false
noncomputable def rRemoveD:V→List V→Hp→VK→Prop:=fun x vs H Q=>∃ (l:Addr) (zs:List V) (y:V) (ex:List Addr) (d:PyData) (xs:List PyData) (j:Nat),x = .ref l∧vs=[y]∧H l=some (.lst zs)∧Rep ex H d y∧Rep ex H (.list xs) (.ref l)∧InOk d xs∧firstAt xs d j∧Q .non (upd H l (.lst (zs.eraseIdx j)))
section
variable {X:Cx}
theorem mt_removeD (hu:X.A.units+64<cLine):MtM X "list.remove" rRemoveD:=by
 intro pins s σ H x vs v us Q I rx rv h
 obtain ⟨l,zs,y,ex,d,xs,j,rfl,rfl,hH,r1,r2,⟨h1,h2,h3⟩,⟨⟨a,ha,hea⟩,hno⟩,q⟩:=h
 obtain ⟨u,rfl,ru⟩:=rv.one
 obtain ⟨as,g1⟩:=Rep.reads I.hok h2 r1 ru
 obtain ⟨bs,g2⟩:=Rep.reads I.hok (by rw [PyData.canLay0];exact h1) r2 rx
 cases rx
 obtain ⟨z,its,n,r,hl,e⟩:=I.lstM hH
 cases g2 with
 | list k1 k2 k3 k4=>
  rw [e] at k1
  cases k1
  cases k3
  have em:=readsAll_map xs _ _ h1 k4
  have ln:its.length=xs.length:=by rw [← em];simp
  have at_:∀ m (hm:m<its.length),xs[m]? = some (readOf s.heap its[m]):=fun m hm=>by
   rw [← em]
   simp [hm]
  have hj:j<its.length:=by rw [ln];exact (List.getElem?_eq_some_iff.mp ha).1
  refine call_meets F.slot_list_remove ⟨_,e,rfl⟩ F.entry_list_remove (F.args_list_remove_2 _ _) (rem_at (e:=fun v=>PyData.eqv (readOf s.heap v) d) (j:=j) (by simpa using hj) ?_ (by rw [List.size_toArray];omega) ?_) ⟨e,items_eqAt k4 g1 h1 h2 ?_,⟨.non,_,I.lset (its':=its.eraseIdx j) hH e ?_ (r.eraseIdx j) ?_,rfl,q⟩⟩
  · have:=at_ j hj
    rw [ha] at this
    show PyData.eqv (readOf s.heap its[j]) d=true
    rw [← Option.some.inj this];exact hea
  · intro m hm hmj
    have hm':m<its.length:=by simpa using hm
    exact hno m _ hmj (at_ m hm')
  · omega
  · show its.toArray.eraseIdxIfInBounds j=(its.eraseIdx j).toArray
    rw [List.eraseIdxIfInBounds_toArray]
  · have:=len_erase zs j
    omega
end
noncomputable abbrev gRem (i:Nat) (g:GE):GS:=fun G env n=>match env[i]? with
 | some (.own xs)=>g env n fun d n1=>∃ j,InOk d xs∧firstAt xs d j∧G.nx (env.set i (.own (xs.eraseIdx j))) n1
 | _=>False
noncomputable instance sv_rem {K:PySem.W.Frag}{i:Nat}{te:TE}{ge:GE} [E:EV false te ge]:SV (tDrop (tBM K "list" rRemoveD (tVar i) (tCons te tNil))) (gRem i ge):=⟨fun {C G D} O {ex env σ H n} A h=>by
 unfold gRem at h
 split at h
 · rename_i xs e
   obtain ⟨a,vs,ev,h1,h2,h3⟩:=A.at_own e
   refine ⟨_,join_some ev,.inl ⟨rfl,_,SqL.of h1⟩,E.ev A.ev h fun d n1 v H1 hd s1 r=>?_⟩
   obtain ⟨g1,g2⟩:=own_step A e ev h1 h3 s1
   obtain ⟨j,ok,fj,nx⟩:=hd
   have l:=g2.length
   exact ⟨a,vs,v,[],d,xs,j,rfl,rfl,g1,Rep.nil r,.list g1 (by simp) h2 (Reps.nil' g2),ok,fj,O.nx ((A.step s1).re e ev (reps_erase j g2) (Nat.le_trans (List.length_eraseIdx_le _ _) h2)) nx⟩
 · exact h.elim⟩
noncomputable abbrev gListO (i:Nat):GN:=fun env n Q=>match env[i]? with
 | some (.own xs)=>Q xs n
 | some (.d x)=>fListOf [x] fun d=>Q d n
 | _=>False
noncomputable instance (priority:=high) nv_listO {K:PySem.W.Frag}{i:Nat}:NV (tCB (fun xs H Q=>∃ p ys,xs=[.ref p]∧(SqL K H p ys∨SqT K H p ys)∧∀ l,H l=none→Q (.ref l) (upd H l (.lst ys))) (tCons (tVar i) tNil)) (gListO i):=⟨fun {S ex env σ H n Q P} E h k=>by
 unfold gListO at h
 split at h
 · rename_i xs e
   obtain ⟨a,vs,ev,h1,h2,h3,h4,h5⟩:=E.sl i _ e
   refine ⟨_,join_some ev,_,_,rfl,.inl (SqL.of h1),fun p hp=>?_⟩
   obtain ⟨c1,c2,c3⟩:=nv_close E (.refl E.inv) hp h3
   exact k _ _ _ _ _ h c1 c2 upd_same h2 c3
 · rename_i x e
   refine (nv_cn (r:=fun xs H Q=>∃ p ys,xs=[.ref p]∧(SqL K H p ys∨SqT K H p ys)∧∀ l,H l=none→Q (.ref l) (upd H l (.lst ys))) (t:=tCons (tVar i) tNil)).nv E ?_ k
   show gVar i env n _
   unfold gVar
   rw [e]
   exact h
 · exact h.elim⟩
open PySem PySem.Spec PyProof.Rows L2
section
variable {R U:Int}{ws:List Way}{ks:List Int}
end
theorem inok_l {l:List (List Int)}{r:List Int}:InOk (ringL r) (l.map ringL):=
 ⟨lay_rings _,by unfold ringL;rw [PyData.canLay0];exact lay_is r,Nat.le_trans (Nat.min_le_right _ _) (dep_ring r)⟩
theorem eqv_ring {r s:List Int}:PyData.eqv (ringL r) (ringL s)=decide (r=s):=eqvL_ints
theorem neNilR {l:List (List Int)}{Q:PyData→Prop}(h1:l=[]→Q (.bool false)) (h2:l≠[]→Q (.bool true)):fEqD true (.list (l.map ringL)) (.list []) Q:=by
 refine ⟨⟨by rw [PyData.canLay0];exact lay_rings l,rfl,Nat.le_trans (Nat.min_le_right _ _) (by decide)⟩,?_⟩
 cases l with
 | nil=>exact h1 rfl
 | cons _ _=>exact h2 (by simp)
theorem erase_map {α β:Type}(f:α→β):∀ (l:List α) (j:Nat),(l.eraseIdx j).map f=(l.map f).eraseIdx j
 | [],_=>rfl
 | _::_,0=>rfl
 | a::l,j+1=>by
  show f a::(l.eraseIdx j).map f=f a::(l.map f).eraseIdx j
  rw [erase_map f l j]
end My
namespace L2
open PySem PySem.Spec PyProof.Rows
section
variable {P:Program}{w:World}{K:PySem.W.Frag}{mg:Str→Option Value}{base:Heap}{C:Addr}{x m qual:Str}{st:Stmt}{ps:List Str}{k:Nat}{sp:Sp}
end
section
variable {X:Cx}{x m:Str}{C:Addr}{o e:Expr}{es:List Expr}{p pos apos:Pos}{ta:TE}{t:TA}{k:Nat}{ps:List Str}{sp:Sp}
end
end L2
namespace My
open PySem PySem.Spec PyProof.Rows L2
section
variable {b:Bool}{te ta:TE}{g:GE}
theorem objK_fz {C:Addr}{ns:List Str}{ds es:List PyData}{ep:Nat}{ks:List Key}(h:objK C ns ds=fzK ep ks es):False:=by
 unfold objK fzK at h
 injection h with h _
 injection h with h _
 cases h
end
noncomputable abbrev St':=Int×List Int
noncomputable abbrev Kn:=List (Int×St')
end My
namespace L2
open PySem PySem.Spec PyProof.Rows My
section
variable {X:Cx}{x:Str}{e:Expr}{es:List Expr}{p pos:Pos}{t:TA}{k:Nat}{ps:List Str}{sp:Sp}{i:Int}{E:XK}
end
end L2
namespace My
open PySem PySem.Spec PyProof.Rows L2
section
variable {i:Nat}{sp:GSx}{t:TA}{gt:GA}{tv:TE}{gv:GE}{d:Int}{b:Bool}{E':XK}
end
theorem zipD_ints:∀ xs gs:List Int,zipD (xs.map PyData.int) (gs.map PyData.int)=(xs.zip gs).map fun p=>.tuple [.int p.1,.int p.2]
 | [],_=>by simp [zipD]
 | _::_,[]=>by simp [zipD]
 | x::xs,g::gs=>by
  rw [List.map_cons,List.map_cons,List.zip_cons_cons,List.map_cons,← zipD_ints xs gs]
  simp [zipD]
theorem cmpW_fm {β:Type}{turn:PyData→Nat→(Option PyData→Nat→Prop)→Prop}{n:Nat}{g h:β→PyData}{p:β→Bool}:∀ {ks:List β}{Q:List PyData→Nat→Prop},(∀ k∈ks,∀ K:Option PyData→Nat→Prop,(p k=true→K (some (h k)) n)→(p k=false→K none n)→turn (g k) n K)→Q ((ks.filter p).map h) n→cmpW turn (ks.map g) n Q
 | [],_,_,q=>q
 | k::ks,Q,ht,q=>by
  refine ht k List.mem_cons_self _ (fun c=>?_) (fun c=>?_)
  · rw [List.filter_cons_of_pos c] at q
    exact cmpW_fm (fun k hk=>ht k (List.mem_cons_of_mem _ hk)) q
  · rw [List.filter_cons_of_neg (by rw [c];exact Bool.false_ne_true)] at q
    exact cmpW_fm (fun k hk=>ht k (List.mem_cons_of_mem _ hk)) q
section
variable {K:PySem.W.Frag}{C:Addr}{s0:St'}{p:Kn}{Q:PyData→Prop}
end
theorem cut_front {xs:List PyData}{s:Nat}(h0:0<s) (h1:s≤xs.length):cutD xs none (some (-(s:Int)))=xs.take (xs.length-s):=by
 unfold cutD
 have e1:HT.sIx xs.length 0 none=0:=by unfold HT.sIx;rfl
 have e2:HT.sIx xs.length xs.length (some (-(s:Int)))=xs.length-s:=by
  unfold HT.sIx
  simp only
  split<;>omega
 rw [e1,e2,List.drop_zero,Nat.sub_zero]
section
variable {x t:Int}{xr gr:List Int}{N:Nat}
end
end My
namespace L2
open PySem PySem.Spec PyProof.Rows
variable {X:Cx}
end L2
namespace My
open PySem PySem.Spec PyProof.Rows L2
noncomputable abbrev gPar (i j:Nat) (ga:GN):GS:=fun G env n=>ga env n fun ds n1=>∃ x y,ds=[x,y]∧G.nx ((env.set i (.d x)).set j (.d y)) n1
noncomputable instance sv_par {i j:Nat}{t:TA}{gt:GN} [T:DV true t gt]:SV (tPar i j t) (gPar i j gt):=⟨fun {C G D} O {ex env σ H n} A h=>
 T.dv A.ev h fun ds n1 vs H1 h1 s1 r1=>by
  obtain ⟨x,y,rfl,q⟩:=h1
  cases r1 with
  | cons r1 r2=>
   cases r2 with
   | cons r2 r3=>
    cases r3
    exact ⟨_,_,rfl,O.nx (((A.step s1).put r1).put r2) q⟩⟩
noncomputable def fAbs:G1:=fun ds Q=>match ds with
 | [.int i]=>Q (.int (if i<0 then -i else i))
 | _=>False
noncomputable instance cs_abs:CS (fun xs H Q=>∃ i,xs=[.int i]∧Q (.int (if i<0 then -i else i)) H) fAbs:=⟨fun {H xs ds Q P} r h k=>by
 unfold fAbs at h
 split at h
 · cases r with
   | cons r1 t=>
    cases t
    cases r1
    exact ⟨_,rfl,k _ _ h fun _=>.int _⟩
 · exact h.elim⟩
noncomputable def gcdL (ns:List Int):Nat:=ns.foldl (fun g x=>Nat.gcd g x.natAbs) 0
noncomputable def gsCommon:GSp:=fun as n Q=>∃ ns:List Int,as=[.d (.list (ns.map .int))]∧Q (.int ((gcdL ns:Nat):Int)) n
noncomputable instance:Scal gsCommon:=⟨fun {as n P} h=>by obtain ⟨w,e,q⟩:=h;exact ⟨w,e,rfl,q⟩⟩
theorem gcd_snoc (ns:List Int) (x:Int):gcdL (ns++[x])=Nat.gcd (gcdL ns) x.natAbs:=by unfold gcdL;rw [List.foldl_append];rfl
theorem gcd_take {ns:List Int}{i:Nat}{x:Int}(h:ns[i]? = some x):gcdL (ns.take (i+1))=Nat.gcd (gcdL (ns.take i)) x.natAbs:=by
 rw [List.take_add_one,h]
 exact gcd_snoc _ _
noncomputable abbrev natD (k:Nat):PyData:=.int (k:Int)
noncomputable abbrev smPD (wt ht:List Int):PyData:=.tuple [.tuple (wt.map .int),.tuple (ht.map .int)]
theorem gcd_dvd {ns:List Int}:∀ x∈ns,((gcdL ns:Nat):Int) ∣ x:=by
 have key:∀ (l:List Int) (g:Nat),(l.foldl (fun g x=>Nat.gcd g x.natAbs) g ∣ g)∧∀ x∈l,l.foldl (fun g x=>Nat.gcd g x.natAbs) g ∣ x.natAbs:=by
  intro l
  induction l with
  | nil=>exact fun g=>⟨Nat.dvd_refl _,fun x hx=>by cases hx⟩
  | cons y l ih=>
   intro g
   obtain ⟨h1,h2⟩:=ih (Nat.gcd g y.natAbs)
   refine ⟨Nat.dvd_trans h1 (Nat.gcd_dvd_left _ _),fun x hx=>?_⟩
   rcases List.mem_cons.mp hx with rfl | hx
   · exact Nat.dvd_trans h1 (Nat.gcd_dvd_right _ _)
   · exact h2 x hx
 intro x hx
 exact Int.ofNat_dvd_left.mpr ((key ns 0).2 x hx)
theorem gcd_ne {ns:List Int}{x:Int}(hx:x∈ns) (h:x≠0):gcdL ns≠0:=fun z=>by
 have:=gcd_dvd x hx
 rw [z] at this
 exact h (Int.zero_dvd.mp this)
theorem gcd_mul {ns:List Int}{x:Int}(hx:x∈ns):x/((gcdL ns:Nat):Int)*((gcdL ns:Nat):Int)=x:=Int.ediv_mul_cancel (gcd_dvd x hx)
end My
namespace L2
open PySem PySem.Spec PyProof.Rows PySem.SeqAt
open AutoSeq1 (wpAny_loadPart')
section
variable {prog:Program}{w:World}{A:Around}{E:Value→Shared→Prop}{s:Shared}{R:Result→Shared→Prop}
end
section
variable {X:Cx}
end
open PySem PySem.Spec PyProof.Rows My
noncomputable def Itd (hi:Int) (n:Nat):It:=⟨fun i _=>i<n,fun i H x H'=>H'=H∧x = .int (hi-i),fun i _=>n≤i⟩
theorem turn_down {P:Program}{w:World}{K:PySem.W.Frag}{tg:Expr}(it:Addr) (hi:Int) (n:Nat):Turn P w K tg (Itd hi n) [it] it (fun i h=>IsRangeIter h it (hi+(i:Nat)*(-1)) ((n:Int)-(i:Nat)) (-1)) where
 mem:=by simp
 obj:=fun i h st b hb=>by
  have e:b=it:=by simpa using hb
  subst e
  exact ⟨_,st,fun v z=>by
   have z':Data.fields _=Data.cell v:=z
   cases z'⟩
 keep:=fun i h h' st k=>k it (by simp) _ st
 item:=by
  intro X hP hw hK hc i pins s σ H E I hf st hg
  subst hP hw hK
  obtain ⟨f0,f1,f2,f3,f4,f5⟩:=hf it (by simp)
  have W:=Walks.range (prog:=X.prog) (w:=X.w) (I.ok.hd hc) it hi (-1) n
  refine W.item i s _ _ hg st fun v h' tk hv st' kk=>?_
  obtain ⟨t,rfl⟩:=hv
  have I1:Inv X pins σ H { s with heap:=h',toks:=tk }:=I.turned (fun b o hb e=>kk b o (by simpa using hb) e) f0 f1 f3 f4 f5
  refine ⟨_,rfl,go_of (s:={ s with heap:=h',toks:=tk }) (n:="range_iterator") st' rfl rfl (by decide) ⟨.int (hi-i),H,I1,⟨t,?_⟩,⟨rfl,rfl⟩,st',fun b hb=>(hf b hb).1⟩⟩
  rw [show hi+(i:Int) * -1=hi-i by omega]
 done:=by
  intro X hP hw hK hc i pins s σ H E I hf st hg
  subst hP hw hK
  obtain ⟨f0,f1,f2,f3,f4,f5⟩:=hf it (by simp)
  exact wpAny_pyNext_range_end (I.ok.hd hc) st (by have:n≤i:=hg;omega) fun h' eb=>⟨rfl,I.turned (t':=s.toks) (fun b o hb e=>eb b o hb e) f0 f1 f3 f4 f5⟩
 self:=fun _ _ _ _ _ st h=>wpAny_pyIter_rangeiter st h
theorem size_down (a b:Int):Builtin.Range.rangeSize a b (-1)=if a>b then a-b else 0:=PySem.W.rangeSize_down a b
section
variable {X:Cx}{tg:Expr}
noncomputable def iRngD (ta:TA):TI:=fun σ H R=>ta σ H fun vs H1=>∃ i j:Int,vs=[.int i,.int j,.int (-1)]∧(-(2^40)≤i∧i<2^40∧-(2^40)≤j∧j<2^40)∧R (Itd i (i-j).toNat) H1
theorem small_down {a b:Int}(ha:-(2^40)≤a) (ha':a<2^40) (hb:-(2^40)≤b) (hb':b<2^40):Builtin.Range.small a b (-1)=true:=by
 unfold Builtin.Range.small
 rw [size_down]
 simp only [Builtin.Range.rangeFitsLong,Bool.and_eq_true,Bool.or_eq_true,decide_eq_true_eq,beq_iff_eq,show ¬ ((-1:Int)>0) by decide,if_false]
 split<;>omega
theorem down_it {pins:List (Addr×Obj)}{σ:St}{H:Hp}{s:Shared}{R:It→Hp→Prop}{E:Value→Shared→Prop}{lo hi:Int}{t u v:Tok}{tk:Nat}(I:Inv X pins σ H s) (h1:-(2^40)≤lo) (h2:lo<2^40) (h3:-(2^40)≤hi) (h4:hi<2^40)
 (q:R (Itd lo (lo-hi).toNat) H):wpAny (model X.prog X.w) X.A (pyIter (.ref s.heap.objs.size)) (PIE X pins σ tg R) E { s with heap:=s.heap.push { cls:=.type "range",data:=.fields #[.int lo t,.int hi u,.int (-1) v] },toks:=tk }:=by
 refine wpAny_pyIter_range (IsRange.new ..) (small_down h1 h2 h3 h4) ?_
 have I1:Inv X pins σ H { s with heap:=s.heap.push { cls:=.type "range",data:=.fields #[.int lo t,.int hi u,.int (-1) v] },toks:=tk }:=I.kept fun b o e=>Heap.get?_push_of_some _ e
 refine ⟨(s.heap.push { cls:=.type "range",data:=.fields #[.int lo t,.int hi u,.int (-1) v] }).objs.size,[(s.heap.push { cls:=.type "range",data:=.fields #[.int lo t,.int hi u,.int (-1) v] }).objs.size],_,_,H,rfl,
  I1.kept (t':=tk) fun b o e=>Heap.get?_push_of_some _ e,turn_down _ lo (lo-hi).toNat,?_,fun b hb=>?_,q⟩
 · have e1:lo+((0:Nat):Int)*(-1)=lo:=by simp
   have e2:(((lo-hi).toNat:Nat):Int)-((0:Nat):Int)=Builtin.Range.rangeSize lo hi (-1):=by rw [size_down];split<;>omega
   show IsRangeIter _ _ (lo+((0:Nat):Int)*(-1)) ((((lo-hi).toNat:Nat):Int)-((0:Nat):Int)) (-1)
   rw [e1,e2]
   exact Heap.get?_push_size _ rfl
 · have e:b=(s.heap.push { cls:=.type "range",data:=.fields #[.int lo t,.int hi u,.int (-1) v] }).objs.size:=by simpa using hb
   subst e
   exact I1.fpOk (Nat.le_refl _) (I1.hok.fresh (Nat.le_refl _))
theorem pi_rangeD {a b c:Expr}{ta:TA}{p pos:Pos}(hg:Gl X "range") (hm:X.mg "range" = none) (ha:PA X [a,b,c] ta) (hs:starEach [a,b,c] X.env=[(false,eval a X.env),(false,eval b X.env),(false,eval c X.env)]:=by rfl) (hs2:starEach [b,c] X.env=[(false,eval b X.env),(false,eval c X.env)]:=by rfl) :
 PI X tg (.Call (.Name "range" p) [a,b,c] [] pos) (iRngD ta):=by
 intro pins s σ H R I h
 refine Call_ (ld_blt I hg hm boot_range (PyProof.Rows.callWith_type1 (thn (ha pos pins s σ H _ I h) fun us s1 ⟨vs,H1,I1,r1,q1⟩=>?_) (by rw [hs,hs2]) (by rw [hs2];rfl)))
 obtain ⟨i,j,e,⟨q1,q2,q3,q4⟩,q⟩:=q1
 subst e
 cases r1 with
 | cons r rr=>
  cases rr with
  | cons r' rr=>
   cases rr with
   | cons r'' rr=>
    cases rr
    obtain ⟨t,rfl⟩:=r
    obtain ⟨t',rfl⟩:=r'
    obtain ⟨t'',rfl⟩:=r''
    exact call_range_3 (by decide) (down_it I1 q1 q2 q3 q4 q) (.inl (PyProof.noPylong_of_log2 (by decide +kernel)))
end
theorem Inv.freeze {X:Cx}{pins:List (Addr×Obj)}{σ:St}{H:Hp}{s:Shared}{d:Addr}{kws:List (Key×V)}(I:Inv X pins σ H s) (e:H d=some (.dK kws)):∃ ob,Inv X pins σ (upd H d (.frz ob (.dK kws))) s:=by
 have ok:=I.hok d _ e
 obtain ⟨z,hm,vs,rel,o,es,ep,ho,r⟩:=(show ObjOk X.prog X.w H s.heap d (.dK kws) from ok)
 refine ⟨o,?_⟩
 refine I.step (h':=s.heap) (g':=s.gens) (t':=s.toks) (d':=s.drawn) (ch:=[]) (fun b hb=>by cases hb) (fun b o _ _ _ e _=>e) (fun b o _ _ _ e _=>⟨o.slots,e⟩) (fun b o _ _ n=>?_) (fun b o _ e=>⟨o,e⟩) (fun b xs q=>?_) (fun b o u q=>?_) (fun b ps q=>⟨#[],?_⟩) (fun m hm=>hm) (fun b u q=>?_) I.bare
 · rw [upd_ne (fun z=>by rw [z,e] at n;cases n)];exact n
 · rw [upd_ne (fun z=>by rw [z,e] at q;cases q)];exact q
 · rw [upd_ne (fun z=>by rw [z,e] at q;cases q)];exact q
 · rw [upd_ne (fun z=>by rw [z,e] at q;cases q)];simpa using q
 · by_cases hb:b=d
   · subst hb
     rw [upd_same] at q;cases q
     exact ⟨ho,z,hm,vs,rel,o,es,ep,ho,r⟩
   · rw [upd_ne hb] at q
     refine (I.hok b u q).stay (fun c v _ q=>q) (fun c q=>?_) fun c xs q=>?_
     · rw [upd_ne (fun z=>by rw [z,e] at q;cases q)];exact q
     · rw [upd_ne (fun z=>by rw [z,e] at q;cases q)];exact q
noncomputable def tFz (i:Nat) (ts:TS):TS:=fun D σ H=>∃ a kws,σ[i]? = some (some (.ref a))∧H a=some (.dK kws)∧∀ ob,ts D σ (upd H a (.frz ob (.dK kws)))
theorem ps_fz {X:Cx}{st:Stmt}{ts:TS}{i:Nat}(h:PS X st ts):PS X st (tFz i ts):=by
 intro pins s σ H D I ⟨a,kws,e,eh,q⟩
 obtain ⟨ob,I'⟩:=I.freeze eh
 exact h pins s σ _ D I' (q ob)
noncomputable def Itf (d:Addr) (n ep:Nat):It:=⟨fun i H=>∃ ob kws,H d=some (.frz ob (.dK kws))∧epO ob=ep∧kws.length=n∧i<n,fun i H v H'=>∃ p k y,H p=none∧H'=upd H p (.tup [kV k,y])∧v = .ref p∧∀ ob kws,H d=some (.frz ob (.dK kws))→kws[i]? = some (k,y),fun i H=>∃ ob kws,H d=some (.frz ob (.dK kws))∧epO ob=ep∧kws.length=n∧i=n⟩
theorem kv_get {κ:Type}{kvs:List (κ×V)}{vs:List (κ×Value)}(r:KV kvs vs) {i:Nat}{k:κ}{y:V}(h:kvs[i]? = some (k,y)):∃ u,vs[i]? = some (k,u)∧RelV y u:=by
 unfold KV at r
 induction r generalizing i with
 | nil=>simp at h
 | cons p q ih=>
  cases i with
  | zero=>
   simp at h
   rename_i a b _ _
   obtain ⟨p1,p2⟩:=p
   subst h
   refine ⟨b.2,?_,p2⟩
   simp
   exact Prod.ext p1.symm rfl
  | succ i=>simpa using ih (by simpa using h)
theorem frz_dict {X:Cx}{pins:List (Addr×Obj)}{σ:St}{H:Hp}{s:Shared}{d:Addr}{ob:Obj}{kws:List (Key×V)}(I:Inv X pins σ H s) (e:H d=some (.frz ob (.dK kws))):(d==sysModules)=false∧∃ vs,KV kws vs∧s.heap.DictAt (mixKind X.prog X.w) d vs (epO ob)∧kws.length≤sizeLine:=by
 obtain ⟨ho,z,hm,vs,rel,o,es,ep,ho',h1,h2,r⟩:=(show ObjOk X.prog X.w H s.heap d (.frz ob (.dK kws)) from I.hok d _ e)
 rw [ho] at ho'
 cases ho'
 refine ⟨hm,vs,rel,⟨ob,es,ho,h1,?_,r⟩,z⟩
 rw [h2]
 unfold epO
 rw [h2]
theorem turn_items {P:Program}{w:World}{K:PySem.W.Frag}{es:List Expr}{kk:Nat}{tp:Pos}(d it:Addr) (n ep:Nat):Turn P w K (.Tuple es kk tp) (Itf d n ep) [it] it (fun i h=>∃ ok ov,IsItemIter h it d i n ep ok ov) where
 mem:=by simp
 obj:=fun i h st c hc=>by
  obtain ⟨ok,ov,he⟩:=st
  rw [List.mem_singleton.mp hc]
  exact ⟨_,he,fun v z=>by have z':Data.fields _=Data.cell v:=z;cases z'⟩
 keep:=fun i h h' st k=>by
  obtain ⟨ok,ov,he⟩:=st
  exact ⟨ok,ov,k it (by simp) _ he⟩
 item:=by
  intro X hP hw hK hc i pins s σ H E I hf st hg
  subst hP hw hK
  obtain ⟨ob,kws,ed,eo,rfl,hi⟩:=hg
  subst eo
  obtain ⟨ok,ov,he⟩:=st
  obtain ⟨_,vs,rel,hD,_⟩:=frz_dict I ed
  have hx:kws[i]? = some (kws[i].1,kws[i].2):=List.getElem?_eq_getElem hi
  generalize kws[i].1=k,kws[i].2=y at hx
  obtain ⟨u,hu,ru⟩:=kv_get rel hx
  rw [rel.length] at he
  refine wpAny_pyNext_items_item he hD hu fun key h1 hkey ho hT hsz hk=>?_
  refine ⟨_,rfl,wpAny_letOwnedTupleGo_items ho fun h2 he2 hs2=>?_⟩
  replace hs2:Heap.SameBut it h1 h2:=hs2
  have hes:it<s.heap.objs.size:=Heap.lt_size he
  have kk:∀ c o,c∉[it]→s.heap.get? c=some o→h2.get? c=some o:=fun c o hc q=>by
   have h1':c≠it:=fun z=>hc (by simp [z])
   exact hs2.extBut _ _ h1' (hk c o h1' q)
  have rk:RelV (kV k) key:=by
   rcases keyIs_shape hkey with ⟨j,t,rfl,rfl⟩ | ⟨x,t,rfl,rfl⟩
   · exact ⟨t,rfl⟩
   · exact ⟨t,rfl⟩
  refine ⟨.ref s.heap.objs.size,upd H s.heap.objs.size (.tup [kV k,y]),I.turnLay (t':=s.toks) kk hf (Nat.le_refl _) ?_,rfl,⟨_,k,y,I.hok.fresh (Nat.le_refl _),rfl,rfl,fun ob' kws' e'=>?_⟩,⟨key,u,by rw [rel.length];exact he2⟩,fun c hc=>?_⟩
  · exact ⟨by simp [sizeLine_eq],[key,u],.cons rk (.cons ru .nil),_,hs2.extBut _ _ (Nat.ne_of_gt hes) hT,rfl,0,rfl⟩
  · rw [ed] at e';cases e';exact hx
  · rw [List.mem_singleton.mp hc,upd_ne (Nat.ne_of_lt hes)]
    exact (hf it (by simp)).1
 done:=by
  intro X hP hw hK hc i pins s σ H E I hf st hg
  subst hP hw hK
  obtain ⟨ob,kws,ed,eo,hn,rfl⟩:=hg
  subst eo
  obtain ⟨ok,ov,he⟩:=st
  obtain ⟨_,vs,rel,hD,_⟩:=frz_dict I ed
  obtain ⟨f0,f1,f2,f3,f4,f5⟩:=hf it (by simp)
  subst hn
  rw [rel.length] at he
  exact wpAny_pyNext_items_end (I.ok.hd hc) he hD (by simp) fun h' eb=>⟨rfl,I.turned (t':=s.toks) (fun b o hb e=>eb b o hb e) f0 f1 f3 f4 f5⟩
 self:=fun _ _ _ _ _ st h=>by
  obtain ⟨ok,ov,he⟩:=st
  exact PySem.W.kcp_self he h
section
variable {X:Cx}{es:List Expr}{kk:Nat}{tp:Pos}
noncomputable def iItems (td:TE):TI:=fun σ H R=>td σ H fun v H1=>∃ d ob kws,v = .ref d∧H1 d=some (.frz ob (.dK kws))∧R (Itf d kws.length (epO ob)) H1
theorem pi_items {o:Expr}{td:TE}{apos cpos:Pos}(ho:PE X o td)
 (hbase:attributeBase o "items" X.env (eval o X.env)=eval o X.env:=by rfl) (hline:(apos.endLine==cpos.line)=true:=by rfl) :
 PI X (.Tuple es kk tp) (.Call (.Attribute o "items" apos) [] [] cpos) (iItems td):=by
 intro pins s σ H R I h
 refine wpAny_Call_method0_late hbase hline (thn (ho pins s σ H _ I h) fun v s1 ⟨x,H1,I1,r1,a,ob,kws,ex,ea,q1⟩=>?_)
 subst ex
 obtain rfl:v=Value.ref a:=r1
 obtain ⟨t1,t2,hd⟩:=isD_at I1 (.inl ⟨kws,.inr ⟨ob,ea⟩⟩)
 obtain ⟨hd',vs,rel,hD,z⟩:=frz_dict I1 ea
 have hO:s1.heap.DictOf (mixKind X.prog X.w) a vs:=let ⟨o,es,h1,h2,h3,r⟩:=hD;⟨o,es,_,h1,h2,h3,r⟩
 refine ⟨"dict","dict.items",PySem.F.plainAttrs_dict,PySem.F.slot_dict_items,PySem.F.type_dict_items,t1,t2,Calls.callWith_builtin rfl (PySem.evalArgs_none ?_)⟩
 refine call_meetsIn PySem.F.slot_dict_items hO.typeIs PySem.F.entry_dict_items (PySem.F.args_dict_items_1 _) (meets_dict_items (mixKind X.prog X.w) a hd) ⟨⟨vs,hO⟩,?_⟩
 have I2:Inv X pins σ H1 { s1 with heap:=s1.heap.push { cls:=.type "dict_items",data:=.fields #[.ref a] } }:=I1.kept (t':=s1.toks) fun b o e=>Heap.get?_push_of_some _ e
 refine wpAny_pyIter_items (knd:=mixKind X.prog X.w) (ep:=epO ob) ⟨_,Heap.get?_push_size _ rfl,rfl,rfl⟩ (hD.push _) ?_
 refine ⟨_,[_],_,_,H1,rfl,I2.kept (t':=s1.toks) fun b o e=>Heap.get?_push_of_some _ e,turn_items a _ kws.length (epO ob),⟨.none,.none,by rw [rel.length];exact Heap.get?_push_size _ rfl⟩,fun b hb=>?_,q1⟩
 rw [List.mem_singleton.mp hb]
 exact I2.fpOk (Nat.le_refl _) (I2.hok.fresh (Nat.le_refl _))
end
structure PyRoom (X:Cx):Prop where
 seer:X.base.NoSeer
 tree:X.prog.given.tree=none
 dep:X.A.depth+Builtin.pylongFrames<recursionLimit
 fr:∃ env l,X.stack=env::l∧env.scope.isGenerator=false∧env.scope.isCoroutine=false∧env.builtins=builtinsNs∧env.globals=mainGlobals
theorem PyRoom.comp {X:Cx}(h:PyRoom X) {N':List Str}{scope:Scope}{C:Addr}{s:Shared}{H:Hp}{fp:List Addr}:PyRoom (cxComp X N' scope C s H fp):=⟨h.seer,h.tree,h.dep,h.fr⟩
theorem py_of {CX:CXT}{P:Program}{w:World}{K:PySem.W.Frag}{mg:Str→Option Value}{base:Heap}{N:List Str}{qual:Str}{scope:Scope}{f:Addr}{cd:Value}{A:Around}{outer:List Env}{s:Shared}{H:Hp}{E:XK}{k:Nat}(S:base.NoSeer) (tP:P.given.tree=none)
 (hr:Room k (A.deeper (envOfC qual scope s.heap.objs.size f cd))) (hk:33≤k) (h1:scope.isGenerator=false) (h2:scope.isCoroutine=false):PyRoom (cxOf CX P w K mg base N qual scope f cd A outer s H E):=by
 refine ⟨S,tP,?_,_,_,rfl,h1,h2,rfl,rfl⟩
 have:=hr.dp
 show (A.deeper (envOfC qual scope s.heap.objs.size f cd)).depth+100<recursionLimit
 omega
theorem op_fdivL {X:Cx}(h:PyRoom X):OpR X (binaryOp .FloorDiv) (rI (fun _ j=>j≠0) fun i j=>.int (i.fdiv j)):=by
 intro pins s σ H x y v u Q I rx ry hq
 obtain ⟨i,j,rfl,rfl,hc,q⟩:=hq
 obtain ⟨t,rfl⟩:=rx
 obtain ⟨t',rfl⟩:=ry
 obtain ⟨env,l,e1,e2,e3,e4,e5⟩:=h.fr
 have hs:SeerAt (model X.prog X.w) X.A s.heap:=SeerAt.of (h.seer.keeps I.bk) h.tree (I.ok.frames.trans (congrArg some e1)) e2 e3 e4 e5
 exact floordiv_int hc ⟨.int (i.fdiv j),H,I.kept (t':=s.toks+1) (fun b o e=>e),⟨_,rfl⟩,q⟩ (.inr (PylongRoom.of I.nolimit h.dep hs))
end L2
namespace My
open PySem PySem.Spec PyProof.Rows L2
noncomputable def fzD (ep:Nat) (kvs:List (Key×PyData)):PyData:=.dict (fzK ep (kvs.map (·.1)) (kvs.map (·.2)))
theorem keyD_inj {a b:Key}(h:keyD a=keyD b):a=b:=by
 cases a<;>cases b<;>simp [keyD] at h<;>rw [h]
theorem fzK_inj {ep ep':Nat}:∀ {ks ks':List Key}{ds ds':List PyData},ks.length=ds.length→ks'.length=ds'.length→fzK ep ks ds=fzK ep' ks' ds'→ep=ep'∧ks=ks'∧ds=ds':=by
 intro ks ks' ds ds' h1 h2 h
 unfold fzK at h
 injection h with h0 h
 injection h0 with _ h0
 injection h0 with h0
 refine ⟨by omega,?_⟩
 clear h0
 induction ks generalizing ks' ds ds' with
 | nil=>
  cases ds with
  | cons _ _=>cases h1
  | nil=>
   cases ks' with
   | nil=>cases ds' with
    | nil=>exact ⟨rfl,rfl⟩
    | cons _ _=>cases h2
   | cons _ _=>cases ds' with
    | nil=>cases h2
    | cons _ _=>cases h
 | cons k ks ih=>
  cases ds with
  | nil=>cases h1
  | cons d ds=>
   cases ks' with
   | nil=>cases ds' with
    | nil=>cases h
    | cons _ _=>cases h2
   | cons k' ks'=>cases ds' with
    | nil=>cases h2
    | cons d' ds'=>
     injection h with e h
     injection e with e1 e2
     obtain ⟨rfl,rfl⟩:=ih (by simpa using h1) (by simpa using h2) h
     exact ⟨by rw [keyD_inj e1],by rw [e2]⟩
theorem rep_fz {ex:List Addr}{H:Hp}{ep:Nat}{kvs:List (Key×PyData)}{v:V}(r:Rep ex H (fzD ep kvs) v):∃ a ob kws,v = .ref a∧H a=some (.frz ob (.dK kws))∧epO ob=ep∧a∉ex∧KvR ex H kvs kws:=by
 unfold fzD at r
 cases r with
 | obj e n k r=>exact (objK_fz k.symm).elim
 | dctf e n k r=>
  have hr:=r.length
  rw [List.length_map] at hr
  obtain ⟨h1,h2,rfl⟩:=fzK_inj (by simp) (by rw [List.length_map];exact hr.symm) k
  exact ⟨_,_,_,rfl,e,h1.symm,n,h2.symm,r⟩
noncomputable def itemD (p:Key×PyData):PyData:=.tuple [keyD p.1,p.2]
theorem rep_key {ex:List Addr}{H:Hp}(k:Key):Rep ex H (keyD k) (kV k):=by
 cases k with
 | inl i=>exact .int i
 | inr s=>exact .str s
theorem kv_at {ex:List Addr}{H:Hp}:∀ {kvs:List (Key×PyData)}{kws:List (Key×V)},KvR ex H kvs kws→∀ {i:Nat}{p:Key×PyData},kvs[i]? = some p→∃ v,kws[i]? = some (p.1,v)∧Rep ex H p.2 v
 | [],_,_,i,p,h=>by simp at h
 | q::kvs,kws,r,i,p,h=>by
  obtain ⟨v,rest,rfl,rv,rr⟩:=kv_cons r
  cases i with
  | zero=>simp at h;subst h;exact ⟨v,rfl,rv⟩
  | succ i=>simpa using kv_at rr (i:=i) (by simpa using h)
theorem it_items {ex:List Addr}{H:Hp}{ep:Nat}{kvs:List (Key×PyData)}{a:Addr}(al:Alc ex H) (r:Rep ex H (fzD ep kvs) (.ref a)):ItAt ex (Itf a kvs.length ep) (kvs.map itemD) H:=by
 obtain ⟨a',ob,kws,ev,e,eo,n,kr⟩:=rep_fz r
 cases ev
 have hl:=kv_len kr
 refine ⟨⟨ob,kws,e,eo,hl,by rw [List.length_map]⟩,fun i d hd=>?_⟩
 rw [List.getElem?_map] at hd
 obtain ⟨p,hp,rfl⟩:=Option.map_eq_some_iff.mp hd
 have hi:=(List.getElem?_eq_some_iff.mp hp).1
 refine ⟨⟨ob,kws,e,eo,hl,hi⟩,fun x H' y=>?_⟩
 obtain ⟨q,k,z,hq,rfl,rfl,hy⟩:=y
 obtain ⟨v,hv,rv⟩:=kv_at kr hp
 have:=hy _ _ e
 rw [hv] at this
 cases this
 exact ⟨Kp.new hq _,.tuple upd_same (al.nm hq) (by simp [sizeLine_eq]) (.cons (rep_key _) (.cons (rv.keep (Kp.new hq _)) .nil))⟩
noncomputable abbrev gItems (g:GE):GN:=fun env n Q=>g env n fun d n1=>∃ ep kvs,d=fzD ep kvs∧Q (kvs.map itemD) n1
noncomputable instance iv_items {te:TE}{g:GE} [A:EV true te g]:IV (iItems te) (gItems g):=⟨fun {S ex env σ H n R P} E h k=>A.ev E h fun d n1 v H1 h1 s1 r1=>by
 obtain ⟨ep,kvs,rfl,q⟩:=h1
 obtain ⟨a,ob,kws,rfl,e,eo,_,kr⟩:=rep_fz r1
 refine ⟨a,ob,kws,rfl,e,?_⟩
 rw [kv_len kr,eo]
 exact k _ _ _ [(fzD ep kvs,.ref a)] _ q s1 (fun h hh=>by rw [List.mem_singleton.mp hh];exact r1) fun ex' H2 al hh=>it_items al (hh _ (List.mem_singleton.mpr rfl))⟩
noncomputable def rngD' (hi:Int) (k:Nat):List PyData:=(List.range k).map fun i=>.int (hi-(i:Nat))
theorem it_down {ex:List Addr}{H:Hp}{hi:Int}{k:Nat}:ItAt ex (Itd hi k) (rngD' hi k) H:=by
 have hz:(rngD' hi k).length=k:=by unfold rngD';simp
 refine ⟨by rw [hz];exact Nat.le_refl _,fun i d e=>?_⟩
 have hi:i<k:=by
  have:=(List.getElem?_eq_some_iff.mp e).1
  rw [hz] at this
  exact this
 unfold rngD' at e
 rw [List.getElem?_map,List.getElem?_range hi] at e
 cases e
 refine ⟨hi,fun x H' y=>?_⟩
 obtain ⟨rfl,rfl⟩:=y
 exact ⟨.refl,.int _⟩
noncomputable abbrev gRngD (t:GN):GN:=fun env n Q=>t env n fun ds n1=>∃ i j:Int,ds=[.int i,.int j,.int (-1)]∧(-(2^40)≤i∧i<2^40∧-(2^40)≤j∧j<2^40)∧Q (rngD' i (i-j).toNat) n1
noncomputable instance iv_rngD {t:TA}{gt:GN} [A:DV false t gt]:IV (iRngD t) (gRngD gt):=⟨fun {S ex env σ H n R P} E h k=>A.dv E h fun ds n1 vs H1 h1 s1 r1=>by
 obtain ⟨i,j,rfl,h2,q⟩:=h1
 cases r1 with
 | cons r1 t=>
  cases t with
  | cons r2 t=>
   cases t with
   | cons r3 t=>
    cases t
    cases r1
    cases r2
    cases r3
    exact ⟨i,j,rfl,h2,k _ _ _ [] _ q s1 (fun h hh=>by cases hh) fun ex' H2 al _=>it_down⟩⟩
theorem SlR.shr {S:Src}{ex ex2:List Addr}{H:Hp}{w:Vl}{o:Option V}{a:Addr}(hsub:∀ b∈ex2,b∈ex) (hin:∀ b∈ex,b≠a→b∈ex2) (ne:∀ b∈ownAt [w] [o] 0,b≠a) (q:SlR S ex H w o):SlR S ex2 H w o:=by
 cases w with
 | jnk=>trivial
 | jar=>exact q
 | tape=>exact q
 | d x=>obtain ⟨v,e,r⟩:=q;exact ⟨v,e,Rep.mono hsub r⟩
 | pin v x=>obtain ⟨e,r⟩:=q;exact ⟨e,Rep.mono hsub r⟩
 | own ys=>obtain ⟨b,ws,e,g1,g2,g3,g4,g5⟩:=q;exact ⟨b,ws,e,g1,g2,Reps.mono hsub g3,hin b g4 (ne b (by rw [e];exact List.mem_cons_self)),g5⟩
 | dct kvs=>obtain ⟨b,ws,e,g1,⟨g2,g3⟩,g4,g5⟩:=q;exact ⟨b,ws,e,g1,⟨g2,Reps.mono hsub g3⟩,hin b g4 (ne b (by rw [e];exact List.mem_cons_self)),g5⟩
 | own2 ks qs=>obtain ⟨b,e,q⟩:=q;exact ⟨b,e,q.h,q.z,q.k,q.nd,hin b q.m (ne b (by rw [e];exact List.mem_cons_self)),q.c,fun p hp=>let w:=q.i p hp;⟨hin p.1 w.m (ne p.1 (by rw [e];exact List.mem_cons_of_mem _ (List.mem_map.mpr ⟨p,hp,rfl⟩))),w.c,let ⟨vs,h1,h2,h3⟩:=w.h;⟨vs,h1,h2,Reps.mono hsub h3⟩⟩⟩
theorem At.fzD {C:Cv}{ex:List Addr}{env:List Vl}{σ:L2.St}{H:Hp}{n i:Nat}{kvs:List (Key×PyData)}{a:Addr}{kws:List (Key×V)}(A:At C ex env σ H n) (h:env[i]? = some (.dct kvs)) (e:(σ[i]?).join=some (.ref a)) (h1:H a=some (.dK kws)) (h3:KvR ex H kvs kws) (h5:a∉C.S.ch) (ob:Obj) :
 ∃ ex',At C ex' (env.set i (.d (My.fzD (epO ob) kvs))) σ (upd H a (.frz ob (.dK kws))) n:=by
 have ha:a∈ownAt env σ i:=by unfold ownAt;rw [h,e];exact List.mem_singleton.mpr rfl
 have hax:a∈ex:=(own_sl A.ev ha).2.1
 have h0:=A.new i a ha
 have kx:Kp ex H (upd H a (.frz ob (.dK kws))):=Kp.at hax _
 have hsub:∀ b∈ex.filter (fun b=>decide (b≠a)),b∈ex:=fun b hb=>(List.mem_filter.mp hb).1
 have hin:∀ b∈ex,b≠a→b∈ex.filter (fun b=>decide (b≠a)):=fun b hb hn=>List.mem_filter.mpr ⟨hb,decide_eq_true hn⟩
 have hn:a∉ex.filter (fun b=>decide (b≠a)):=fun z=>(of_decide_eq_true (List.mem_filter.mp z).2) rfl
 have oo:∀ j b,b∈ownAt (env.set i (.d (My.fzD (epO ob) kvs))) σ j→b∈ownAt env σ j∧b≠a:=fun j b hb=>by
  by_cases hj:i=j
  · subst hj
    unfold ownAt at hb
    rw [List.getElem?_set_self (List.getElem?_eq_some_iff.mp h).1] at hb
    cases hb
  · have:ownAt (env.set i (.d (My.fzD (epO ob) kvs))) σ j=ownAt env σ j:=by unfold ownAt;rw [List.getElem?_set_ne hj]
    rw [this] at hb
    exact ⟨hb,fun z=>hj (A.sep i j a ha (by rw [← z];exact hb))⟩
 refine ⟨ex.filter fun b=>decide (b≠a),⟨by rw [List.length_set];exact A.ev.len,fun j w ew=>?_,fun b hb=>hin b (A.ev.ch b hb) fun z=>h5 (by rw [← z];exact hb),fun b hb=>?_,C.S.keep A.ev.inv fun b hb o e=>by rw [upd_ne (fun z=>h5 (by rw [← z];exact hb))];exact e⟩,fun b hb=>hin b (A.ex0 b hb) fun z=>?_,A.al0,fun j k b q1 q2=>A.sep j k b (oo j b q1).1 (oo k b q2).1,fun j b q=>A.new j b (oo j b q).1,Kp.late A.kp h0 _,fun x hx=>Rep.mono hsub ((A.held x hx).keep kx)⟩
 · by_cases hj:i=j
   · subst hj
     rw [List.getElem?_set_self (List.getElem?_eq_some_iff.mp h).1] at ew
     cases ew
     refine ⟨_,e,.dctf upd_same hn ?_ (Reps.mono hsub (h3.2.keep kx))⟩
     rw [h3.1]
   · rw [List.getElem?_set_ne hj] at ew
     have ne:∀ b∈ownAt [w] [(σ[j]?).join] 0,b≠a:=fun b hb z=>hj (A.sep i j a ha (by rw [own_one ew,← z];exact hb))
     exact SlR.shr hsub hin ne (SlR.upd hax ne (A.ev.sl j w ew))
 · rw [upd_ne (of_decide_eq_true (List.mem_filter.mp hb).2)]
   exact A.ev.al b (hsub b hb)
 · subst z
   exact A.al0 b hb h0
noncomputable abbrev gFzS (i:Nat) (gs:GS):GS:=fun G env n=>match env[i]? with
 | some (.dct kvs)=>∀ ep,gs G (env.set i (.d (fzD ep kvs))) n
 | _=>False
noncomputable instance (priority:=high) sv_fz {i:Nat}{ts:TS}{gs:GS} [T:SV ts gs]:SV (tFz i ts) (gFzS i gs):=⟨fun {C G D} O {ex env σ H n} A h=>by
 unfold gFzS at h
 split at h
 · rename_i kvs e
   obtain ⟨a,kws,ev,h1,h2,h4,h5⟩:=A.at_dct e
   refine ⟨a,kws,join_some ev,h1,fun ob=>?_⟩
   obtain ⟨ex',A'⟩:=A.fzD e ev h1 h2 h5 ob
   exact T.sv O A' (h _)
 · exact h.elim⟩
noncomputable def tDInF (neg:Bool) (ty td:TE):TE:=if neg then tDNotIn ty td else tDIn ty td
noncomputable abbrev gDInF (neg:Bool) (i:Nat) (gy:GE):GE:=fun env n Q=>gy env n fun y n1=>match env[i]? with
 | some (.d d)=>∃ ep kvs j,d=fzD ep kvs∧y = .int j∧Q (.bool (if neg then !(valD kvs (Sum.inl j)).isSome else (valD kvs (Sum.inl j)).isSome)) n1
 | _=>False
noncomputable instance ev_dInF {b neg:Bool}{i:Nat}{ty:TE}{gy:GE} [Y:EV false ty gy]:EV b (tDInF neg ty (tVar i)) (gDInF neg i gy):=⟨fun {S ex env σ H n Q P} E h k=>by
 have key:∀ y n1 yv H1,(match env[i]? with
  | some (.d d)=>∃ ep kvs j,d=fzD ep kvs∧y=PyData.int j∧P (.bool (if neg then !(valD kvs (Sum.inl j)).isSome else (valD kvs (Sum.inl j)).isSome)) n1
  | _=>False)→Step S n1 H H1→Rep (exm false S ex) H1 y yv→∃ a o,σ[i]? = some (some (.ref a))∧DGet H1 a yv o∧Q (.bl (if neg then !o.isSome else o.isSome)) H1:=fun y n1 yv H1 hy s1 ry=>by
  have E1:=E.step s1
  split at hy
  · rename_i d e
    obtain ⟨ep,kvs,j,rfl,rfl,q⟩:=hy
    cases ry
    obtain ⟨v,ev,r⟩:=E1.sl i _ e
    obtain ⟨a,ob,kws,rfl,ed,_,_,kr⟩:=rep_fz r
    refine ⟨a,_,join_some ev,.inl ⟨kws,Sum.inl j,.inr ⟨ob,ed⟩,rfl,rfl⟩,?_⟩
    have:(valV kws (Sum.inl j)).isSome=(valD kvs (Sum.inl j)).isSome:=by
     rcases kv_val (k:=Sum.inl j) kr with ⟨e1,e2⟩ | ⟨d',v,e1,e2,rd⟩
     · rw [e1,e2];rfl
     · rw [e1,e2];rfl
    rw [this]
    exact k _ _ _ _ q s1 (.bool _)
  · exact hy.elim
 cases neg with
 | false=>exact Y.ev E h fun y n1 yv H1 hy s1 ry=>let ⟨a,o,e1,e2,e3⟩:=key y n1 yv H1 hy s1 ry;⟨_,e1,a,o,rfl,e2,e3⟩
 | true=>exact Y.ev E h fun y n1 yv H1 hy s1 ry=>let ⟨a,o,e1,e2,e3⟩:=key y n1 yv H1 hy s1 ry;⟨_,e1,a,o,rfl,e2,e3⟩⟩
noncomputable def BdH (b:Nat) (r:List Int):Prop:=∀ x∈r,x.natAbs<2^b
theorem BdH.mono {b c:Nat}{r:List Int}(h:BdH b r) (hc:b≤c):BdH c r:=fun x hx=>Nat.lt_of_lt_of_le (h x hx) (Nat.pow_le_pow_right (by decide) hc)
theorem BdH.at {b:Nat}{r:List Int}(h:BdH b r) (p:Nat):(r.getD p 0).natAbs<2^b:=by
 by_cases hp:p<r.length
 · rw [List.getD_eq_getElem?_getD,List.getElem?_eq_getElem hp]
   exact h _ (List.getElem_mem hp)
 · rw [List.getD_eq_getElem?_getD,List.getElem?_eq_none (by omega)]
   exact Nat.pow_pos (by decide)
theorem bits_le {a:Int}{k:Nat}(h:a.natAbs<2^k):Builtin.Int.intBits a≤k:=by
 unfold Builtin.Int.intBits
 split
 · exact Nat.zero_le _
 · rename_i hz
   have h0:a.natAbs≠0:=fun z=>hz (by rw [Int.natAbs_eq_zero.mp z];rfl)
   exact (Nat.log2_lt h0).mpr h
theorem mulOk_ofH {a b:Int}{k l:Nat}(ha:a.natAbs<2^k) (hb:b.natAbs<2^l) (h:k+l≤2^27):IntMulOk a b:=by
 have h1:=bits_le ha
 have h2:=bits_le hb
 have h3:Builtin.Int.intTooBig (Builtin.Int.intBits a+Builtin.Int.intBits b)=false:=by
  unfold Builtin.Int.intTooBig bitsLine
  exact decide_eq_false (by omega)
 unfold IntMulOk
 rw [h3]
 simp
theorem mul_lt {a b:Int}{k l:Nat}(ha:a.natAbs<2^k) (hb:b.natAbs<2^l):(a*b).natAbs<2^(k+l):=by
 rw [Int.natAbs_mul,Nat.pow_add]
 exact Nat.mul_lt_mul'' ha hb
noncomputable def clrF (by_ row:List Int) (p:Nat):List Int:=List.zipWith (fun x y=>by_.getD p 0*x-row.getD p 0*y) row by_
noncomputable def redI (f:List Int):List Int:=f.map fun x=>x/((gcdL f:Nat):Int)
noncomputable def anyI (f:List Int):Bool:=f.any fun x=>decide (x≠0)
noncomputable def clr (by_ row:List Int) (p:Nat):List Int:=if row.getD p 0=0 then row else if anyI (clrF by_ row p)=true then redI (clrF by_ row p) else clrF by_ row p
theorem clrF_len {by_ row:List Int}{p:Nat}(h:row.length=by_.length):(clrF by_ row p).length=row.length:=by unfold clrF;rw [List.length_zipWith,h,Nat.min_self]
theorem clr_len {by_ row:List Int}{p:Nat}(h:row.length=by_.length):(clr by_ row p).length=row.length:=by
 unfold clr
 split
 · rfl
 · split
   · unfold redI;rw [List.length_map,clrF_len h]
   · exact clrF_len h
theorem getD_zip {f:Int→Int→Int}(h0:f 0 0=0):∀ {xs ys:List Int}(j:Nat),xs.length=ys.length→(List.zipWith f xs ys).getD j 0=f (xs.getD j 0) (ys.getD j 0)
 | [],[],j,_=>by simp [h0]
 | x::xs,y::ys,0,_=>rfl
 | x::xs,y::ys,j+1,h=>by
  rw [List.zipWith_cons_cons,List.getD_cons_succ,List.getD_cons_succ,List.getD_cons_succ]
  exact getD_zip h0 j (by simpa using h)
 | [],_::_,_,h=>by cases h
 | _::_,[],_,h=>by cases h
theorem red_get (f:List Int) (j:Nat):(redI f).getD j 0*((gcdL f:Nat):Int)=f.getD j 0:=by
 unfold redI
 by_cases hj:j<f.length
 · rw [List.getD_eq_getElem?_getD,List.getD_eq_getElem?_getD,List.getElem?_map,List.getElem?_eq_getElem hj]
   exact gcd_mul (List.getElem_mem hj)
 · rw [List.getD_eq_getElem?_getD,List.getD_eq_getElem?_getD,List.getElem?_map,List.getElem?_eq_none (by omega)]
   simp
theorem any_ne {f:List Int}(h:anyI f=true):gcdL f≠0:=by
 unfold anyI at h
 obtain ⟨x,hx,hn⟩:=List.any_eq_true.mp h
 exact gcd_ne hx (of_decide_eq_true hn)
theorem clr_eq {by_ row:List Int}{p:Nat}(hl:row.length=by_.length) (hb:by_.getD p 0≠0):∃ A B G:Int,G≠0∧A≠0∧A*row.getD p 0=B*by_.getD p 0∧∀ j,(clr by_ row p).getD j 0*G=A*row.getD j 0-B*by_.getD j 0:=by
 unfold clr
 by_cases h0:row.getD p 0=0
 · rw [if_pos h0]
   exact ⟨1,0,1,by decide,by decide,by rw [h0];simp,fun j=>by simp⟩
 · rw [if_neg h0]
   have hf:∀ j,(clrF by_ row p).getD j 0=by_.getD p 0*row.getD j 0-row.getD p 0*by_.getD j 0:=fun j=>getD_zip (by simp) j hl
   by_cases ha:anyI (clrF by_ row p)=true
   · rw [if_pos ha]
     exact ⟨by_.getD p 0,row.getD p 0,((gcdL (clrF by_ row p):Nat):Int),by have:=any_ne ha;omega,hb,Int.mul_comm _ _,fun j=>by rw [red_get,hf]⟩
   · rw [if_neg ha]
     exact ⟨by_.getD p 0,row.getD p 0,1,by decide,hb,Int.mul_comm _ _,fun j=>by rw [Int.mul_one,hf]⟩
theorem clrF_bd {by_ row:List Int}{p b:Nat}(h1:BdH b row) (h2:BdH b by_):BdH (2*b+1) (clrF by_ row p):=by
 intro x hx
 unfold clrF at hx
 obtain ⟨i,hi,rfl⟩:=List.mem_iff_getElem.mp hx
 rw [List.getElem_zipWith]
 have a1:=mul_lt (h2.at p) (h1 (row[i]'(by rw [List.length_zipWith] at hi;omega)) (List.getElem_mem _))
 have a2:=mul_lt (h1.at p) (h2 (by_[i]'(by rw [List.length_zipWith] at hi;omega)) (List.getElem_mem _))
 rw [show 2*b+1=(b+b)+1 by omega,Nat.pow_succ]
 omega
theorem red_bd {f:List Int}{b:Nat}(h:BdH b f):BdH b (redI f):=by
 intro x hx
 unfold redI at hx
 obtain ⟨y,hy,rfl⟩:=List.mem_map.mp hx
 exact Nat.lt_of_le_of_lt (Int.natAbs_ediv_le_natAbs _ _) (h y hy)
theorem clr_bd {by_ row:List Int}{p b:Nat}(h1:BdH b row) (h2:BdH b by_):BdH (2*b+1) (clr by_ row p):=by
 unfold clr
 split
 · exact h1.mono (by omega)
 · split
   · exact red_bd (clrF_bd h1 h2)
   · exact clrF_bd h1 h2
noncomputable abbrev Sr:=List (Nat×List Int)
noncomputable def setStep (p:Nat) (st:List (List Int)×Sr):List (List Int)×Sr:=match st.1.filter (fun r=>decide (r.getD p 0≠0)) with
 | []=>st
 | by_::_=>((st.1.filter fun r=>decide (r≠by_)).map (fun r=>clr by_ r p),(st.2.map fun k=>(k.1,clr by_ k.2 p))++[(p,by_)])
noncomputable def settleTo (w:Nat) (rows:List (List Int)):Nat→List (List Int)×Sr
 | 0=>(rows,[])
 | i+1=>setStep (w-1-i) (settleTo w rows i)
noncomputable def settleI (w:Nat) (rows:List (List Int)):Sr:=(settleTo w rows w).2
structure StHk (w m b:Nat) (st:List (List Int)×Sr):Prop where
 len:∀ r∈st.1,r.length=w∧BdH b r
 kl:∀ k∈st.2,m≤k.1∧k.1<w∧k.2.length=w∧BdH b k.2∧k.2.getD k.1 0≠0
 nd:(st.2.map (·.1)).Nodup
 z:∀ r∈st.1,∀ k∈st.2,r.getD k.1 0=0
theorem step_ok {w p b:Nat}{st:List (List Int)×Sr}(h:StHk w (p+1) b st) (hp:p<w):StHk w p (2*b+1) (setStep p st):=by
 unfold setStep
 split
 · exact ⟨fun r hr=>⟨(h.len r hr).1,(h.len r hr).2.mono (by omega)⟩,fun k hk=>let ⟨a1,a2,a3,a4,a5⟩:=h.kl k hk;⟨by omega,a2,a3,a4.mono (by omega),a5⟩,h.nd,h.z⟩
 · rename_i by_ rest e
   have hm:by_∈st.1.filter (fun r=>decide (r.getD p 0≠0)):=by rw [e];exact List.mem_cons_self
   obtain ⟨hb,hp0⟩:=List.mem_filter.mp hm
   have hp0:by_.getD p 0≠0:=of_decide_eq_true hp0
   obtain ⟨bl,bb⟩:=h.len by_ hb
   refine ⟨fun r hr=>?_,fun k hk=>?_,?_,fun r hr k hk=>?_⟩
   · obtain ⟨r0,hr0,rfl⟩:=List.mem_map.mp hr
     obtain ⟨l0,b0⟩:=h.len r0 (List.mem_filter.mp hr0).1
     exact ⟨by rw [clr_len (by omega)];exact l0,clr_bd b0 bb⟩
   · rcases List.mem_append.mp hk with hk | hk
     · obtain ⟨k0,hk0,rfl⟩:=List.mem_map.mp hk
       obtain ⟨a1,a2,a3,a4,a5⟩:=h.kl k0 hk0
       refine ⟨by show p≤k0.1;omega,a2,by show (clr by_ k0.2 p).length=w;rw [clr_len (by omega)];exact a3,clr_bd a4 bb,?_⟩
       show (clr by_ k0.2 p).getD k0.1 0≠0
       obtain ⟨A,B,G,hG,hA,_,hj⟩:=clr_eq (p:=p) (row:=k0.2) (by_:=by_) (by omega) hp0
       intro z
       have:=hj k0.1
       rw [z,h.z by_ hb k0 hk0,Int.zero_mul,Int.mul_zero,Int.sub_zero] at this
       rcases Int.mul_eq_zero.mp this.symm with q | q
       · exact hA q
       · exact a5 q
     · rw [List.mem_singleton.mp hk]
       exact ⟨Nat.le_refl _,hp,bl,bb.mono (by omega),hp0⟩
   · rw [List.map_append,List.map_map]
     refine List.nodup_append.mpr ⟨h.nd,by simp,fun x hx y hy=>?_⟩
     obtain ⟨k0,hk0,rfl⟩:=List.mem_map.mp hx
     have:y=p:=by simpa using hy
     have h1:=(h.kl k0 hk0).1
     rw [this]
     show k0.1≠p
     omega
   · obtain ⟨r0,hr0,rfl⟩:=List.mem_map.mp hr
     obtain ⟨hr1,_⟩:=List.mem_filter.mp hr0
     obtain ⟨l0,b0⟩:=h.len r0 hr1
     obtain ⟨A,B,G,hG,hA,hAB,hj⟩:=clr_eq (p:=p) (row:=r0) (by_:=by_) (by omega) hp0
     have fin:∀ j,A*r0.getD j 0=B*by_.getD j 0→(clr by_ r0 p).getD j 0=0:=fun j hz=>by
      have:=hj j
      rw [hz,Int.sub_self] at this
      rcases Int.mul_eq_zero.mp this with q | q
      · exact q
      · exact absurd q hG
     rcases List.mem_append.mp hk with hk | hk
     · obtain ⟨k0,hk0,rfl⟩:=List.mem_map.mp hk
       exact fin k0.1 (by rw [h.z r0 hr1 k0 hk0,h.z by_ hb k0 hk0,Int.mul_zero,Int.mul_zero])
     · rw [List.mem_singleton.mp hk]
       exact fin p hAB
theorem nodup_leH:∀ {w:Nat}{l:List Nat},l.Nodup→(∀ x∈l,x<w)→l.length≤w
 | 0,l,_,h=>by
  cases l with
  | nil=>exact Nat.le_refl _
  | cons x l=>exact absurd (h x List.mem_cons_self) (Nat.not_lt_zero _)
 | w+1,l,nd,h=>by
  have h1:(l.erase w).Nodup:=nd.erase w
  have h2:∀ x∈l.erase w,x<w:=fun x hx=>by
   have hl:=h x (List.mem_of_mem_erase hx)
   have hne:x≠w:=fun z=>by
    rw [z] at hx
    exact (List.Nodup.mem_erase_iff nd).mp hx |>.1 rfl
   omega
  have ih:=nodup_leH h1 h2
  have:=List.length_erase (a:=w) (l:=l)
  split at this<;>omega
theorem settle_klen {w m b:Nat}{st:List (List Int)×Sr}(h:StHk w m b st):st.2.length≤w:=by
 have:=nodup_leH h.nd (w:=w) fun x hx=>by
  obtain ⟨k,hk,rfl⟩:=List.mem_map.mp hx
  exact (h.kl k hk).2.1
 rw [List.length_map] at this
 exact this
noncomputable def bitN (b:Nat):Nat→Nat
 | 0=>b
 | i+1=>2*bitN b i+1
theorem settle_ok {w b:Nat}{rows:List (List Int)}(h:∀ r∈rows,r.length=w∧BdH b r):∀ {i:Nat},i≤w→StHk w (w-i) (bitN b i) (settleTo w rows i)
 | 0,_=>⟨h,fun k hk=>(by cases hk),List.nodup_nil,fun r _ k hk=>(by cases hk)⟩
 | i+1,hi=>by
  have ih:=settle_ok h (i:=i) (by omega)
  rw [show w-i=(w-1-i)+1 by omega] at ih
  have:=step_ok ih (by omega)
  rw [show w-(i+1)=w-1-i by omega]
  exact this
theorem bit_le {b:Nat}(hb:b≤8):∀ {i:Nat},bitN b i+1≤9*2^i
 | 0=>by show b+1≤9*1;omega
 | i+1=>by
  have:=bit_le hb (i:=i)
  show 2*bitN b i+1+1≤9*2^(i+1)
  rw [Nat.pow_succ];omega
theorem bit_18 {b i:Nat}(hb:b≤8) (hi:i≤18):bitN b i≤2359296:=by
 have h1:=bit_le hb (i:=i)
 have h2:2^i≤2^18:=Nat.pow_le_pow_right (by decide) hi
 have h3:(2:Nat)^18=262144:=by decide
 omega
theorem step_len {p:Nat}{st:List (List Int)×Sr}:(setStep p st).1.length≤st.1.length:=by
 unfold setStep
 split
 · exact Nat.le_refl _
 · simp only [List.length_map]
   exact List.length_filter_le _ _
theorem settle_len {w:Nat}{rows:List (List Int)}:∀ {i:Nat},(settleTo w rows i).1.length≤rows.length
 | 0=>Nat.le_refl _
 | i+1=>Nat.le_trans step_len settle_len
noncomputable def scaleI (kvs:Sr):Int:=kvs.foldl (fun z k=>z*k.2.getD k.1 0) 1
noncomputable def toldI (kvs:Sr) (z:Int) (p:Nat) (t:List Int):List Int:=kvs.foldl (fun t k=>t.set k.1 ((-z*k.2.getD p 0).fdiv (k.2.getD k.1 0))) t
noncomputable def told0 (kvs:Sr) (p w:Nat):List Int:=toldI kvs (scaleI kvs) p ((List.replicate w 0).set p (scaleI kvs))
noncomputable def rowFromI (kvs:Sr) (p w:Nat):List Int:=if 0<(redI (told0 kvs p w)).getD p 0 then redI (told0 kvs p w) else (redI (told0 kvs p w)).map fun x=>-x
noncomputable def fallsI (R:Int) (w:Way):List Int:=(w.g.map fun x=>-x)++(List.range R.toNat).map fun r:Nat=>(if ((r:Nat):Int)=w.a then 1 else 0)-(if ((r:Nat):Int)=w.b then 1 else 0)
noncomputable def srK (kvs:Sr):List (Key×PyData):=kvs.map fun k=>(Sum.inl ((k.1:Nat):Int),ringL k.2)
noncomputable def widthI (R U:Int):Nat:=(U+R).toNat
noncomputable def setI (R U:Int) (ws:List Way):Sr:=settleI (widthI R U) (ws.map (fallsI R))
noncomputable def freeI (kvs:Sr) (w:Nat):List Nat:=(List.range w).filter fun p=>decide (p∉kvs.map (·.1))
noncomputable def heldI (R U:Int) (ws:List Way):List (List Int×List Int):=(freeI (setI R U ws) (widthI R U)).map fun p=>((rowFromI (setI R U ws) p (widthI R U)).take U.toNat,(rowFromI (setI R U ws) p (widthI R U)).drop U.toNat)
structure BookH (R U:Int) (ws:List Way):Prop where
 r0:1≤R
 r1:R≤12
 p0:1≤U
 p1:U≤6
 len:ws.length≤100
 ways:∀ w∈ws,WayOk R U w
theorem BookOk.h {R U:Int}{ws:List Way}(h:BookOk R U ws):BookH R U ws:=⟨h.r0,h.r1,h.p0,h.p1,Nat.le_trans h.len (by decide),h.ways⟩
noncomputable def gsNoDivL:GSn:=fun as n Q=>∃ ns:List Int,as=[.d (ringL ns)]∧ns.length≤100000∧gcdL ns≠0∧Q ((redI ns).map .int) n
noncomputable def gsFallsOf:GSn:=fun as n Q=>∃ (R U:Int) (ws:List Way) (w:Way),as=[.d (bookPD R U ws),.d (wayPD w)]∧BookH R U ws∧WayOk R U w∧Q ((fallsI R w).map .int) n
noncomputable def gsClr:GSp:=fun as n Q=>∃ (b p:Nat) (row by_:List Int),as=[.d (ringL row),.d (ringL by_),.d (natD p)]∧row.length=by_.length∧p<row.length∧row.length≤100∧(BdH b row∧BdH b by_∧b≤10000000)∧Q (ringL (clr by_ row p)) n
noncomputable def gsSettle:GSp:=fun as n Q=>∃ (rows:List (List Int)) (w:Nat),as=[.d (.list (rows.map ringL)),.d (natD w)]∧w≤18∧(∀ r∈rows,r.length=w∧BdH 8 r)∧rows.length≤1000∧∀ ep,Q (fzD ep (srK (settleI w rows))) n
structure SrOk (w:Nat) (kvs:Sr):Prop where
 kl:∀ k∈kvs,k.1<w∧k.2.length=w∧BdH 2359296 k.2∧k.2.getD k.1 0≠0
 nd:(kvs.map (·.1)).Nodup
 len:kvs.length≤w
noncomputable def gsRowFrom:GSn:=fun as n Q=>∃ (ep:Nat) (kvs:Sr) (p w:Nat),as=[.d (fzD ep (srK kvs)),.d (natD p),.d (natD w)]∧SrOk w kvs∧w≤18∧p<w∧p∉kvs.map (·.1)∧Q ((rowFromI kvs p w).map .int) n
noncomputable def gsHeld:GSn:=fun as n Q=>∃ (R U:Int) (ws:List Way),as=[.d (bookPD R U ws)]∧BookH R U ws∧Q ((heldI R U ws).map fun s=>smPD s.1 s.2) n
end My
namespace L2
open PySem PySem.Spec PyProof.Rows My
noncomputable def ipC (C:Int→Int→Prop) (f:Int→Int→Int):TIp:=fun x y H Q=>∃ i j,x = .int i∧y = .int j∧C i j∧Q (.int (f i j)) H
theorem ip_mulB {X:Cx}:PIp X .Mult (ipC IntMulOk fun i j=>i*j):=by
 intro pins s σ H x y v u Q I r1 r2 h
 obtain ⟨i,j,e1,e2,hc,q⟩:=h
 subst e1;subst e2
 obtain ⟨t,rfl⟩:=r1
 obtain ⟨t',rfl⟩:=r2
 exact imul_int ⟨.int (i*j),H,I.kept (t':=s.toks+1) (fun b o e=>e),⟨_,rfl⟩,q⟩ hc
end L2
namespace My
open PySem PySem.Spec PyProof.Rows L2
noncomputable abbrev gAugC (i:Nat) (g:GE) (C:Int→Int→Prop) (f:Int→Int→Int):GS:=fun G env n=>match env[i]? with
 | some (.d (.int x))=>g env n fun d n1=>(match d with | .int y=>C x y∧G.nx (env.set i (.d (.int (f x y)))) n1 | _=>False)
 | _=>False
noncomputable instance sv_augC {i:Nat}{te:TE}{ge:GE}{C:Int→Int→Prop}{f:Int→Int→Int} [E:EV false te ge]:SV (tAug i te (ipC C f)) (gAugC i ge C f):=⟨fun {C' G D} O {ex env σ H n} A h=>by
 unfold gAugC at h
 split at h
 · rename_i x e
   obtain ⟨v,ev,r⟩:=A.ev.sl i _ e
   cases r
   refine ⟨_,join_some ev,E.ev A.ev h fun d n1 v H1 h1 s1 r=>?_⟩
   cases r with
   | int y=>exact ⟨x,y,rfl,rfl,h1.1,O.nx ((A.step s1).put (.int _)) h1.2⟩
   | none=>exact h1.elim
   | obj=>exact h1.elim
   | dctf=>exact h1.elim
   | bool=>exact h1.elim
   | str=>exact h1.elim
   | tuple=>exact h1.elim
   | list=>exact h1.elim
 · exact h.elim⟩
theorem putQ_new {kvs:List (Key×PyData)}{k:Key}{d:PyData}(h:k∉kvs.map (·.1)):putQ kvs k d=kvs++[(k,d)]:=by
 unfold putQ
 rw [if_neg]
 intro z
 obtain ⟨x,hx,hd⟩:=List.any_eq_true.mp z
 exact h (List.mem_map.mpr ⟨x,hx,of_decide_eq_true hd⟩)
theorem neRing {a b:List Int}{Q:PyData→Prop}(q:Q (.bool (decide (a≠b)))):fEqD true (ringL a) (ringL b) Q:=by
 unfold ringL
 refine ⟨⟨by rw [PyData.canLay0];exact lay_is a,by rw [PyData.canLay0];exact lay_is b,Nat.le_trans (Nat.min_le_right _ _) (by rw [PyData.depth,dep_is];decide)⟩,?_⟩
 rw [if_pos rfl,eqvL_ints,← decide_not]
 exact q
theorem nat_down {w i:Nat}(h:i<w):((w:Nat):Int)-1-((i:Nat):Int)=((w-1-i:Nat):Int):=by omega
theorem cmpD_items {turn:PyData→Nat→(Option (Int×PyData)→Nat→Prop)→Prop}{n:Nat}{f:Nat×List Int→List Int}:∀ {kvs:Sr}{acc:List (Key×PyData)}{P:List (Key×PyData)→Nat→Prop},(∀ k∈kvs,∀ K,K (some (((k.1:Nat):Int),ringL (f k))) n→turn (itemD (Sum.inl ((k.1:Nat):Int),ringL k.2)) n K) →
 (∀ k∈kvs,(Sum.inl ((k.1:Nat):Int):Key)∉acc.map (·.1))→(kvs.map (·.1)).Nodup→P (acc++kvs.map fun k=>(Sum.inl ((k.1:Nat):Int),ringL (f k))) n→cmpDW turn ((srK kvs).map itemD) n acc P
 | [],acc,P,_,_,_,q=>by simpa [srK,cmpDW] using q
 | k::kvs,acc,P,ht,ha,nd,q=>by
  show cmpDW turn (itemD (Sum.inl ((k.1:Nat):Int),ringL k.2)::(srK kvs).map itemD) n acc P
  unfold cmpDW
  refine ht k List.mem_cons_self _ ?_
  show cmpDW turn ((srK kvs).map itemD) n (putQ acc (Sum.inl ((k.1:Nat):Int)) (ringL (f k))) P
  rw [putQ_new (ha k List.mem_cons_self)]
  have nd':=List.nodup_cons.mp nd
  refine cmpD_items (fun x hx=>ht x (List.mem_cons_of_mem _ hx)) (fun x hx=>?_) nd'.2 (by rw [List.append_assoc];exact q)
  rw [List.map_append]
  intro z
  rcases List.mem_append.mp z with z | z
  · exact ha x (List.mem_cons_of_mem _ hx) z
  · have e:=List.mem_singleton.mp z
    have:x.1=k.1:=by
     injection e with e
     have:((x.1:Nat):Int)=((k.1:Nat):Int):=e
     omega
    exact nd'.1 (List.mem_map.mpr ⟨x,hx,this⟩)
end My
namespace L2
open PySem PySem.Spec PyProof.Rows My
theorem PyRoom.nox {X:Cx}(h:PyRoom X):PyRoom X.nox:=⟨h.seer,h.tree,h.dep,h.fr⟩
theorem sl_listK {X:Cx}{K':PySem.W.Frag}(hK:X.K=K'):L2.SlR X (rSlL K'):=hK▸sl_list
theorem pc_dnotinF {X:Cx}{a b:Expr}{ty td:TE}(h:PC X .NotIn a b (tDNotIn ty td)):PC X .NotIn a b (tDInF true ty td):=h
end L2
namespace My
open PySem PySem.Spec PyProof.Rows L2
theorem atK {xs:List Int}{p:Nat}(h:p<xs.length):atI (xs.map PyData.int) ((p:Nat):Int)=some (.int (xs.getD p 0)):=at_getD (Int.natCast_nonneg p) (int_get (by simpa using h))
theorem sr_get {kvs:Sr}{i:Nat}{x:PyData}(h:((srK kvs).map itemD)[i]? = some x):∃ k,kvs[i]? = some k∧x = .tuple [natD k.1,ringL k.2]:=by
 unfold srK at h
 rw [List.map_map,List.getElem?_map] at h
 obtain ⟨k,hk,rfl⟩:=Option.map_eq_some_iff.mp h
 exact ⟨k,hk,rfl⟩
theorem scale_snoc (kvs:Sr) (k:Nat×List Int):scaleI (kvs++[k])=scaleI kvs*k.2.getD k.1 0:=by unfold scaleI;rw [List.foldl_append];rfl
theorem told_snoc (kvs:Sr) (k:Nat×List Int) (z:Int) (p:Nat) (t:List Int):toldI (kvs++[k]) z p t=(toldI kvs z p t).set k.1 ((-z*k.2.getD p 0).fdiv (k.2.getD k.1 0)):=by unfold toldI;rw [List.foldl_append];rfl
theorem take_snocH {α:Type}{l:List α}{i:Nat}{x:α}(h:l[i]? = some x):l.take (i+1)=l.take i++[x]:=by rw [List.take_add_one,h];rfl
theorem scale_bd {w:Nat}{kvs:Sr}(h:SrOk w kvs):∀ {i:Nat},i≤kvs.length→(scaleI (kvs.take i)).natAbs<2^(2359296*i+1)
 | 0,_=>by
  show (1:Int).natAbs<2^(2359296*0+1)
  decide
 | i+1,hi=>by
  have hx:kvs[i]? = some kvs[i]:=List.getElem?_eq_getElem hi
  rw [take_snocH hx,scale_snoc]
  have h1:=scale_bd h (i:=i) (by omega)
  have h2:=(h.kl _ (List.getElem_mem hi)).2.2.1.at kvs[i].1
  have:=mul_lt h1 h2
  rw [show 2359296*i+1+2359296=2359296*(i+1)+1 by omega] at this
  exact this
theorem scale_ne {kvs:Sr}(h:∀ k∈kvs,k.2.getD k.1 0≠0):scaleI kvs≠0:=by
 unfold scaleI
 have:∀ (l:Sr) (z:Int),z≠0→(∀ k∈l,k.2.getD k.1 0≠0)→l.foldl (fun z k=>z*k.2.getD k.1 0) z≠0:=by
  intro l
  induction l with
  | nil=>intro z hz _;exact hz
  | cons k l ih=>
   intro z hz hl
   refine ih _ (fun e=>?_) fun x hx=>hl x (List.mem_cons_of_mem _ hx)
   rcases Int.mul_eq_zero.mp e with e | e
   · exact hz e
   · exact hl k List.mem_cons_self e
 exact this kvs 1 (by decide) h
theorem told_len {kvs:Sr}{z:Int}{p:Nat}:∀ {t:List Int},(toldI kvs z p t).length=t.length:=by
 unfold toldI
 induction kvs with
 | nil=>intro t;rfl
 | cons k l ih=>intro t;rw [List.foldl_cons,ih,List.length_set]
theorem getD_set {t:List Int}{i j:Nat}{x:Int}(hi:i<t.length):(t.set i x).getD j 0=if i=j then x else t.getD j 0:=by
 rw [List.getD_eq_getElem?_getD,List.getD_eq_getElem?_getD]
 by_cases h:i=j
 · subst h
   rw [List.getElem?_set_self hi,if_pos rfl];rfl
 · rw [List.getElem?_set_ne h,if_neg h]
theorem told_at {kvs:Sr}{z:Int}{p q:Nat}(h:q∉kvs.map (·.1)):∀ {t:List Int},(∀ k∈kvs,k.1<t.length)→(toldI kvs z p t).getD q 0=t.getD q 0:=by
 unfold toldI
 induction kvs with
 | nil=>intro t _;rfl
 | cons k l ih=>
  intro t ht
  rw [List.map_cons] at h
  rw [List.foldl_cons,ih (fun z=>h (List.mem_cons_of_mem _ z)) (fun x hx=>by rw [List.length_set];exact ht x (List.mem_cons_of_mem _ hx)),getD_set (ht k List.mem_cons_self),if_neg (fun z=>h (by rw [z];exact List.mem_cons_self))]
theorem told0_len (kvs:Sr) (p w:Nat):(told0 kvs p w).length=w:=by unfold told0;rw [told_len,List.length_set,List.length_replicate]
theorem told0_at {kvs:Sr}{p w:Nat}(h:SrOk w kvs) (hp:p<w) (hn:p∉kvs.map (·.1)):(told0 kvs p w).getD p 0=scaleI kvs:=by
 unfold told0
 rw [told_at hn (fun k hk=>by rw [List.length_set,List.length_replicate];exact (h.kl k hk).1),getD_set (by rw [List.length_replicate];exact hp),if_pos rfl]
theorem told0_gcd {kvs:Sr}{p w:Nat}(h:SrOk w kvs) (hp:p<w) (hn:p∉kvs.map (·.1)):gcdL (told0 kvs p w)≠0:=by
 have h1:=told0_at h hp hn
 have hl:=told0_len kvs p w
 have h2:scaleI kvs≠0:=scale_ne fun k hk=>(h.kl k hk).2.2.2
 have:(told0 kvs p w).getD p 0∈told0 kvs p w:=by
  rw [List.getD_eq_getElem?_getD,List.getElem?_eq_getElem (by omega)]
  exact List.getElem_mem _
 exact gcd_ne this (by rw [h1];exact h2)
theorem red_len (f:List Int):(redI f).length=f.length:=by unfold redI;rw [List.length_map]
theorem rowFromI_len (kvs:Sr) (p w:Nat):(rowFromI kvs p w).length=w:=by
 unfold rowFromI
 split
 · rw [red_len,told0_len]
 · rw [List.length_map,red_len,told0_len]
theorem falls_len {R U:Int}{w:Way}(hR:1≤R) (h:WayOk R U w) (hU:0≤U):(fallsI R w).length=widthI R U:=by
 have:=h.len
 unfold fallsI widthI
 rw [List.length_append,List.length_map,List.length_map,List.length_range]
 omega
theorem falls_bd {R U:Int}{w:Way}(h:WayOk R U w):BdH 8 (fallsI R w):=by
 intro x hx
 unfold fallsI at hx
 rcases List.mem_append.mp hx with hx | hx
 · obtain ⟨y,hy,rfl⟩:=List.mem_map.mp hx
   have:=h.small y hy
   show (-y).natAbs<256
   omega
 · obtain ⟨y,hy,rfl⟩:=List.mem_map.mp hx
   show Int.natAbs _<256
   split<;>split<;>decide
theorem set_ok {R U:Int}{ws:List Way}(hB:BookH R U ws):SrOk (widthI R U) (setI R U ws):=by
 have r0:=hB.r0
 have r1:=hB.r1
 have p0:=hB.p0
 have p1:=hB.p1
 have hw:widthI R U≤18:=by unfold widthI;omega
 have ok:=settle_ok (w:=widthI R U) (b:=8) (rows:=ws.map (fallsI R)) (fun r hr=>by
  obtain ⟨w,hw,rfl⟩:=List.mem_map.mp hr
  exact ⟨falls_len r0 (hB.ways w hw) (by omega),falls_bd (hB.ways w hw)⟩) (Nat.le_refl _)
 exact ⟨fun k hk=>let ⟨a1,a2,a3,a4,a5⟩:=ok.kl k hk;⟨a2,a3,a4.mono (bit_18 (by decide) hw),a5⟩,ok.nd,settle_klen ok⟩
theorem sr_val {kvs:Sr}{j:Int}{p:Nat}(e:j=((p:Nat):Int)):(valD (srK kvs) (Sum.inl j)).isSome=decide (p∈kvs.map (·.1)):=by
 subst e
 induction kvs with
 | nil=>rfl
 | cons k kvs ih=>
  by_cases h:k.1=p
  · have:valD (srK (k::kvs)) (Sum.inl ((p:Nat):Int))=some (ringL k.2):=by
     unfold valD srK
     rw [List.map_cons,List.find?_cons,show decide ((Sum.inl ((k.1:Nat):Int):Key)=Sum.inl ((p:Nat):Int))=true by rw [h];exact decide_eq_true rfl]
     rfl
    rw [this,decide_eq_true (by rw [List.map_cons,h];exact List.mem_cons_self)]
    rfl
  · have:valD (srK (k::kvs)) (Sum.inl ((p:Nat):Int))=valD (srK kvs) (Sum.inl ((p:Nat):Int)):=by
     unfold valD srK
     rw [List.map_cons,List.find?_cons,show decide ((Sum.inl ((k.1:Nat):Int):Key)=Sum.inl ((p:Nat):Int))=false from decide_eq_false fun z=>h (by injection z with z;omega)]
    rw [this,ih,List.map_cons]
    refine decide_eq_decide.mpr ⟨fun z=>List.mem_cons_of_mem _ z,fun z=>?_⟩
    rcases List.mem_cons.mp z with z | z
    · exact absurd z.symm h
    · exact z
structure SumL (R U:Int) (wt ht:List Int):Prop where
 lw:(wt.length:Int)=U
 lh:(ht.length:Int)=R
noncomputable def gsFallS:GSp:=fun as n Q=>∃ (R U:Int) (ws:List Way) (wt ht:List Int) (k:Nat),as=[.d (bookPD R U ws),.d (smPD wt ht),.d (natD k)]∧BookOk R U ws∧SumL R U wt ht∧k<ws.length∧Q (.int (fallI ws wt ht (k:Int))) n
noncomputable instance:Scal gsFallS:=⟨fun {as n P} h=>by obtain ⟨a,b,c,d,e,f,h0,h1,h2,h3,q⟩:=h;exact ⟨a,b,c,d,e,f,h0,h1,h2,h3,rfl,q⟩⟩
noncomputable def sumsD (ss:List (List Int×List Int)):List PyData:=ss.map fun s=>smPD s.1 s.2
theorem held_sum {R U:Int}{ws:List Way}(hB:BookH R U ws):∀ s∈heldI R U ws,SumL R U s.1 s.2:=by
 intro s hs
 unfold heldI at hs
 obtain ⟨p,_,rfl⟩:=List.mem_map.mp hs
 have r0:=hB.r0
 have p0:=hB.p0
 have hl:=rowFromI_len (setI R U ws) p (widthI R U)
 have hw:widthI R U=(U+R).toNat:=rfl
 refine ⟨?_,?_⟩
 · show (((rowFromI (setI R U ws) p (widthI R U)).take U.toNat).length:Int)=U
   rw [List.length_take,hl];omega
 · show (((rowFromI (setI R U ws) p (widthI R U)).drop U.toNat).length:Int)=R
   rw [List.length_drop,hl];omega
theorem held_len {R U:Int}{ws:List Way}(hB:BookH R U ws):(heldI R U ws).length≤18:=by
 have r1:=hB.r1
 have p1:=hB.p1
 unfold heldI freeI
 rw [List.length_map]
 have:=List.length_filter_le (fun p=>decide (p∉(setI R U ws).map (·.1))) (List.range (widthI R U))
 rw [List.length_range] at this
 have hw:widthI R U=(U+R).toNat:=rfl
 omega
noncomputable abbrev Fn:=Nat→Int
noncomputable def fnR (r:List Int):Fn:=fun j=>r.getD j 0
inductive QS (rows:List (List Int)):Fn→Prop
 | zero:QS rows fun _=>0
 | row {r:List Int} (h:r∈rows):QS rows (fnR r)
 | add {f g:Fn} (a:QS rows f) (b:QS rows g):QS rows fun j=>f j+g j
 | smul {f:Fn} (a:Int) (h:QS rows f):QS rows fun j=>a*f j
 | div {f:Fn} {a:Int} (h0:a≠0) (h:QS rows fun j=>a*f j):QS rows f
section
variable {rows rows':List (List Int)}{f g:Fn}{p:Nat}
theorem QS.ext (h:QS rows f) (e:∀ j,f j=g j):QS rows g:=by rw [← funext e];exact h
theorem QS.sub (a:QS rows f) (b:QS rows g):QS rows fun j=>f j-g j:=(a.add (b.smul (-1))).ext fun j=>by omega
theorem QS.van (L:Fn→Int) (l0:L (fun _=>0)=0) (la:∀ f g,L (fun j=>f j+g j)=L f+L g) (lm:∀ a f,L (fun j=>a*f j)=a*L f) (hr:∀ r∈rows,L (fnR r)=0) (h:QS rows f):L f=0:=by
 induction h with
 | zero=>exact l0
 | row h=>exact hr _ h
 | add _ _ ih1 ih2=>rw [la,ih1,ih2];rfl
 | smul a _ ih=>rw [lm,ih,Int.mul_zero]
 | div h0 _ ih=>
  rw [lm] at ih
  rcases Int.mul_eq_zero.mp ih with z | z
  · exact absurd z h0
  · exact z
theorem QS.mono (hr:∀ r∈rows,QS rows' (fnR r)) (h:QS rows f):QS rows' f:=by
 induction h with
 | zero=>exact .zero
 | row h=>exact hr _ h
 | add _ _ ih1 ih2=>exact ih1.add ih2
 | smul a _ ih=>exact ih.smul a
 | div h0 _ ih=>exact .div h0 ih
noncomputable def Tf (by_:List Int) (p:Nat) (f:Fn):Fn:=fun j=>by_.getD p 0*f j-f p*by_.getD j 0
variable {by_ r:List Int}
theorem clr_T (hl:r.length=by_.length) (hb:by_.getD p 0≠0):∃ A B:Int,A≠0∧B≠0∧∀ j,A*Tf by_ p (fnR r) j=B*(clr by_ r p).getD j 0:=by
 obtain ⟨A,B,G,hG,hA,hAB,hj⟩:=clr_eq (p:=p) hl hb
 refine ⟨A,by_.getD p 0*G,hA,fun z=>(Int.mul_eq_zero.mp z).elim hb hG,fun j=>?_⟩
 have h1:=hj j
 unfold Tf fnR
 rw [Int.mul_assoc,Int.mul_comm G,h1,Int.mul_sub,Int.mul_sub]
 have h2:A*(r.getD p 0*by_.getD j 0)=by_.getD p 0*(B*by_.getD j 0):=by
  rw [← Int.mul_assoc,hAB,Int.mul_comm B,Int.mul_assoc]
 rw [h2,← Int.mul_assoc,Int.mul_comm A,Int.mul_assoc]
theorem T_clr (hl:r.length=by_.length) (hb:by_.getD p 0≠0) (h:QS rows (Tf by_ p (fnR r))):QS rows (fnR (clr by_ r p)):=by
 obtain ⟨A,B,hA,hB,hj⟩:=clr_T hl hb
 exact .div hB ((h.smul A).ext hj)
theorem clr_T' (hl:r.length=by_.length) (hb:by_.getD p 0≠0) (h:QS rows (fnR (clr by_ r p))):QS rows (Tf by_ p (fnR r)):=by
 obtain ⟨A,B,hA,hB,hj⟩:=clr_T hl hb
 exact .div hA ((h.smul B).ext fun j=>(hj j).symm)
theorem T_back (hb:by_.getD p 0≠0) (h1:QS rows (Tf by_ p f)) (h2:QS rows (fnR by_)):QS rows f:=by
 refine .div hb ((h1.add (h2.smul (f p))).ext fun j=>?_)
 unfold Tf fnR
 omega
end
noncomputable def sF:Nat→Fn→Int
 | 0,_=>0
 | n+1,f=>sF n f+f n
theorem sF_zero:∀ {n:Nat},sF n (fun _=>0)=0
 | 0=>rfl
 | n+1=>by show sF n (fun _=>0)+0=0;rw [sF_zero];rfl
theorem sF_ext {f g:Fn}:∀ {n:Nat},(∀ j,j<n→f j=g j)→sF n f=sF n g
 | 0,_=>rfl
 | n+1,h=>by show sF n f+f n=sF n g+g n;rw [sF_ext fun j hj=>h j (by omega),h n (by omega)]
theorem sF_add {f g:Fn}:∀ {n:Nat},sF n (fun j=>f j+g j)=sF n f+sF n g
 | 0=>rfl
 | n+1=>by show sF n (fun j=>f j+g j)+(f n+g n)=sF n f+f n+(sF n g+g n);rw [sF_add];omega
theorem sF_mul {a:Int}{f:Fn}:∀ {n:Nat},sF n (fun j=>a*f j)=a*sF n f
 | 0=>(Int.mul_zero a).symm
 | n+1=>by show sF n _+_=a*(sF n f+f n);rw [sF_mul,Int.mul_add]
theorem sF_one {k:Nat}{x:Int}:∀ {n:Nat},sF n (fun j=>if k=j then x else 0)=if k<n then x else 0
 | 0=>by rw [if_neg (by omega)];rfl
 | n+1=>by
  show sF n _+(if k=n then x else 0)=_
  rw [sF_one]
  by_cases h1:k<n
  · rw [if_pos h1,if_neg (by omega),if_pos (by omega),Int.add_zero]
  · by_cases h2:k=n
    · rw [if_neg h1,if_pos h2,if_pos (by omega),Int.zero_add]
    · rw [if_neg h1,if_neg h2,if_neg (by omega)];rfl
theorem sF_app {f:Fn}{m:Nat}:∀ {n:Nat},sF (m+n) f=sF m f+sF n fun j=>f (m+j)
 | 0=>by show sF m f=sF m f+0;omega
 | n+1=>by show sF (m+n) f+f (m+n)=sF m f+(sF n _+f (m+n));rw [sF_app];omega
noncomputable def wF (w:Nat) (v:List Int) (f:Fn):Int:=sF w fun j=>f j*v.getD j 0
theorem wF_van {w:Nat}{v:List Int}{rows:List (List Int)}{f:Fn}(hr:∀ r∈rows,wF w v (fnR r)=0) (h:QS rows f):wF w v f=0:=by
 refine QS.van (wF w v) ?_ (fun f g=>?_) (fun a f=>?_) hr h
 · show sF w (fun j=>0*v.getD j 0)=0
   exact (sF_ext fun j _=>Int.zero_mul _).trans sF_zero
 · unfold wF
   rw [← sF_add]
   exact sF_ext fun j _=>Int.add_mul _ _ _
 · unfold wF
   rw [← sF_mul]
   exact sF_ext fun j _=>Int.mul_assoc _ _ _
theorem wF_set {w k:Nat}{v:List Int}{f:Fn}{x:Int}(hw:v.length=w) (hk:k<w):wF w (v.set k x) f=wF w v f+f k*(x-v.getD k 0):=by
 have:wF w (v.set k x) f=sF w fun j=>f j*v.getD j 0+(if k=j then f k*(x-v.getD k 0) else 0):=by
  refine sF_ext fun j hj=>?_
  rw [getD_set (by omega)]
  by_cases h:k=j
  · subst h
    rw [if_pos rfl,if_pos rfl,Int.mul_sub];omega
  · rw [if_neg h,if_neg h,Int.add_zero]
 rw [this,sF_add,sF_one,if_pos hk]
 rfl
theorem wF_repl {w:Nat}{f:Fn}:wF w (List.replicate w 0) f=0:=by
 refine Eq.trans (sF_ext fun j hj=>?_) sF_zero
 rw [List.getD_eq_getElem?_getD,List.getElem?_replicate,if_pos hj]
 exact Int.mul_zero _
theorem wF_scale {w:Nat}{u v:List Int}{f:Fn}{a:Int}(h:∀ j,u.getD j 0*a=v.getD j 0):wF w u f*a=wF w v f:=by
 unfold wF
 rw [Int.mul_comm,← sF_mul]
 refine sF_ext fun j _=>?_
 rw [← h j,← Int.mul_assoc (f j),Int.mul_comm a]
structure StFull (w m:Nat) (rows:List (List Int)) (st:List (List Int)×Sr):Prop where
 z:∀ r∈st.1,∀ q,m≤q→r.getD q 0=0
 o:∀ k∈st.2,∀ l∈st.2,k.1≠l.1→k.2.getD l.1 0=0
 s:∀ r∈rows,QS (st.1++st.2.map (·.2)) (fnR r)
theorem full_step {w p b:Nat}{rows:List (List Int)}{st:List (List Int)×Sr}(ok:StHk w (p+1) b st) (hp:p<w) (h:StFull w (p+1) rows st):StFull w p rows (setStep p st):=by
 cases hf:st.1.filter (fun r=>decide (r.getD p 0≠0)) with
 | nil=>
  have e1:setStep p st=st:=by unfold setStep;rw [hf]
  rw [e1]
  refine ⟨fun r hr q hq=>?_,h.o,h.s⟩
  by_cases c:q=p
  · subst c
    by_cases c:r.getD q 0=0
    · exact c
    · have:r∈st.1.filter (fun r=>decide (r.getD q 0≠0)):=List.mem_filter.mpr ⟨hr,decide_eq_true c⟩
      rw [hf] at this;cases this
  · exact h.z r hr q (by omega)
 | cons by_ rest=>
  have hm:by_∈st.1.filter (fun r=>decide (r.getD p 0≠0)):=by rw [hf];exact List.mem_cons_self
  obtain ⟨hb,hp0⟩:=List.mem_filter.mp hm
  have hp0:by_.getD p 0≠0:=of_decide_eq_true hp0
  have bl:=(ok.len by_ hb).1
  have e1:setStep p st=((st.1.filter fun r=>decide (r≠by_)).map (fun r=>clr by_ r p),(st.2.map fun k=>(k.1,clr by_ k.2 p))++[(p,by_)]):=by unfold setStep;rw [hf]
  rw [e1]
  -- cleared rows: nought where both are,and at p
  have fin:∀ (r:List Int),r.length=w→∀ q,(r.getD q 0=0∧by_.getD q 0=0)∨q=p→(clr by_ r p).getD q 0=0:=fun r hl q hq=>by
   obtain ⟨A,B,G,hG,hA,hAB,hj⟩:=clr_eq (p:=p) (row:=r) (by_:=by_) (by omega) hp0
   have:=hj q
   have z:A*r.getD q 0-B*by_.getD q 0=0:=by
    rcases hq with ⟨h1,h2⟩ | rfl
    · rw [h1,h2,Int.mul_zero,Int.mul_zero];rfl
    · rw [hAB,Int.sub_self]
   rw [z] at this
   rcases Int.mul_eq_zero.mp this with c | c
   · exact c
   · exact absurd c hG
  refine ⟨fun r hr q hq=>?_,fun k hk l hl hn=>?_,fun r hr=>?_⟩
  · obtain ⟨r0,hr0,rfl⟩:=List.mem_map.mp hr
    obtain ⟨hr1,_⟩:=List.mem_filter.mp hr0
    refine fin r0 (ok.len r0 hr1).1 q ?_
    by_cases c:q=p
    · exact .inr c
    · exact .inl ⟨h.z r0 hr1 q (by omega),h.z by_ hb q (by omega)⟩
  · rcases List.mem_append.mp hk with hk | hk
    · obtain ⟨k0,hk0,rfl⟩:=List.mem_map.mp hk
      have kw:=(ok.kl k0 hk0).2.2.1
      rcases List.mem_append.mp hl with hl | hl
      · obtain ⟨l0,hl0,rfl⟩:=List.mem_map.mp hl
        exact fin k0.2 kw l0.1 (.inl ⟨h.o k0 hk0 l0 hl0 hn,h.z by_ hb l0.1 (ok.kl l0 hl0).1⟩)
      · have:l.1=p:=by rw [List.mem_singleton.mp hl]
        rw [this]
        exact fin k0.2 kw p (.inr rfl)
    · have e:k=(p,by_):=List.mem_singleton.mp hk
      subst e
      rcases List.mem_append.mp hl with hl | hl
      · obtain ⟨l0,hl0,rfl⟩:=List.mem_map.mp hl
        exact h.z by_ hb l0.1 (ok.kl l0 hl0).1
      · exact absurd (by rw [List.mem_singleton.mp hl]) hn
  · refine QS.mono (fun x hx=>?_) (h.s r hr)
    have hby:QS ((st.1.filter fun r=>decide (r≠by_)).map (fun r=>clr by_ r p)++((st.2.map fun k=>(k.1,clr by_ k.2 p))++[(p,by_)]).map (·.2)) (fnR by_):=.row (List.mem_append_right _ (by rw [List.map_append];exact List.mem_append_right _ (List.mem_singleton.mpr rfl)))
    rcases List.mem_append.mp hx with hx | hx
    · by_cases c:x=by_
      · rw [c];exact hby
      · refine T_back hp0 (clr_T' (by rw [(ok.len x hx).1,bl]) hp0 (.row (List.mem_append_left _ ?_))) hby
        exact List.mem_map.mpr ⟨x,List.mem_filter.mpr ⟨hx,decide_eq_true c⟩,rfl⟩
    · obtain ⟨k,hk,rfl⟩:=List.mem_map.mp hx
      refine T_back hp0 (clr_T' (by rw [(ok.kl k hk).2.2.1,bl]) hp0 (.row (List.mem_append_right _ ?_))) hby
      rw [List.map_append,List.map_map]
      exact List.mem_append_left _ (List.mem_map.mpr ⟨k,hk,rfl⟩)
theorem settle_full {w b:Nat}{rows:List (List Int)}(h:∀ r∈rows,r.length=w∧BdH b r):∀ {i:Nat},i≤w→StFull w (w-i) rows (settleTo w rows i)
 | 0,_=>by
  refine ⟨fun r hr q hq=>?_,fun k hk=>(by cases hk),fun r hr=>.row (List.mem_append_left _ hr)⟩
  rw [List.getD_eq_getElem?_getD,List.getElem?_eq_none (by rw [(h r hr).1];omega)]
  rfl
 | i+1,hi=>by
  have ok:=settle_ok h (i:=i) (by omega)
  have ih:=settle_full h (i:=i) (by omega)
  rw [show w-i=(w-1-i)+1 by omega] at ih ok
  have:=full_step ok (by omega) ih
  rw [show w-(i+1)=w-1-i by omega]
  exact this
theorem settle_van {w b:Nat}{rows:List (List Int)}{v:List Int}(h:∀ r∈rows,r.length=w∧BdH b r) (hv:∀ k∈settleI w rows,wF w v (fnR k.2)=0):∀ r∈rows,wF w v (fnR r)=0:=by
 intro r hr
 have f:=settle_full h (Nat.le_refl w)
 refine wF_van (fun x hx=>?_) (f.s r hr)
 rcases List.mem_append.mp hx with hx | hx
 · have z:=f.z x hx
   refine Eq.trans (sF_ext fun j _=>?_) (sF_zero (n:=w))
   show x.getD j 0*_=0
   rw [z j (by omega),Int.zero_mul]
 · obtain ⟨k,hk,rfl⟩:=List.mem_map.mp hx
   exact hv k hk
theorem wF_told {w p:Nat}{z:Int}{f:Fn}:∀ {kvs:Sr}{t:List Int},t.length=w→(∀ k∈kvs,k.1<w)→(∀ k∈kvs,t.getD k.1 0=0)→(kvs.map (·.1)).Nodup→wF w (toldI kvs z p t) f=wF w t f+(kvs.map fun k=>f k.1*(-z*k.2.getD p 0).fdiv (k.2.getD k.1 0)).sum
 | [],t,_,_,_,_=>by show wF w t f=wF w t f+0;omega
 | k::kvs,t,hl,hk,hz,nd=>by
  have nd':=List.nodup_cons.mp nd
  show wF w (toldI kvs z p (t.set k.1 _)) f=_
  rw [wF_told (by rw [List.length_set];exact hl) (fun x hx=>hk x (List.mem_cons_of_mem _ hx)) (fun x hx=>?_) nd'.2,wF_set hl (hk k List.mem_cons_self),hz k List.mem_cons_self,Int.sub_zero,List.map_cons,List.sum_cons]
  · omega
  · rw [getD_set (by rw [hl];exact hk k List.mem_cons_self),if_neg (fun e=>nd'.1 (List.mem_map.mpr ⟨x,hx,e.symm⟩))]
    exact hz x (List.mem_cons_of_mem _ hx)
theorem sum_oneH {kvs:Sr}{g:Nat×List Int→Int}{k:Nat×List Int}(hk:k∈kvs) (nd:(kvs.map (·.1)).Nodup) (hz:∀ l∈kvs,l.1≠k.1→g l=0):(kvs.map g).sum=g k:=by
 induction kvs with
 | nil=>cases hk
 | cons x kvs ih=>
  have nd':=List.nodup_cons.mp nd
  rw [List.map_cons,List.sum_cons]
  rcases List.mem_cons.mp hk with rfl | hk
  · have:∀ (l:Sr),(∀ y∈l,g y=0)→(l.map g).sum=0:=by
     intro l
     induction l with
     | nil=>exact fun _=>rfl
     | cons y l ih=>exact fun h=>by rw [List.map_cons,List.sum_cons,h y List.mem_cons_self,ih fun z hz=>h z (List.mem_cons_of_mem _ hz)];rfl
    rw [this kvs fun y hy=>hz y (List.mem_cons_of_mem _ hy) fun e=>nd'.1 (List.mem_map.mpr ⟨y,hy,e⟩),Int.add_zero]
  · rw [ih hk nd'.2 fun l hl=>hz l (List.mem_cons_of_mem _ hl),hz x List.mem_cons_self fun e=>nd'.1 (List.mem_map.mpr ⟨k,hk,e.symm⟩),Int.zero_add]
theorem scale_dvd {kvs:Sr}{k:Nat×List Int}(h:k∈kvs):k.2.getD k.1 0 ∣ scaleI kvs:=by
 unfold scaleI
 have:∀ (l:Sr) (z:Int),(z ∣ l.foldl (fun z k=>z*k.2.getD k.1 0) z)∧∀ k∈l,k.2.getD k.1 0 ∣ l.foldl (fun z k=>z*k.2.getD k.1 0) z:=by
  intro l
  induction l with
  | nil=>exact fun z=>⟨Int.dvd_refl _,fun k hk=>(by cases hk)⟩
  | cons y l ih=>
   intro z
   obtain ⟨h1,h2⟩:=ih (z*y.2.getD y.1 0)
   refine ⟨Int.dvd_trans (Int.dvd_mul_right _ _) h1,fun k hk=>?_⟩
   rcases List.mem_cons.mp hk with rfl | hk
   · exact Int.dvd_trans (Int.dvd_mul_left _ _) h1
   · exact h2 k hk
 exact (this kvs 1).2 k h
theorem told_van {w p:Nat}{kvs:Sr}(ok:SrOk w kvs) (ho:∀ k∈kvs,∀ l∈kvs,k.1≠l.1→k.2.getD l.1 0=0) (hp:p<w) (hn:p∉kvs.map (·.1)):∀ k∈kvs,wF w (told0 kvs p w) (fnR k.2)=0:=by
 intro k hk
 unfold told0
 rw [wF_told (by rw [List.length_set,List.length_replicate]) (fun x hx=>(ok.kl x hx).1) (fun x hx=>?_) ok.nd,wF_set (by rw [List.length_replicate]) hp,wF_repl]
 · have e:(List.replicate w (0:Int)).getD p 0=0:=by rw [List.getD_eq_getElem?_getD,List.getElem?_replicate,if_pos hp];rfl
   rw [e,sum_oneH (g:=fun l=>fnR k.2 l.1*(-scaleI kvs*l.2.getD p 0).fdiv (l.2.getD l.1 0)) hk ok.nd (fun l hl hne=>?_)]
   · show 0+k.2.getD p 0*(scaleI kvs-0)+k.2.getD k.1 0*(-scaleI kvs*k.2.getD p 0).fdiv (k.2.getD k.1 0)=0
     have hd:k.2.getD k.1 0 ∣ -scaleI kvs*k.2.getD p 0:=Int.dvd_trans (Int.dvd_neg.mpr (scale_dvd hk)) (Int.dvd_mul_right _ _)
     rw [Int.mul_fdiv_cancel' hd,Int.neg_mul,Int.mul_comm (scaleI kvs),Int.sub_zero]
     omega
   · show k.2.getD l.1 0*_=0
     rw [ho k hk l hl (fun e=>hne e.symm),Int.zero_mul]
 · rw [getD_set (by rw [List.length_replicate];exact hp),if_neg (fun e=>hn (by rw [e];exact List.mem_map.mpr ⟨x,hx,rfl⟩)),List.getD_eq_getElem?_getD,List.getElem?_replicate,if_pos (ok.kl x hx).1]
   rfl
theorem from_van {w p:Nat}{kvs:Sr}(ok:SrOk w kvs) (ho:∀ k∈kvs,∀ l∈kvs,k.1≠l.1→k.2.getD l.1 0=0) (hp:p<w) (hn:p∉kvs.map (·.1)):∀ k∈kvs,wF w (rowFromI kvs p w) (fnR k.2)=0:=by
 intro k hk
 have h1:=told_van ok ho hp hn k hk
 have g0:=told0_gcd ok hp hn
 have h2:wF w (redI (told0 kvs p w)) (fnR k.2)=0:=by
  have:=wF_scale (w:=w) (f:=fnR k.2) (red_get (told0 kvs p w))
  rw [h1] at this
  rcases Int.mul_eq_zero.mp this with c | c
  · exact c
  · omega
 unfold rowFromI
 split
 · exact h2
 · have e:wF w ((redI (told0 kvs p w)).map fun x=>-x) (fnR k.2) = - wF w (redI (told0 kvs p w)) (fnR k.2):=by
    unfold wF
    rw [← Int.neg_one_mul,← sF_mul]
    refine sF_ext fun j _=>?_
    have:((redI (told0 kvs p w)).map fun x=>-x).getD j 0 = - (redI (told0 kvs p w)).getD j 0:=by
     rw [List.getD_eq_getElem?_getD,List.getD_eq_getElem?_getD,List.getElem?_map]
     cases (redI (told0 kvs p w))[j]? <;> simp
    rw [this,Int.mul_neg,Int.neg_one_mul]
   rw [e,h2]
   rfl
theorem dot_sF (xs ys:List Int):∀ n:Nat,dotI xs ys n=sF n fun j=>xs.getD j 0*ys.getD j 0
 | 0=>rfl
 | n+1=>by rw [dotI_succ,dot_sF xs ys n];rfl
theorem getD_app1 {xs ys:List Int}{j:Nat}(h:j<xs.length):(xs++ys).getD j 0=xs.getD j 0:=by
 rw [List.getD_eq_getElem?_getD,List.getD_eq_getElem?_getD,List.getElem?_append_left h]
theorem getD_app2 {xs ys:List Int}{j m:Nat}(h:xs.length=m):(xs++ys).getD (m+j) 0=ys.getD j 0:=by
 rw [List.getD_eq_getElem?_getD,List.getD_eq_getElem?_getD,List.getElem?_append_right (by omega)]
 congr 2;omega
theorem getD_neg {xs:List Int}{j:Nat}:(xs.map fun x=>-x).getD j 0 = -(xs.getD j 0):=by
 rw [List.getD_eq_getElem?_getD,List.getD_eq_getElem?_getD,List.getElem?_map]
 cases xs[j]? <;> simp
theorem falls_g {R U:Int}{w:Way}(h:WayOk R U w) {j:Nat}(hj:j<U.toNat):(fallsI R w).getD j 0 = -(w.g.getD j 0):=by
 have:=h.len
 unfold fallsI
 rw [getD_app1 (by rw [List.length_map];omega),getD_neg]
theorem falls_r {R U:Int}{w:Way}(h:WayOk R U w) {r:Nat}(hr:r<R.toNat):(fallsI R w).getD (U.toNat+r) 0=(if ((r:Nat):Int)=w.a then 1 else 0)-(if ((r:Nat):Int)=w.b then 1 else 0):=by
 have:=h.len
 unfold fallsI
 rw [getD_app2 (by rw [List.length_map];omega),List.getD_eq_getElem?_getD,List.getElem?_map,List.getElem?_range hr]
 rfl
theorem fall_wF {R U:Int}{w:Way}{v:List Int}(hR:1≤R) (hU:0≤U) (h:WayOk R U w) (hv:v.length=widthI R U):wF (widthI R U) v (fnR (fallsI R w))=(v.drop U.toNat).getD w.a.toNat 0-(v.drop U.toNat).getD w.b.toNat 0-dotI (v.take U.toNat) w.g U.toNat:=by
 have a0:=h.a0
 have a1:=h.a1
 have b0:=h.b0
 have b1:=h.b1
 have ew:widthI R U=U.toNat+R.toNat:=by unfold widthI;omega
 have hd:∀ r:Nat,(v.drop U.toNat).getD r 0=v.getD (U.toNat+r) 0:=fun r=>by
  rw [List.getD_eq_getElem?_getD,List.getD_eq_getElem?_getD,List.getElem?_drop]
 unfold wF
 rw [ew,sF_app,dot_sF]
 have e1:sF U.toNat (fun j=>fnR (fallsI R w) j*v.getD j 0) = -1*sF U.toNat fun j=>(v.take U.toNat).getD j 0*w.g.getD j 0:=by
  rw [← sF_mul]
  refine sF_ext fun j hj=>?_
  have:(v.take U.toNat).getD j 0=v.getD j 0:=by
   rw [List.getD_eq_getElem?_getD,List.getD_eq_getElem?_getD,List.getElem?_take,if_pos hj]
  show (fallsI R w).getD j 0*v.getD j 0=_
  rw [falls_g h hj,this,Int.neg_mul,Int.mul_comm (w.g.getD j 0),Int.neg_one_mul]
 have e2:sF R.toNat (fun r=>fnR (fallsI R w) (U.toNat+r)*v.getD (U.toNat+r) 0)=sF R.toNat fun r=>(if w.a.toNat=r then v.getD (U.toNat+w.a.toNat) 0 else 0) + -1*(if w.b.toNat=r then v.getD (U.toNat+w.b.toNat) 0 else 0):=by
  refine sF_ext fun r hr=>?_
  show (fallsI R w).getD (U.toNat+r) 0*_=_
  rw [falls_r h hr,Int.sub_mul]
  have c1:∀ (z:Int),0≤z→((if ((r:Nat):Int)=z then (1:Int) else 0)*v.getD (U.toNat+r) 0)=(if z.toNat=r then v.getD (U.toNat+z.toNat) 0 else 0):=fun z hz=>by
   by_cases c:((r:Nat):Int)=z
   · have:z.toNat=r:=by omega
     rw [if_pos c,if_pos this,this,Int.one_mul]
   · have:¬ z.toNat=r:=by omega
     rw [if_neg c,if_neg this,Int.zero_mul]
  rw [c1 _ a0,c1 _ b0,Int.neg_one_mul]
  omega
 rw [e1,e2,sF_add,sF_one,sF_mul,sF_one,if_pos (by omega),if_pos (by omega),hd,hd,Int.neg_one_mul,Int.neg_one_mul]
 omega
theorem rows_okH {R U:Int}{ws:List Way}(hB:BookH R U ws):∀ r∈ws.map (fallsI R),r.length=widthI R U∧BdH 8 r:=fun r hr=>by
 have r0:=hB.r0
 have p0:=hB.p0
 obtain ⟨w,hw,rfl⟩:=List.mem_map.mp hr
 exact ⟨falls_len r0 (hB.ways w hw) (by omega),falls_bd (hB.ways w hw)⟩
theorem held_all {R U:Int}{ws:List Way}(hB:BookH R U ws) {s:List Int×List Int}(hs:s∈heldI R U ws):∀ w∈ws,s.2.getD w.a.toNat 0-s.2.getD w.b.toNat 0-dotI s.1 w.g U.toNat=0:=by
 intro w hw
 have r0:=hB.r0
 have p0:=hB.p0
 unfold heldI at hs
 obtain ⟨p,hp,rfl⟩:=List.mem_map.mp hs
 unfold freeI at hp
 obtain ⟨hp1,hp2⟩:=List.mem_filter.mp hp
 have hp1:=List.mem_range.mp hp1
 have hp2:p∉(setI R U ws).map (·.1):=of_decide_eq_true hp2
 have f:=settle_full (rows_okH hB) (Nat.le_refl _)
 have v:=from_van (set_ok hB) f.o hp1 hp2
 have:=settle_van (rows_okH hB) v (fallsI R w) (List.mem_map.mpr ⟨w,hw,rfl⟩)
 rw [fall_wF r0 (by omega) (hB.ways w hw) (rowFromI_len _ _ _)] at this
 exact this
theorem held_fall {R U:Int}{ws:List Way}(hB:BookH R U ws) {s:List Int×List Int}(hs:s∈heldI R U ws) {k:Int}(h0:0≤k) (h1:k<ws.length):fallI ws s.1 s.2 k=0:=by
 have:=held_all hB hs _ (wayAt_mem' h0 h1)
 have sl:=(held_sum hB s hs).lw
 unfold fallI
 rw [show s.1.length=U.toNat by omega]
 exact this
section
variable {ws:List Way}{s0:St'}
end
end My
namespace L2
open PySem PySem.Spec PyProof.Rows My
section
variable {X:Cx}{pins:List (Addr×Obj)}{σ:St}{H H1:Hp}{s s1:Shared}
end
end L2
namespace My
open PySem PySem.Spec PyProof.Rows L2
end My
namespace L2
open PySem PySem.Spec PyProof.Rows PySem.SeqAt
open AutoSeq1 (wpAny_loadPart')
section
variable {prog:Program}{w:World}{A:Around}{E:Value→Shared→Prop}{s:Shared}
end
section
variable {prog:Program}{w:World}{A:Around}{E:Value→Shared→Prop}{s:Shared}{R:Result→Shared→Prop}
end
section
variable {X:Cx}
end
end L2
namespace My
open PySem PySem.Spec PyProof.Rows L2
theorem nd_sub_len {α:Type} [DecidableEq α]:∀ {L V:List α},L.Nodup→(∀ x∈L,x∈V)→L.length≤V.length
 | [],_,_,_=>Nat.zero_le _
 | x::L,V,nd,hs=>by
  obtain ⟨h1,h2⟩:=List.nodup_cons.mp nd
  have hx:=hs x List.mem_cons_self
  have:=nd_sub_len (V:=V.erase x) h2 fun y hy=>(List.mem_erase_of_ne (fun e=>h1 (by rw [← e];exact hy))).mpr (hs y (List.mem_cons_of_mem _ hy))
  rw [List.length_erase_of_mem hx] at this
  have:=List.length_pos_of_mem hx
  rw [List.length_cons]
  omega
theorem nd_sup {α:Type} [DecidableEq α]:∀ {L V:List α},L.Nodup→(∀ x∈L,x∈V)→V.length≤L.length→V.Nodup
 | [],V,_,_,h=>by
  rw [List.length_eq_zero_iff.mp (Nat.le_zero.mp h)]
  exact List.nodup_nil
 | x::L,V,nd,hs,h=>by
  obtain ⟨h1,h2⟩:=List.nodup_cons.mp nd
  have hx:=hs x List.mem_cons_self
  have sub:∀ y∈L,y∈V.erase x:=fun y hy=>(List.mem_erase_of_ne (fun e=>h1 (by rw [← e];exact hy))).mpr (hs y (List.mem_cons_of_mem _ hy))
  have le:=List.length_erase_of_mem hx
  rw [List.length_cons] at h
  have ih:=nd_sup h2 sub (by omega)
  rw [(List.perm_cons_erase hx).nodup_iff,List.nodup_cons]
  refine ⟨fun hin=>?_,ih⟩
  have:=nd_sub_len (L:=x::L) (V:=V.erase x) nd fun y hy=>by
   rcases List.mem_cons.mp hy with rfl | hy
   · exact hin
   · exact sub y hy
  have:=List.length_pos_of_mem hx
  rw [List.length_cons] at *
  omega
section
variable {ws:List Way}{s0:St'}
end
end My
namespace L2
open PySem PySem.Spec PyProof.Rows
section
variable {X:Cx}{y:Str}{p' pos apos:Pos}
end
end L2
namespace My
open PySem PySem.Spec PyProof.Rows L2
section
variable {ws:List Way}{s0:St'}
end
end My
namespace L2
open PySem PySem.Spec PyProof.Rows
noncomputable def AscA (xs:Array Nat):Prop:=xs.toList.Pairwise (· < ·)
theorem asc_get {xs:Array Nat}(h:AscA xs) {i k:Nat}(hi:i<k) (hk:k<xs.size):xs[i]<xs[k]:=by
 have:=List.pairwise_iff_getElem.mp h i k (by rw [Array.length_toList];omega) (by rw [Array.length_toList];omega) hi
 rw [Array.getElem_toList,Array.getElem_toList] at this
 exact this
theorem below_go {xs:Array Nat}{j:Nat}(h:AscA xs):∀ (fuel lo hi:Nat),hi-lo≤fuel→lo≤hi→hi≤xs.size→(∀ i (hi:i<xs.size),i<lo→xs[i]<j)→(∀ i (hx:i<xs.size),hi≤i→¬ xs[i]<j) →
 SetTable.below.go xs j fuel lo hi≤xs.size∧(∀ i (hx:i<xs.size),i<SetTable.below.go xs j fuel lo hi→xs[i]<j)∧∀ i (hx:i<xs.size),SetTable.below.go xs j fuel lo hi≤i→¬ xs[i]<j
 | 0,lo,hi,hf,hle,hs,h1,h2=>by
  rw [SetTable.below.go]
  have:lo=hi:=by omega
  subst this
  exact ⟨hs,h1,h2⟩
 | fuel+1,lo,hi,hf,hle,hs,h1,h2=>by
  rw [SetTable.below.go]
  by_cases c:lo<hi
  · rw [if_pos c]
    have hm:(lo+hi)/2<xs.size:=by omega
    have hg:xs.getD ((lo+hi)/2) j=xs[(lo+hi)/2]:=by rw [Array.getD_eq_getD_getElem?,Array.getElem?_eq_getElem hm];rfl
    show (if xs.getD ((lo+hi)/2) j<j then SetTable.below.go xs j fuel ((lo+hi)/2+1) hi else SetTable.below.go xs j fuel lo ((lo+hi)/2))≤xs.size∧_
    simp only [hg]
    by_cases d:xs[(lo+hi)/2]<j
    · rw [if_pos d]
      refine below_go h fuel _ _ (by omega) (by omega) hs (fun i hx hii=>?_) h2
      rcases Nat.lt_or_ge i ((lo+hi)/2) with z | z
      · exact Nat.lt_trans (asc_get h z hm) d
      · have:i=(lo+hi)/2:=by omega
        subst this
        exact d
    · rw [if_neg d]
      refine below_go h fuel _ _ (by omega) (by omega) (by omega) h1 (fun i hx hii=>?_)
      rcases Nat.lt_or_ge ((lo+hi)/2) i with z | z
      · have:=asc_get h z hx
        omega
      · have:i=(lo+hi)/2:=by omega
        subst this
        exact d
  · rw [if_neg c]
    have:lo=hi:=by omega
    subst this
    exact ⟨hs,h1,h2⟩
theorem below_spec {xs:Array Nat}(h:AscA xs) (j:Nat):SetTable.below xs j≤xs.size∧(∀ i (hx:i<xs.size),i<SetTable.below xs j→xs[i]<j)∧∀ i (hx:i<xs.size),SetTable.below xs j≤i→¬ xs[i]<j:=
 below_go h xs.size 0 xs.size (Nat.le_refl _) (Nat.zero_le _) (Nat.le_refl _) (fun i _ hi=>absurd hi (Nat.not_lt_zero _)) (fun i hx hi=>absurd hx (Nat.not_lt.mpr hi))
theorem below_next {xs:Array Nat}(h:AscA xs) {i:Nat}(hi:i<xs.size):SetTable.below xs (xs[i]+1)=i+1:=by
 obtain ⟨h1,h2,h3⟩:=below_spec h (xs[i]+1)
 rcases Nat.lt_trichotomy (SetTable.below xs (xs[i]+1)) (i+1) with z | z | z
 · exact absurd (Nat.lt_succ_self _) (h3 i hi (by omega))
 · exact z
 · have:=h2 (i+1) (by omega) z
   have:=asc_get h (i:=i) (k:=i+1) (by omega) (by omega)
   omega
theorem below_zero {xs:Array Nat}(h:AscA xs):SetTable.below xs 0=0:=by
 obtain ⟨h1,h2,h3⟩:=below_spec h 0
 rcases Nat.eq_zero_or_pos (SetTable.below xs 0) with z | z
 · exact z
 · exact absurd (h2 0 (by omega) z) (Nat.not_lt_zero _)
theorem ins_list {α:Type}(xs:Array α) {p:Nat}(hp:p≤xs.size) (x:α):(SetTable.insertAt xs p x).toList=xs.toList.take p++x::xs.toList.drop p:=by
 unfold SetTable.insertAt
 rw [Array.toList_append,Array.toList_push,Array.toList_extract,Array.toList_extract,List.append_assoc]
 simp only [List.extract_eq_take_drop,List.drop_zero,Nat.sub_zero,List.singleton_append]
 rw [List.take_of_length_le (l:=xs.toList.drop p) (by rw [List.length_drop,Array.length_toList];exact Nat.le_refl _)]
theorem asc_put {xs:Array Nat}(h:AscA xs) {j:Nat}(hj:xs[SetTable.below xs j]?≠some j):AscA (SetTable.insertAt xs (SetTable.below xs j) j):=by
 obtain ⟨h1,h2,h3⟩:=below_spec h j
 unfold AscA
 rw [ins_list xs h1]
 have lo:∀ y∈xs.toList.take (SetTable.below xs j),y<j:=fun y hy=>by
  obtain ⟨i,hi,e⟩:=List.mem_take_iff_getElem.mp hy
  rw [← e,Array.getElem_toList]
  exact h2 i (by omega) (by omega)
 have hi:∀ y∈xs.toList.drop (SetTable.below xs j),j<y:=fun y hy=>by
  obtain ⟨i,hi,e⟩:=List.mem_drop_iff_getElem.mp hy
  rw [Array.length_toList] at hi
  rw [Array.getElem_toList] at e
  have n1:=h3 (SetTable.below xs j) (by omega) (Nat.le_refl _)
  have n2:xs[SetTable.below xs j]'(by omega)≠j:=fun z=>hj (by rw [Array.getElem?_eq_getElem (by omega),z])
  rcases Nat.eq_zero_or_pos i with rfl | z
  · simp at e
    omega
  · have:=asc_get h (i:=SetTable.below xs j) (k:=SetTable.below xs j+i) (by omega) (by omega)
    omega
 refine List.pairwise_append.mpr ⟨(List.Pairwise.sublist (List.take_sublist _ _) h),List.pairwise_cons.mpr ⟨hi,List.Pairwise.sublist (List.drop_sublist _ _) h⟩,fun a ha b hb=>?_⟩
 have:=lo a ha
 rcases List.mem_cons.mp hb with rfl | hb
 · exact this
 · exact Nat.lt_trans this (hi b hb)
noncomputable abbrev NotLive (t:SetTable) (j:Nat):Prop:=t.place[SetTable.below t.place j]?≠some j
theorem slot_not {t:SetTable}{j:Nat}(h:∀ i,t.slot j≠.live i):NotLive t j:=fun e=>by
 refine h (SetTable.below t.place j) ?_
 unfold SetTable.slot
 rw [if_pos (by rw [e];exact beq_self_eq_true _)]
theorem adv_dummy (t:SetTable) (p:SetTable.Probe):(t.advance p).dummy=p.dummy:=by
 unfold SetTable.advance
 split<;>rfl
theorem probe_go {t:SetTable}{ha:Nat→Int}{h:Int}:∀ (fuel:Nat) (p:SetTable.Probe),(∀ d,p.dummy=some d→NotLive t d)→∀ j dm,SetTable.probe.go t ha h fuel p=some (.empty j dm)→NotLive t (dm.getD j)
 | 0,p,_,j,dm,e=>by rw [SetTable.probe.go] at e;cases e
 | fuel+1,p,hd,j,dm,e=>by
  rw [SetTable.probe.go] at e
  split at e
  · rename_i hs
    cases e
    cases hdm:p.dummy with
    | none=>
     refine slot_not fun i z=>?_
     have z:t.slot p.j = .live i:=z
     rw [hs] at z
     cases z
    | some d=>exact hd d hdm
  · rename_i hs
    refine probe_go fuel _ (fun d hdd=>?_) j dm e
    rw [adv_dummy] at hdd
    cases hdd
    exact slot_not fun i z=>by
     rw [hs] at z
     cases z
  · rename_i i hs
    split at e
    · cases e
    · exact probe_go fuel _ (fun d hdd=>hd d (by rw [adv_dummy] at hdd;exact hdd)) j dm e
theorem free_slot {t:SetTable}{h:Int}{j:Nat}{b:Bool}(e:t.freeSlot h=some (j,b)):NotLive t j:=by
 unfold SetTable.freeSlot at e
 split at e
 · rename_i k dm hp
   cases e
   exact probe_go _ _ (fun d hd=>by cases hd) _ _ hp
 · cases e
theorem asc_range (n:Nat):AscA (Array.range n):=by
 unfold AscA
 rw [Array.toList_range]
 exact List.pairwise_lt_range
theorem lay_asc {t:SetTable}{es:Array (Int×Value)}{h:Int}{x:Value}(ha:AscA t.place):AscA (layNew t es h x).2.1.place∧(layNew t es h x).2.1.led=t.led:=by
 unfold layNew
 split
 · rename_i j b e
   have hj:=free_slot e
   show AscA ((t.put j).1.orStandIn _).place∧((t.put j).1.orStandIn _).led=t.led
   unfold SetTable.orStandIn
   split
   · exact ⟨asc_put ha hj,rfl⟩
   · exact ⟨asc_range _,rfl⟩
 · exact ⟨asc_range _,rfl⟩
theorem laid_asc {mask finger moves:Nat}{led plain:Bool}{hs:Array Int}{t:SetTable}{o:Array Nat}(e:SetTable.laid mask finger moves led plain hs=some (t,o)):AscA t.place∧t.led=led:=by
 unfold SetTable.laid at e
 cases hc:SetTable.layClean mask hs with
 | none=>rw [hc] at e;cases e
 | some owner=>
  rw [hc] at e
  cases e
  refine ⟨?_,rfl⟩
  show List.Pairwise (· < ·) (((List.range (mask+1)).filterMap fun j=>(owner.getD j none).map (j,·)).map (·.1))
  refine List.pairwise_map.mpr ?_
  refine List.Pairwise.filterMap (R:=(· < ·)) _ (fun a a' haa b hb b' hb'=>?_) List.pairwise_lt_range
  obtain ⟨_,_,rfl⟩:=Option.map_eq_some_iff.mp hb
  obtain ⟨_,_,rfl⟩:=Option.map_eq_some_iff.mp hb'
  exact haa
theorem relay_asc {t:SetTable}{es:Array (Int×Value)}{k:Nat}:AscA (relayAll t es k).2.1.place∧(relayAll t es k).2.1.led=t.led:=by
 unfold relayAll
 split
 · rename_i t' o e
   have:=laid_asc e
   show AscA (if _ then _ else _:Array (Int×Value)×SetTable×Bool).2.1.place∧(if _ then _ else _:Array (Int×Value)×SetTable×Bool).2.1.led=t.led
   by_cases c:(coversAll o es.size&&t'.fits (o.filterMap (es[·]?)).size)=true
   · rw [if_pos c];exact this
   · rw [if_neg c];exact ⟨asc_range _,rfl⟩
 · exact ⟨asc_range _,rfl⟩
section
variable {prog:Program}{w:World}
noncomputable def SetI (prog:Program) (w:World) (h:Heap) (a:Addr) (ns:List Int):Prop:=
 ∃ (o:Obj) (es:Array (Int×Value)) (ep:Nat) (t:SetTable),h.get? a=some o∧o.ExactSet∧o.data = .set es ep t∧ElemsOf (intKind prog w) es.toList∧(∀ k,ns.contains k=true↔∃ e∈es.toList,(intKind prog w).is k e.2=true)∧es.size<scanBound∧t.fits es.size=true∧es.size=ns.length∧AscA t.place∧t.led = !w.params.followText "set-order"
variable {A:Around}{E:Value→Shared→Prop}{s:Shared}
theorem put_tail {g:Bool→Sem Unit}(hg:∀ (b:Bool) (s₁:Shared) (Q':Unit→Shared→Prop),Q' () s₁→wpAny (model prog w) A (g b) Q' E s₁)
 {a:Addr} {o:Obj} {es:Array (Int×Value)} {ep:Nat} {t:SetTable} (ho:s.heap.get? a=some o) (hex:o.ExactSet) (hd:o.data = .set es ep t)
 {es1:Array (Int×Value)} {t2:SetTable} {ns:List Int} (hel:ElemsOf (intKind prog w) es1.toList) (hm:∀ k,ns.contains k=true↔∃ e∈es1.toList,(intKind prog w).is k e.2=true)
 (hb:es1.size<scanBound) (hf:t2.fits es1.size=true) (hn:es1.size=ns.length) (ha:AscA t2.place) (hl:t2.led = !w.params.followText "set-order") {wd:Bool} {R:Option Bool→Shared→Prop}
 (h:∀ h',Heap.SameBut a s.heap h'→SetI prog w h' a ns→R (some true) { s with heap:=h' }) :
 wpAny (model prog w) A (do
  storeSet a es1 t2
  if (!wd&&t2.tooFull)=true then do
      g (relayAll t2 es1 (SetTable.grown es1.size)).2.2
      storeSet a (relayAll t2 es1 (SetTable.grown es1.size)).1 (relayAll t2 es1 (SetTable.grown es1.size)).2.1
      pure (some true)
   else pure (some true)) R E s:=by
 have st1:=SetOf_store (knd:=intKind prog w) (S':=fun k=>ns.contains k) ho hex hd hel hm hb hf
 have sb1:=Heap.SameBut.update s.heap a (Obj.putSet es1 t2)
 refine wpAny_bind (wpAny_storeSet_of ho hd ?_ (fits_of_scanBound hb))
 by_cases c:(!wd&&t2.tooFull)=true
 · rw [if_pos c]
   have pm:=relayAll_perm t2 es1 (SetTable.grown es1.size)
   have ft:=relayAll_fits t2 es1 (SetTable.grown es1.size)
   have as:=relay_asc (t:=t2) (es:=es1) (k:=SetTable.grown es1.size)
   generalize relayAll t2 es1 (SetTable.grown es1.size)=L at pm ft as ⊢
   obtain ⟨es2,t3,gv⟩:=L
   have sz:es2.size=es1.size:=by rw [← Array.length_toList,pm.length_eq,Array.length_toList]
   have el2:ElemsOf (intKind prog w) es2.toList:=ElemsOf.perm hel pm
   have m2:∀ k,ns.contains k=true↔∃ e∈es2.toList,(intKind prog w).is k e.2=true:=fun k=>by
    rw [hm k]
    exact ⟨fun ⟨e,he,q⟩=>⟨e,pm.mem_iff.mpr he,q⟩,fun ⟨e,he,q⟩=>⟨e,pm.mem_iff.mp he,q⟩⟩
   have st2:=SetOf_store (knd:=intKind prog w) (S':=fun k=>ns.contains k) st1.1 hex rfl el2 m2 (by rw [sz];exact hb) ft
   refine wpAny_bind (hg _ _ _ (wpAny_bind (wpAny_storeSet_of st1.1 rfl ?_ (fits_of_scanBound (by rw [sz];exact hb)))))
   exact wpAny_pure (h _ (sb1.trans (Heap.SameBut.update _ a _)) ⟨_,es2,_,t3,st2.1,hex,rfl,el2,m2,by rw [sz];exact hb,ft,by rw [sz];exact hn,as.1,by rw [as.2];exact hl⟩)
 · rw [if_neg c]
   exact wpAny_pure (h _ sb1 ⟨_,es1,_,t2,st1.1,hex,rfl,hel,hm,hb,hf,hn,ha,hl⟩)
theorem set_addI {a:Addr}{ns:List Int}{k:Int}{tk:Tok}{Q:Bool→Shared→Prop}(hS:SetI prog w s.heap a ns) (hroom:ns.length+1<scanBound)
 (h:∀ h' b,Heap.SameBut a s.heap h'→SetI prog w h' a (if ns.contains k then ns else ns++[k])→Q b { s with heap:=h' }) :
 wpAny (model prog w) A (setAddHashed a (.int k tk) ((intKind prog w).hash k)) Q E s:=by
 obtain ⟨o,es,ep,t,ho,hex,hd,hel,hm,hb,hf,hn,ha,hl⟩:=hS
 have hk:(intKind prog w).is k (.int k tk)=true:=intKind_is _ _ _ _
 have hsc:(Value.int k tk).scannable=true:=rfl
 have room:es.size+1<scanBound:=by rw [hn];exact hroom
 unfold setAddHashed setAddHashedIn
 refine wpAny_holding (wpAny_bind (wpAny_setState_of ho hd hf ?_))
 dsimp only
 rw [byScan_of hsc hb hel,if_pos rfl]
 unfold setAddByScan
 refine wpAny_bind (wpAny_bind (wpAny_rule (wpAny_bind (wpAny_setScan_of hk ho hd hf hel ?_))))
 cases hr:List.findIdx? (fun e=>(intKind prog w).is k e.2) es.toList with
 | some j=>
  obtain ⟨hj,hpj,_⟩:=List.findIdx?_eq_some_iff_getElem.mp hr
  have hin:ns.contains k=true:=(hm k).mpr ⟨es.toList[j],List.getElem_mem hj,hpj⟩
  refine wpAny_pure (wpAny_pure ?_)
  have e:s = { s with heap:=s.heap }:=by cases s;rfl
  have q:=h s.heap false (Heap.SameBut.refl a s.heap) (by rw [if_pos hin];exact ⟨o,es,ep,t,ho,hex,hd,hel,hm,hb,hf,hn,ha,hl⟩)
  rw [e];exact q
 | none=>
  dsimp only
  have hout:¬ ns.contains k=true:=fun hc=>by
   obtain ⟨e,he,hp⟩:=(hm k).mp hc
   have:=List.findIdx?_eq_none_iff.mp hr e he
   rw [hp] at this
   cases this
  have gw:∀ (b:Bool) {s₁:Shared} {Q':Unit→Shared→Prop},Q' () s₁→wpAny (model prog w) A (match b with | true=>rule "set.scan.the-table-gave-way" | false=>pure ()) Q' E s₁:=fun b s₁ Q' hq=>by
   cases b<;>first | exact wpAny_pure hq | exact wpAny_rule hq
  have pm:=layNew_perm t es ((intKind prog w).hash k) (.int k tk)
  have ft:=layNew_fits t es ((intKind prog w).hash k) (.int k tk)
  have as:=lay_asc (t:=t) (es:=es) (h:=(intKind prog w).hash k) (x:=.int k tk) ha
  generalize layNew t es ((intKind prog w).hash k) (.int k tk)=L at pm ft as ⊢
  obtain ⟨es1,t1,wd,gv⟩:=L
  dsimp only at pm ft as ⊢
  rw [Array.toList_push] at pm
  have el1:ElemsOf (intKind prog w) es1.toList:=ElemsOf.perm (hel.push hk hsc) pm
  have m1:∀ k',(ns++[k]).contains k'=true↔∃ e∈es1.toList,(intKind prog w).is k' e.2=true:=fun k'=>by
   rw [← mem_push_iff (S:=fun x=>ns.contains x) hk hm pm k']
   simp
  have sz:es1.size=es.size+1:=by rw [← Array.length_toList,pm.length_eq,List.length_append,Array.length_toList];rfl
  have nl:es1.size=(ns++[k]).length:=by rw [sz,List.length_append,List.length_singleton,hn]
  have b1:es1.size<scanBound:=by rw [sz];exact room
  have fin:∀ h',Heap.SameBut a s.heap h'→SetI prog w h' a (ns++[k])→Q true { s with heap:=h' }:=fun h' sb q=>h h' true sb (by rw [if_neg hout];exact q)
  refine wpAny_bind (gw _ ?_)
  split
  · refine wpAny_bind ?_
    rw [hashByValue_scannable 8 hsc]
    refine wpAny_pure ?_
    refine put_tail ?_ ho hex hd el1 m1 b1 ?_ nl ?_ ?_ ?_
    · intro b s₁ Q' hq;cases b<;>first | exact wpAny_pure hq | exact wpAny_rule hq
    · split
      · exact ft
      · exact SetTable.fits_plain_off ft
    · split<;>exact as.1
    · split<;>(show t1.led=_;rw [as.2];exact hl)
    · intro h' sb q;exact wpAny_pure (fin h' sb q)
  · refine wpAny_bind (wpAny_pure ?_)
    simp only [↓reduceIte]
    refine put_tail ?_ ho hex hd el1 m1 b1 ft nl as.1 (by rw [as.2];exact hl) ?_
    · intro b s₁ Q' hq;cases b<;>first | exact wpAny_pure hq | exact wpAny_rule hq
    · intro h' sb q;exact wpAny_pure (fin h' sb q)
end
noncomputable def metL (val:Nat→Int):Nat→List Int
 | 0=>[]
 | i+1=>if (metL val i).contains (val i) then metL val i else metL val i++[val i]
theorem met_len (val:Nat→Int):∀ i,(metL val i).length≤i
 | 0=>Nat.le_refl _
 | i+1=>by
  have:=met_len val i
  rw [metL]
  split
  · omega
  · rw [List.length_append,List.length_singleton];omega
theorem met_mem (val:Nat→Int):∀ i x,x∈metL val i↔∃ j,j<i∧val j=x
 | 0,x=>by simp [metL]
 | i+1,x=>by
  have ih:=met_mem val i
  rw [metL]
  by_cases c:(metL val i).contains (val i)=true
  · rw [if_pos c,ih x]
    have c':=(ih _).mp (List.contains_iff_mem.mp c)
    constructor
    · rintro ⟨j,h1,h2⟩
      exact ⟨j,by omega,h2⟩
    · rintro ⟨j,h1,h2⟩
      rcases Nat.lt_or_ge j i with z | z
      · exact ⟨j,z,h2⟩
      · have:j=i:=by omega
        subst this
        obtain ⟨j',h3,h4⟩:=c'
        exact ⟨j',h3,h4.trans h2⟩
  · rw [if_neg c,List.mem_append,ih x,List.mem_singleton]
    constructor
    · rintro (⟨j,h1,h2⟩ | h)
      · exact ⟨j,by omega,h2⟩
      · exact ⟨i,by omega,h.symm⟩
    · rintro ⟨j,h1,h2⟩
      rcases Nat.lt_or_ge j i with z | z
      · exact .inl ⟨j,z,h2⟩
      · have:j=i:=by omega
        subst this
        exact .inr h2.symm
theorem met_nd (val:Nat→Int):∀ i,(metL val i).Nodup
 | 0=>List.nodup_nil
 | i+1=>by
  rw [metL]
  by_cases c:(metL val i).contains (val i)=true
  · rw [if_pos c];exact met_nd val i
  · rw [if_neg c]
    refine List.nodup_append.mpr ⟨met_nd val i,List.pairwise_singleton _ _,fun a ha b hb e=>c ?_⟩
    rw [List.mem_singleton] at hb
    rw [← hb,← e]
    exact List.contains_iff_mem.mpr ha
section
variable {prog:Program}{w:World}{A:Around}{R:Result→Shared→Prop}
theorem SetI.at {h h':Heap}{a:Addr}{ns:List Int}(S:SetI prog w h a ns) (k:∀ o,h.get? a=some o→h'.get? a=some o):SetI prog w h' a ns:=by
 obtain ⟨o,es,ep,t,ho,rest⟩:=S
 exact ⟨o,es,ep,t,k o ho,rest⟩
theorem set_loop {I:Addr}{fp wr:List Addr}{n:Nat}{P:Nat→Value→Prop}{St:Nat→Heap→Prop}(W:Walks prog w A.in1 I fp wr n P St) (S:Addr) (hSf:S∉fp) (val:Nat→Int) (hval:∀ i v,P i v→∃ t,v = .int (val i) t) (hb:n+1<scanBound) :
 ∀ (k i:Nat) (s:Shared),n-i=k→i≤n→St i s.heap→SetI prog w s.heap S (metL val i) →
  (∀ h' tk,(∀ b o,b∉wr→b≠S→s.heap.get? b=some o→h'.get? b=some o)→SetI prog w h' S (metL val n)→R (.ok (.ret .none)) { s with heap:=h',toks:=tk }) →
  codeAny (model prog w) A (.builtin "set.update.loop" ⟨[.ref S,.ref I],[]⟩) R s:=by
 have off:S∉wr:=fun h=>hSf (W.sub _ h)
 intro k
 induction k with
 | zero=>
  intro i s hk hi st hS fin
  have e:i=n:=by omega
  subst e
  refine codeAny_builtin F.entry_set_update_loop ?_
  rw [Around.under_plainId F.plain_set_update_loop _]
  show wpAny _ A.in1 (pyNext (.ref I) >>= _) _ _ s
  refine wpAny_bind (W.done s _ _ st fun h' tk kp=>?_)
  show wpAny _ A.in1 (ret Value.none) _ _ _
  exact wpAny_pure (fin h' tk (fun b o hbw _ e=>kp b o hbw e) (hS.at fun o e=>kp S o off e))
 | succ k ih=>
  intro i s hk hi st hS fin
  have hlt:i<n:=by omega
  refine codeAny_builtin F.entry_set_update_loop ?_
  rw [Around.under_plainId F.plain_set_update_loop _]
  show wpAny _ A.in1 (pyNext (.ref I) >>= _) _ _ s
  refine wpAny_bind (W.item i s _ _ hlt st fun v h' tk hp st' kp=>?_)
  obtain ⟨tv,rfl⟩:=hval i v hp
  show wpAny _ A.in1 (holding [Value.int (val i) tv] (setAdd S (.int (val i) tv)) >>= _) _ _ _
  refine wpAny_bind (wpAny_holding ?_)
  unfold setAdd
  refine wpAny_holding (wpAny_bind ((intKind prog w).pyHash (k:=val i) (intKind_is _ _ _ _) ?_))
  have hroom:(metL val i).length+1<scanBound:=by have:=met_len val i;omega
  refine set_addI (hS.at fun o e=>kp S o off e) hroom fun h2 b sb hS2=>?_
  refine wpAny_pure ⟨plainId_quiet F.plain_set_update_loop _,ih (i+1) _ (by omega) hlt (W.frame _ _ _ st' fun b hbf o e=>?_) hS2 fun h3 tk3 k3 hS3=>?_⟩
  · rw [sb.2 b (fun z:b=S=>hSf (by rw [← z];exact hbf))];exact e
  · refine fin h3 tk3 (fun b o hbw hbS e=>k3 b o hbw hbS ?_) hS3
    show h2.get? b=some o
    rw [sb.2 b hbS]
    exact kp b o hbw e
end
end L2
set_option maxHeartbeats 3200000
namespace L2
open PySem PySem.Spec PyProof.Rows
section
variable {prog:Program}{w:World}{A:Around}{E:Value→Shared→Prop}{s:Shared}
noncomputable def set0 (w:World):Obj:={ cls:=.type "set",dict:=none,data:=.set #[] 0 (.fresh 0 0 (!w.params.followText "set-order")) }
theorem set_new (a:Value) {Q₁:Value→Shared→Prop}(h:Q₁ (.ref s.heap.objs.size) { s with heap:=s.heap.push (set0 w) }) :
 codeAny (model prog w) A (.call (.builtin "set.__new__") ⟨[.type "set",a],[]⟩) (wants Q₁ E) s:=by
 refine codeAny_of_tree ?_
 show wpAny _ A.in1 (do checkBuiltinCall "set.__new__" ⟨[.type "set",a],[]⟩;again (.builtin "set.__new__" ⟨[.type "set",a],[]⟩)) _ _ s
 refine wpAny_bind (wpAny_of_eq (F.newCall_set_1 a) (wpAny_pure ⟨plainId_quiet F.plain_set_new _,codeAny_builtin F.entry_set_new ?_⟩))
 rw [Around.under_plainId F.plain_set_new _]
 unfold Builtin.«set.__new__» Builtin.Frozenset.newClass
 have hsub:=sub_set_self
 obtain ⟨hp,g,d,tk,os⟩:=s
 dsimp only
 wp_walk
 refine wpAny_askSetting (wpAny_pure ?_)
 dsimp only
 simp only [newObj]
 exact wpAny_bind (wpAny_alloc (wpAny_pure (wpAny_pure h)))
theorem set0_I {h:Heap}:SetI prog w (h.push (set0 w)) h.objs.size []:=
 ⟨_,#[],0,_,Heap.get?_push_size _ rfl,⟨rfl,rfl,rfl⟩,rfl,fun e he=>by simp at he,fun k=>by simp,by decide,rfl,rfl,List.Pairwise.nil,rfl⟩
theorem call_setI {l:Addr}{items:Array Value}{ns:List Int}{Q:Value→Shared→Prop}(hh:A.handled=none) (hl:s.heap.IsList l items) (hi:IntsAre items.toList ns) (hb:items.size+1<scanBound)
 (h:∀ (h':Heap) (tk:Nat),SetI prog w h' s.heap.objs.size (metL (fun i=>ns.getD i 0) items.size)→(∀ b o,b<s.heap.objs.size→s.heap.get? b=some o→h'.get? b=some o)→Q (.ref s.heap.objs.size) { s with heap:=h',toks:=tk }) :
 wpAny (model prog w) A (call (.type "set") [.ref l]) Q E s:=by
 obtain ⟨c,tl,hmro⟩:=F.called_set.mro
 have hmade:=F.called_set.made
 have hsub:=F.called_set.sub
 have h1:=F.called_set.notType
 have h2:=F.called_set.canCreate
 have hct:=F.typeCall_set_1 (.ref l)
 refine wpAny_call (codeAny_of_tree ?_)
 show wpAny _ _ (callAny (.type "set") _) _ _ _
 refine wpAny_pure ⟨Code.quiet_builtin _ (by decide +kernel),codeAny_builtin F.entry_type_call ?_⟩
 rw [Around.under_plain (weight_type_call_type "set" [.ref l] []) rfl]
 repeat (any_goals (first | assumption | wp_step))
 refine codeAny_mono (set_new (.ref l) (E:=E) (Q₁:=fun obj s₁=>obj = .ref s.heap.objs.size∧s₁ = { s with heap:=s.heap.push (set0 w) }) ⟨rfl,rfl⟩) fun r s₁ hr=>?_
 cases r with
 | error e=>exact hr
 | ok fl=>
  cases fl with
  | ret obj=>
   obtain ⟨rfl,rfl⟩:=hr
   have hS:(s.heap.push (set0 w)).get? s.heap.objs.size=some (set0 w):=Heap.get?_push_size _ rfl
   have hT:Shared.TypeIs { s with heap:=s.heap.push (set0 w) } (.ref s.heap.objs.size) "set":=⟨_,hS,rfl⟩
   have hli:=F.called_set.init.lookup
   have hbi:=F.called_set.init.bind (.ref s.heap.objs.size)
   repeat (any_goals (first | assumption | wp_step))
   refine codeAny_mono (codeAny_call_builtin (R:=wants (fun r s₂=>r = .none∧∃ h' tk,s₂ = { s with heap:=h',toks:=tk }∧SetI prog w h' s.heap.objs.size (metL (fun i=>ns.getD i 0) items.size)∧(∀ b o,b<s.heap.objs.size→s.heap.get? b=some o→h'.get? b=some o)) E) F.called_set.init.plain F.entry_set_init (check_set_init_1 hT ?_)) fun r₂ s₂ hr₂=>?_
   · obtain ⟨⟨ocls,odict,odata,oslots⟩,hol,hcl,nl,hdl⟩:=hl
     simp only at hcl hdl
     subst hcl;subst hdl
     have hol':(s.heap.push (set0 w)).get? l=some { cls:=.type "list",dict:=odict,data:=.seq items nl,slots:=oslots }:=Heap.get?_push_of_some _ hol
     have hsls:=F.sub_list_set
     have hslf:=F.sub_list_frozenset
     have hne:(Value.type "list" == Value.type "dict")=false:=by decide
     have hl1:(s.heap.push (set0 w)).IsList l items:=⟨_,hol',rfl,nl,rfl⟩
     unfold Builtin.«set.__init__» noKeywords Builtin.Frozenset.updateFrom
     generalize hPI:pyIter=PI
     wp_walk
     subst hPI
     refine wpAny_pyIter_list hl1 (wpAny_bind (wpAny_runValue ?_))
     have hlS:l<s.heap.objs.size:=Heap.lt_size hol
     have hh3:A.in1.in1.in1.handled=none:=by simp [hh]
     have zI:(s.heap.push (set0 w)).objs.size=s.heap.objs.size+1:=Heap.size_push ..
     refine set_loop (Walks.list hh3 _ l (by rw [zI];exact Nat.ne_of_lt (Nat.lt_succ_of_lt hlS)) items) s.heap.objs.size ?_ (fun i=>ns.getD i 0) (fun i v hv=>IntsAre.int_at hi i v (by rw [Array.getElem?_toList];exact hv)) hb _ 0 _ rfl (Nat.zero_le _) ⟨⟨_,Heap.get?_push_size _ rfl,rfl,rfl⟩,hl1.push _⟩ ((set0_I (prog:=prog)).at fun o e=>Heap.get?_push_of_some _ e) fun h' tk kp hS'=>?_
     · rw [zI]
       simp only [List.mem_cons,List.not_mem_nil,or_false,not_or]
       exact ⟨Nat.ne_of_lt (Nat.lt_succ_self _),Nat.ne_of_gt hlS⟩
     · show wpAny _ _ _ _ _ _
       refine wpAny_pure ?_
       show wpAny _ _ (ret Value.none) _ _ _
       refine wpAny_pure ⟨rfl,h',tk,rfl,hS',fun b o hb e=>kp b o ?_ (Nat.ne_of_lt hb) (Heap.get?_push_of_some _ (Heap.get?_push_of_some _ e))⟩
       rw [zI,List.mem_singleton]
       exact Nat.ne_of_lt (Nat.lt_succ_of_lt hb)
   · cases r₂ with
     | error e=>exact hr₂
     | ok fl₂=>
      cases fl₂ with
      | ret r=>
       obtain ⟨rfl,h',tk,rfl,hS',hk'⟩:=hr₂
       repeat (any_goals (first | assumption | wp_step))
       exact h _ _ hS' hk'
      | _=>exact hr₂.elim
  | _=>exact hr.elim
end
theorem slot_seti_next:Slot "set_iterator" "__next__" "set_iterator.__next__":=
 .of (owner:="set_iterator") (n:="__next__") (by rw [typeLookup_type,builtinLookup_eq_fast];kernel_rfl) (by decide +kernel) (by decide +kernel) (by decide +kernel) (by first | exact .inl (by decide +kernel) | exact .inr (by decide +kernel)) (by rw [isSubtype_type];kernel_rfl)
theorem entry_seti_next:entryFor table "set_iterator.__next__" = some Builtin.«set_iterator.__next__»:=entryFor_of_fast (by kernel_rfl)
theorem args_seti_next (a:Value):argsOk "set_iterator.__next__" ⟨[a],[]⟩:=by unfold argsOk;kernel_rfl
theorem slot_set_iter':Slot "set" "__iter__" "set.__iter__":=
 .of (owner:="set") (n:="__iter__") (by rw [typeLookup_type,builtinLookup_eq_fast];kernel_rfl) (by decide +kernel) (by decide +kernel) (by decide +kernel) (by first | exact .inl (by decide +kernel) | exact .inr (by decide +kernel)) (by rw [isSubtype_type];kernel_rfl)
theorem args_set_iter' (a:Value):argsOk "set.__iter__" ⟨[a],[]⟩:=by unfold argsOk;kernel_rfl
theorem entry_set_iter':entryFor table "set.__iter__" = some Builtin.«frozenset.__iter__»:=
 entryFor_alias (id':="frozenset.__iter__") (by kernel_rfl) rfl (by decide +kernel) (by kernel_rfl)
noncomputable def IsSetIter (h:Heap) (it:Addr) (first:Value) (i:Nat) (a:Addr) (n ep:Nat):Prop:=∃ o,h.get? it=some o∧o.cls = .type "set_iterator"∧o.data = .fields #[first,.int i 0,.ref a,.int n 0,.int ep 0]
theorem erase_perm {α:Type}:∀ {l:List α}{j:Nat}(h:j<l.length),(l[j]::l.eraseIdx j).Perm l
 | [],_,h=>by simp at h
 | x::l,0,_=>by simp
 | x::l,j+1,h=>by
  have h':j<l.length:=by simpa using h
  show (l[j]::x::l.eraseIdx j).Perm (x::l)
  exact (List.Perm.swap x l[j] _).trans ((erase_perm h').cons x)
theorem pick_perm {α:Type}(next:Nat→Nat):∀ (fuel k:Nat) (left:List α) (out:Array α),left.length≤fuel→(pickOrder.go next fuel k left out).toList.Perm (out.toList++left)
 | 0,k,left,out,h=>by
  rw [List.length_eq_zero_iff.mp (Nat.le_zero.mp h),pickOrder.go,List.append_nil]
 | fuel+1,k,left,out,h=>by
  rw [pickOrder.go]
  cases left with
  | nil=>simp
  | cons x l=>
   have hlt:next k%(x::l).length<(x::l).length:=Nat.mod_lt _ (by simp)
   generalize next k%(x::l).length=j at hlt
   rw [List.getElem?_eq_getElem hlt]
   refine (pick_perm next fuel (k+1) _ _ (by rw [List.length_eraseIdx_of_lt hlt];omega)).trans ?_
   rw [Array.toList_push,List.append_assoc]
   refine List.Perm.append_left _ ?_
   rw [List.singleton_append]
   exact erase_perm hlt
section
variable {prog:Program}{w:World}{A:Around}{E:Value→Shared→Prop}{s:Shared}
theorem wp_choose' {src:Source}{n:Nat}{Q:Nat→Shared→Prop}(hn:n≠0) (h:∀ i d,i<n→Q i { s with drawn:=d }):wpAny (model prog w) A (choose src n) Q E s:=fun Γ p hΓ=>by
 unfold choose
 rw [PySem.Sem.wp_choose]
 exact ⟨hn,h _ _ (Nat.mod_lt _ (Nat.pos_of_ne_zero hn))⟩
theorem draw_perm {α:Type}:∀ (n:Nat) (xs:List α) (s:Shared) (Q:List α→Shared→Prop),xs.length≤n→(∀ ys d,ys.Perm xs→Q ys { s with drawn:=d })→wpAny (model prog w) A (drawOrder n xs) Q E s
 | 0,xs,s,Q,hn,h=>by
  have:xs=[]:=List.length_eq_zero_iff.mp (Nat.le_zero.mp hn)
  subst this
  exact wpAny_pure (h [] s.drawn (List.Perm.refl _))
 | n+1,[],s,Q,hn,h=>wpAny_pure (h [] s.drawn (List.Perm.refl _))
 | n+1,x::xs,s,Q,hn,h=>by
  unfold drawOrder
  refine wpAny_bind (wp_choose' (by simp) fun i d hi=>?_)
  rw [List.getElem?_eq_getElem hi]
  show wpAny _ _ (drawOrder n ((x::xs).eraseIdx i) >>= _) _ _ _
  refine wpAny_bind (draw_perm n _ _ _ (by rw [List.length_eraseIdx_of_lt hi];omega) fun ys d' hp=>?_)
  exact wpAny_pure (h _ d' ((hp.cons _).trans (erase_perm hi)))
noncomputable def SetAt (w:World) (h:Heap) (a:Addr) (es:Array (Int×Value)) (ep:Nat) (t:SetTable):Prop:=
 ∃ o,h.get? a=some o∧o.cls = .type "set"∧o.data = .set es ep t∧t.fits es.size=true∧AscA t.place∧t.led = !w.params.followText "set-order"
theorem SetAt.keep {h h':Heap}{a:Addr}{es:Array (Int×Value)}{ep:Nat}{t:SetTable}(S:SetAt w h a es ep t) (k:∀ o,h.get? a=some o→h'.get? a=some o):SetAt w h' a es ep t:=by
 obtain ⟨o,ho,rest⟩:=S
 exact ⟨o,k o ho,rest⟩
noncomputable abbrev dr (es:Array (Int×Value)) (t:SetTable):Bool:=!t.plain&&es.size>1
variable {a:Addr}{es:Array (Int×Value)}{ep:Nat}{t:SetTable}
theorem next_text {slot i:Nat}{Q:Option (Value×Nat)→Shared→Prop}(S:SetAt w s.heap a es ep t) (hb:w.params.followText "set-order" = true)
 (h:Q (((pickOrder (w.params.setOrder a ep) es)[i]?).map fun e=>(e.2,slot)) s):wpAny (model prog w) A (setNext a slot i ep) Q E s:=by
 obtain ⟨o,ho,hc,hd,hf,ha,hl⟩:=S
 unfold setNext
 refine wpAny_bind (wpAny_setState_of ho hd hf ?_)
 unfold setsByText
 refine wpAny_bind (wpAny_bind (wpAny_askSetting (wpAny_pure ?_)))
 show wpAny _ _ (if w.params.followText "set-order" = true then _ else _) _ _ _
 rw [if_pos hb,if_neg (by simp)]
 unfold setWalk setsByText
 refine wpAny_bind (wpAny_bind (wpAny_setState_of ho hd hf ?_))
 refine wpAny_bind (wpAny_bind (wpAny_askSetting (wpAny_pure ?_)))
 show wpAny _ _ (if w.params.followText "set-order" = true then _ else _) _ _ _
 rw [if_pos hb]
 exact wpAny_bind (wpAny_askSetting (wpAny_pure (wpAny_pure h)))
theorem next_place {slot i:Nat}{Q:Option (Value×Nat)→Shared→Prop}(S:SetAt w s.heap a es ep t) (hb:w.params.followText "set-order" = false) (hdr:dr es t=false)
 (h:Q (match es[SetTable.below t.place slot]?,t.place[SetTable.below t.place slot]? with | some (_,x),some j=>some (x,j+1) | _,_=>none) s):wpAny (model prog w) A (setNext a slot i ep) Q E s:=by
 obtain ⟨o,ho,hc,hd,hf,ha,hl⟩:=S
 unfold setNext
 refine wpAny_bind (wpAny_setState_of ho hd hf ?_)
 unfold setsByText
 refine wpAny_bind (wpAny_bind (wpAny_askSetting (wpAny_pure ?_)))
 show wpAny _ _ (if w.params.followText "set-order" = true then _ else _) _ _ _
 rw [if_neg (by rw [hb];exact Bool.false_ne_true)]
 show wpAny _ _ (if dr es t=true then _ else _) _ _ _
 rw [if_neg (by rw [hdr];exact Bool.false_ne_true)]
 show wpAny _ _ ((if (!t.led && !es.isEmpty)=true then unsupported "set:maker-not-led" else pure ()) >>= _) _ _ _
 rw [hl,hb]
 exact wpAny_pure h
theorem next_drawn {place:Nat}{e:Int×Value}{Q:Value→Shared→Prop}(S:SetAt w s.heap a es ep t) (he:es[place]? = some e) (h:Q e.2 s):wpAny (model prog w) A (setNextDrawn a place ep) Q E s:=by
 obtain ⟨o,ho,hc,hd,hf,ha,hl⟩:=S
 unfold setNextDrawn
 refine wpAny_bind (wpAny_setState_of ho hd hf ?_)
 show wpAny _ _ (if (ep != ep)=true then _ else _) _ _ _
 rw [if_neg (by simp),he]
 exact wpAny_pure h
end
section
variable {prog:Program}{w:World}{A:Around}{E:Value→Shared→Prop}{s:Shared}
variable {a it:Addr}{es:Array (Int×Value)}{ep i:Nat}{t:SetTable}
theorem IsSetIter.typeIs {first:Value}{n:Nat}(x:IsSetIter s.heap it first i a n ep):s.TypeIs (.ref it) "set_iterator":=
 let ⟨o,ho,hc,_⟩:=x;⟨o,ho,hc⟩
theorem IsSetIter.keep {h h':Heap}{first:Value}{n:Nat}(x:IsSetIter h it first i a n ep) (k:∀ o,h.get? it=some o→h'.get? it=some o):IsSetIter h' it first i a n ep:=
 let ⟨o,ho,hc⟩:=x;⟨o,k o ho,hc⟩
theorem setEntries_of {Q:Array (Int×Value)→Shared→Prop}(S:SetAt w s.heap a es ep t) (h:Q es s):wpAny (model prog w) A (setEntries a) Q E s:=by
 obtain ⟨o,ho,hc,hd,hf,ha,hl⟩:=S
 unfold setEntries
 exact wpAny_bind (wpAny_setState_of ho hd hf (wpAny_pure h))
theorem nextI_some {slot nx:Nat}{x:Value}{Q:Option Value→Shared→Prop}(hit:IsSetIter s.heap it (.int slot 0) i a es.size ep) (S:SetAt w s.heap a es ep t)
 (hn:∀ Q' E',Q' (some (x,nx)) s→wpAny (model prog w) A.in1 (setNext a slot i ep) Q' E' s)
 (hQ:∀ h',IsSetIter h' it (.int nx 0) (i+1) a es.size ep→Heap.SameBut it s.heap h'→Q (some x) { s with heap:=h' }) :
 wpAny (model prog w) A (pyNext (.ref it)) Q E s:=by
 obtain ⟨o,ho,hc,hd⟩:=id hit
 unfold pyNext
 refine wpAny_bind (wpAny_attempt (wpAny_callSpecial?_slot (name:=Str.ofString "__next__") hit.typeIs slot_seti_next
  (wpAny_call_entry slot_seti_next hit.typeIs entry_seti_next ?_ (args_seti_next _))))
 show wpAny _ _ (fieldsOf (.ref it) >>= _) _ _ s
 refine wpAny_bind (wpAny_fieldsOf ho hd ?_)
 show wpAny _ _ (setEntries a >>= _) _ _ s
 refine wpAny_bind (setEntries_of S ?_)
 show wpAny _ _ (if (((es.size:Int)) != (es.size:Int))=true then _ else _) _ _ s
 rw [if_neg (by simp)]
 show wpAny _ _ (setNext a ((slot:Int).toNat) ((i:Int).toNat) ((ep:Int).toNat) >>= _) _ _ s
 rw [Int.toNat_natCast,Int.toNat_natCast,Int.toNat_natCast]
 refine wpAny_bind (hn _ _ ?_)
 refine wpAny_bind (wpAny_setField ho hd (by simp) ?_)
 have ho2:=Heap.get?_update_self (Obj.mapFields (·.setIfInBounds 0 (rawInt nx))) ho (Obj.isFreed_of_fields (Obj.data_mapFields hd _))
 have hd2:=Obj.data_mapFields hd (·.setIfInBounds 0 (rawInt nx))
 refine wpAny_bind (wpAny_setField ho2 hd2 (by simp) (wpAny_pure ⟨x,rfl,wpAny_pure (hQ _ ?_ ((Heap.SameBut.update ..).trans (Heap.SameBut.update ..)))⟩))
 exact ⟨_,Heap.get?_update_self _ ho2 (Obj.isFreed_of_fields (Obj.data_mapFields hd2 _)),(Obj.cls_mapFields ..).trans ((Obj.cls_mapFields ..).trans hc),by
  rw [Obj.data_mapFields hd2];simp [rawInt]⟩
theorem nextI_none {slot:Nat}{Q:Option Value→Shared→Prop}(hh:A.handled=none) (hit:IsSetIter s.heap it (.int slot 0) i a es.size ep) (S:SetAt w s.heap a es ep t)
 (hn:∀ Q' E',Q' none s→wpAny (model prog w) A.in1 (setNext a slot i ep) Q' E' s)
 (hQ:∀ h',Heap.ExtBut it s.heap h'→Q none { s with heap:=h' }) :
 wpAny (model prog w) A (pyNext (.ref it)) Q E s:=by
 obtain ⟨o,ho,hc,hd⟩:=id hit
 unfold pyNext
 refine wpAny_bind (wpAny_attempt (wpAny_callSpecial?_slot (name:=Str.ofString "__next__") hit.typeIs slot_seti_next
  (wpAny_call_entry slot_seti_next hit.typeIs entry_seti_next ?_ (args_seti_next _))))
 show wpAny _ _ (fieldsOf (.ref it) >>= _) _ _ s
 refine wpAny_bind (wpAny_fieldsOf ho hd ?_)
 show wpAny _ _ (setEntries a >>= _) _ _ s
 refine wpAny_bind (setEntries_of S ?_)
 show wpAny _ _ (if (((es.size:Int)) != (es.size:Int))=true then _ else _) _ _ s
 rw [if_neg (by simp)]
 show wpAny _ _ (setNext a ((slot:Int).toNat) ((i:Int).toNat) ((ep:Int).toNat) >>= _) _ _ s
 rw [Int.toNat_natCast,Int.toNat_natCast,Int.toNat_natCast]
 refine wpAny_bind (hn _ _ ?_)
 refine wpAny_bind (wpAny_setField ho hd (by simp) ?_)
 show wpAny _ _ (newExc (.type "StopIteration") [] >>= _) _ _ _
 refine wpAny_bind ?_
 simp only [newExc,newTuple]
 refine wpAny_bind (wpAny_newObj_type ?_ (by size_fits))
 refine wpAny_bind (m:=firstArgMember _ _) (wpAny_of_eq (a:=Value.none) (by first | rfl | (simp only [firstArgMember];rfl)) ?_)
 refine wpAny_newObj_type ?_ (by size_fits)
 simp only [raiseNew]
 refine wpAny_bind (wpAny_handled ?_)
 rw [show A.in1.handled=none from hh]
 refine wpAny_bind (wpAny_pure (wpAny_throw ?_))
 refine wpAny_bind (wpAny_isInstance (T:="StopIteration") (b:=true) ⟨_,Heap.get?_push_size _ rfl,rfl⟩ isSubtype_stop ?_)
 exact wpAny_pure (hQ _ (((Heap.SameBut.update ..).extBut.push _).push _))
theorem nextD_some {q:Addr}{ps:List Nat}{p:Nat}{e:Int×Value}{Q:Option Value→Shared→Prop}(hit:IsSetIter s.heap it (.ref q) i a es.size ep) (S:SetAt w s.heap a es ep t)
 {oq:Obj} {nq:Nat} (hq:s.heap.get? q=some oq) (hdq:oq.data = .seq (ps.map fun (j:Nat)=>rawInt j).toArray nq) (hp:ps[i]? = some p) (he:es[p]? = some e)
 (hQ:∀ h',IsSetIter h' it (.ref q) (i+1) a es.size ep→Heap.SameBut it s.heap h'→Q (some e.2) { s with heap:=h' }) :
 wpAny (model prog w) A (pyNext (.ref it)) Q E s:=by
 obtain ⟨o,ho,hc,hd⟩:=id hit
 unfold pyNext
 refine wpAny_bind (wpAny_attempt (wpAny_callSpecial?_slot (name:=Str.ofString "__next__") hit.typeIs slot_seti_next
  (wpAny_call_entry slot_seti_next hit.typeIs entry_seti_next ?_ (args_seti_next _))))
 show wpAny _ _ (fieldsOf (.ref it) >>= _) _ _ s
 refine wpAny_bind (wpAny_fieldsOf ho hd ?_)
 show wpAny _ _ (setEntries a >>= _) _ _ s
 refine wpAny_bind (setEntries_of S ?_)
 show wpAny _ _ (if (((es.size:Int)) != (es.size:Int))=true then _ else _) _ _ s
 rw [if_neg (by simp)]
 show wpAny _ _ (seqItems? (.ref q) >>= _) _ _ s
 refine wpAny_bind (wpAny_seqItems hq hdq ?_)
 have hx:(ps.map fun (j:Nat)=>rawInt j).toArray[(i:Int).toNat]? = some (rawInt p):=by
  rw [Int.toNat_natCast,List.getElem?_toArray,List.getElem?_map,hp];rfl
 simp only [hx]
 show wpAny _ _ (setNextDrawn a ((p:Int).toNat) ((ep:Int).toNat) >>= _) _ _ s
 rw [Int.toNat_natCast,Int.toNat_natCast]
 refine wpAny_bind (next_drawn S he ?_)
 refine wpAny_bind (wpAny_setField ho hd (by simp) (wpAny_pure ⟨e.2,rfl,wpAny_pure (hQ _ ?_ (Heap.SameBut.update ..))⟩))
 exact ⟨_,Heap.get?_update_self _ ho (Obj.isFreed_of_fields (Obj.data_mapFields hd _)),(Obj.cls_mapFields ..).trans hc,by
  rw [Obj.data_mapFields hd];simp [rawInt]⟩
theorem nextD_none {q:Addr}{ps:List Nat}{Q:Option Value→Shared→Prop}(hh:A.handled=none) (hit:IsSetIter s.heap it (.ref q) i a es.size ep) (S:SetAt w s.heap a es ep t)
 {oq:Obj} {nq:Nat} (hq:s.heap.get? q=some oq) (hdq:oq.data = .seq (ps.map fun (j:Nat)=>rawInt j).toArray nq) (hp:ps[i]? = none)
 (hQ:∀ h',Heap.ExtBut it s.heap h'→Q none { s with heap:=h' }) :
 wpAny (model prog w) A (pyNext (.ref it)) Q E s:=by
 obtain ⟨o,ho,hc,hd⟩:=id hit
 unfold pyNext
 refine wpAny_bind (wpAny_attempt (wpAny_callSpecial?_slot (name:=Str.ofString "__next__") hit.typeIs slot_seti_next
  (wpAny_call_entry slot_seti_next hit.typeIs entry_seti_next ?_ (args_seti_next _))))
 show wpAny _ _ (fieldsOf (.ref it) >>= _) _ _ s
 refine wpAny_bind (wpAny_fieldsOf ho hd ?_)
 show wpAny _ _ (setEntries a >>= _) _ _ s
 refine wpAny_bind (setEntries_of S ?_)
 show wpAny _ _ (if (((es.size:Int)) != (es.size:Int))=true then _ else _) _ _ s
 rw [if_neg (by simp)]
 show wpAny _ _ (seqItems? (.ref q) >>= _) _ _ s
 refine wpAny_bind (wpAny_seqItems hq hdq ?_)
 have hx:(ps.map fun (j:Nat)=>rawInt j).toArray[(i:Int).toNat]? = none:=by
  rw [Int.toNat_natCast,List.getElem?_toArray,List.getElem?_map,hp];rfl
 simp only [hx]
 refine wpAny_bind (wpAny_setField ho hd (by simp) ?_)
 have ho2:=Heap.get?_update_self (Obj.mapFields (·.setIfInBounds 0 (rawInt 0))) ho (Obj.isFreed_of_fields (Obj.data_mapFields hd _))
 have hd2:=Obj.data_mapFields hd (·.setIfInBounds 0 (rawInt 0))
 refine wpAny_bind (wpAny_setField ho2 hd2 (by simp) ?_)
 show wpAny _ _ (newExc (.type "StopIteration") [] >>= _) _ _ _
 refine wpAny_bind ?_
 simp only [newExc,newTuple]
 refine wpAny_bind (wpAny_newObj_type ?_ (by size_fits))
 refine wpAny_bind (m:=firstArgMember _ _) (wpAny_of_eq (a:=Value.none) (by first | rfl | (simp only [firstArgMember];rfl)) ?_)
 refine wpAny_newObj_type ?_ (by size_fits)
 simp only [raiseNew]
 refine wpAny_bind (wpAny_handled ?_)
 rw [show A.in1.handled=none from hh]
 refine wpAny_bind (wpAny_pure (wpAny_throw ?_))
 refine wpAny_bind (wpAny_isInstance (T:="StopIteration") (b:=true) ⟨_,Heap.get?_push_size _ rfl,rfl⟩ isSubtype_stop ?_)
 exact wpAny_pure (hQ _ ((((Heap.SameBut.update ..).trans (Heap.SameBut.update ..)).extBut.push _).push _))
end
end L2
set_option maxHeartbeats 2000000
namespace L2
open PySem PySem.Spec PyProof.Rows
theorem slot_seti_iter:Slot "set_iterator" "__iter__" "set_iterator.__iter__":=
 .of (owner:="set_iterator") (n:="__iter__") (by rw [typeLookup_type,builtinLookup_eq_fast];kernel_rfl) (by decide +kernel) (by decide +kernel) (by decide +kernel) (by first | exact .inl (by decide +kernel) | exact .inr (by decide +kernel)) (by rw [isSubtype_type];kernel_rfl)
theorem entry_seti_iter:entryFor table "set_iterator.__iter__" = some Builtin.«dict_keyiterator.__iter__»:=
 entryFor_alias (id':="dict_keyiterator.__iter__") (by kernel_rfl) rfl (by decide +kernel) (by kernel_rfl)
theorem args_seti_iter (a:Value):argsOk "set_iterator.__iter__" ⟨[a],[]⟩:=by unfold argsOk;kernel_rfl
section
variable {prog:Program}{w:World}{A:Around}{E:Value→Shared→Prop}{s:Shared}
variable {a I q:Addr}{es:Array (Int×Value)}{ep:Nat}{t:SetTable}
theorem iter_seti {first:Value}{i n:Nat}{Q:Value→Shared→Prop}(hit:IsSetIter s.heap I first i a n ep) (h:Q (.ref I) s):wpAny (model prog w) A (pyIter (.ref I)) Q E s:=by
 refine wpAny_pyIter_slot hit.typeIs slot_seti_iter (wpAny_call_entry slot_seti_iter hit.typeIs entry_seti_iter ?_ (args_seti_iter _))
 show wpAny _ _ (ret (.ref I)) _ _ s
 exact wpAny_pure ⟨_,rfl,"set_iterator",_,hit.typeIs,slot_seti_next.lookup,h⟩
theorem walks_int (hh:A.handled=none) (hne:a≠I) (sl:Nat→Nat) (ord:List Value)
 (hi:∀ i,i<es.size→∃ x,ord[i]? = some x∧∀ (s':Shared) Q' E',SetAt w s'.heap a es ep t→Q' (some (x,sl (i+1))) s'→wpAny (model prog w) A.in1 (setNext a (sl i) i ep) Q' E' s')
 (he:∀ (s':Shared) Q' E',SetAt w s'.heap a es ep t→Q' none s'→wpAny (model prog w) A.in1 (setNext a (sl es.size) es.size ep) Q' E' s') :
 Walks prog w A I [I,a] [I] es.size (fun i v=>ord[i]? = some v) (fun i h=>IsSetIter h I (.int (sl i) 0) i a es.size ep∧SetAt w h a es ep t) where
 sub:=fun b hb=>by simp at hb;simp [hb]
 frame:=fun _ _ _ st hk=>⟨st.1.keep fun o e=>hk I (by simp) o e,st.2.keep fun o e=>hk a (by simp) o e⟩
 item:=fun i s Q E h st hQ=>by
  obtain ⟨x,hx,hn⟩:=hi i h
  refine nextI_some st.1 st.2 (fun Q' E' q=>hn s Q' E' st.2 q) fun h' hit' hs'=>?_
  exact hQ x h' s.toks hx ⟨hit',st.2.keep fun o e=>hs'.extBut a o hne e⟩ fun b o hb e=>hs'.extBut b o (fun z=>hb (by simp [z])) e
 done:=fun s Q E st hQ=>nextI_none hh st.1 st.2 (fun Q' E' q=>he s Q' E' st.2 q) fun h' he'=>hQ h' s.toks fun b o hb e=>he' b o (fun z=>hb (by simp [z])) e
 self:=fun _ _ _ _ st hQ=>iter_seti st.1 hQ
theorem walks_drawn (hh:A.handled=none) (hne:a≠I) (hqI:q≠I) (ps:List Nat) (hps:ps.Perm (List.range es.size)) :
 Walks prog w A I [I,a,q] [I] es.size (fun i v=>(ps.map fun j=>(es.getD j (0,.none)).2)[i]? = some v) (fun i h=>IsSetIter h I (.ref q) i a es.size ep∧SetAt w h a es ep t∧h.get? q=some { cls:=.type "tuple",data:=.seq (ps.map fun (j:Nat)=>rawInt j).toArray }) where
 sub:=fun b hb=>by simp at hb;simp [hb]
 frame:=fun _ _ _ st hk=>⟨st.1.keep fun o e=>hk I (by simp) o e,st.2.1.keep fun o e=>hk a (by simp) o e,hk q (by simp) _ st.2.2⟩
 item:=fun i s Q E h st hQ=>by
  have hl:ps.length=es.size:=by rw [hps.length_eq,List.length_range]
  have hp:ps[i]? = some ps[i]:=List.getElem?_eq_getElem _
  have hlt:ps[i]<es.size:=List.mem_range.mp (hps.mem_iff.mp (List.getElem_mem _))
  refine nextD_some st.1 st.2.1 st.2.2 rfl hp (Array.getElem?_eq_getElem hlt) fun h' hit' hs'=>?_
  refine hQ _ h' s.toks ?_ ⟨hit',st.2.1.keep fun o e=>hs'.extBut a o hne e,hs'.extBut q _ hqI st.2.2⟩ fun b o hb e=>hs'.extBut b o (fun z=>hb (by simp [z])) e
  rw [List.getElem?_map,hp,Option.map_some,Array.getD_eq_getD_getElem?,Array.getElem?_eq_getElem hlt];rfl
 done:=fun s Q E st hQ=>nextD_none hh st.1 st.2.1 st.2.2 rfl (by rw [List.getElem?_eq_none_iff,hps.length_eq,List.length_range];exact Nat.le_refl _) fun h' he'=>hQ h' s.toks fun b o hb e=>he' b o (fun z=>hb (by simp [z])) e
 self:=fun _ _ _ _ st hQ=>iter_seti st.1 hQ
noncomputable def slotAt (t:SetTable) (i:Nat):Nat:=if i=0 then 0 else t.place.getD (i-1) 0+1
theorem below_at (h:AscA t.place) {i:Nat}(hi:i≤t.place.size):SetTable.below t.place (slotAt t i)=i:=by
 unfold slotAt
 by_cases c:i=0
 · rw [if_pos c,c];exact below_zero h
 · rw [if_neg c]
   have hlt:i-1<t.place.size:=by omega
   have e:t.place.getD (i-1) 0=t.place[i-1]:=by rw [Array.getD_eq_getD_getElem?,Array.getElem?_eq_getElem hlt];rfl
   rw [e,below_next h hlt]
   omega
theorem iter_set {Q:Value→Shared→Prop}(S:SetAt w s.heap a es ep t) (hsz:es.size≤sizeLine)
 (hQ:∀ (h':Heap) (d:Drawn) (I:Addr) (fp:List Addr) (ord:List Value) (St:Nat→Heap→Prop),(∀ A':Around,A'.handled=none→Walks prog w A' I fp [I] es.size (fun i v=>ord[i]? = some v) St)→St 0 h'→ord.Perm (es.toList.map (·.2)) →
  (∀ b o,s.heap.get? b=some o→h'.get? b=some o)→s.heap.objs.size≤I→(∀ b∈fp,b=a∨s.heap.objs.size≤b)→Q (.ref I) { s with heap:=h',drawn:=d }) :
 wpAny (model prog w) A (pyIter (.ref a)) Q E s:=by
 have S0:=S
 obtain ⟨o,ho,hc,hd,hf,ha,hl⟩:=S
 have hT:s.TypeIs (.ref a) "set":=⟨o,ho,hc⟩
 have alt:a<s.heap.objs.size:=Heap.lt_size ho
 have pz:t.place.size=es.size:=by
  have:(t.place.size==es.size&&decide (t.fill≤t.mask))=true:=hf
  rw [Bool.and_eq_true] at this
  exact beq_iff_eq.mp this.1
 refine wpAny_pyIter_slot hT slot_set_iter' (wpAny_call_entry slot_set_iter' hT entry_set_iter' ?_ (args_set_iter' _))
 show wpAny _ _ (Builtin.Frozenset.sizeOf a >>= _) _ _ s
 unfold Builtin.Frozenset.sizeOf
 refine wpAny_bind (wpAny_bind (setEntries_of S0 (wpAny_pure ?_)))
 unfold setDrawn
 refine wpAny_bind (wpAny_bind (wpAny_setState_of ho hd hf ?_))
 unfold setsByText
 refine wpAny_bind (wpAny_bind (wpAny_askSetting (wpAny_pure (wpAny_pure ?_))))
 show wpAny _ _ (if (!w.params.followText "set-order" && dr es t)=true then _ else _) _ _ s
 cases hb:w.params.followText "set-order" with
 | true=>
  rw [if_neg (by simp)]
  refine wpAny_bind (wpAny_pure (wpAny_bind (wpAny_setEpoch_of ho hd hf ?_)))
  refine wpAny_bind (wpAny_newObj_type (wpAny_pure ⟨_,rfl,"set_iterator",_,⟨_,Heap.get?_push_size _ rfl,rfl⟩,slot_seti_next.lookup,?_⟩))
  have pp:=pick_perm (w.params.setOrder a ep) es.size 0 es.toList #[] (by rw [Array.length_toList];exact Nat.le_refl _)
  have ps:(pickOrder (w.params.setOrder a ep) es).toList.Perm es.toList:=pp
  have pl:(pickOrder (w.params.setOrder a ep) es).size=es.size:=by rw [← Array.length_toList,ps.length_eq,Array.length_toList]
  refine hQ _ s.drawn s.heap.objs.size [s.heap.objs.size,a] ((pickOrder (w.params.setOrder a ep) es).toList.map (·.2)) _ (fun A' hh=>walks_int (es:=es) (ep:=ep) (t:=t) hh (Nat.ne_of_lt alt) (fun _=>0) _ (fun i hi=>?_) (fun s' Q' E' S' q=>next_text S' hb ?_)) ⟨⟨_,Heap.get?_push_size _ rfl,rfl,rfl⟩,S0.keep fun o e=>Heap.get?_push_of_some _ e⟩ (ps.map _) (fun b o e=>Heap.get?_push_of_some _ e) (Nat.le_refl _) (fun b hb=>?_)
  · refine ⟨((pickOrder (w.params.setOrder a ep) es)[i]'(by rw [pl];exact hi)).2,?_,fun s' Q' E' S' q=>next_text S' hb ?_⟩
    · rw [List.getElem?_map,Array.getElem?_toList,Array.getElem?_eq_getElem (by rw [pl];exact hi)];rfl
    · rw [Array.getElem?_eq_getElem (by rw [pl];exact hi)];exact q
  · rw [Array.getElem?_eq_none (by rw [pl];exact Nat.le_refl _)];exact q
  · simp at hb;rcases hb with rfl | rfl
    · exact .inr (Nat.le_refl _)
    · exact .inl rfl
 | false=>
  cases hdr:dr es t with
  | false=>
   rw [if_neg (by simp)]
   refine wpAny_bind (wpAny_pure (wpAny_bind (wpAny_setEpoch_of ho hd hf ?_)))
   refine wpAny_bind (wpAny_newObj_type (wpAny_pure ⟨_,rfl,"set_iterator",_,⟨_,Heap.get?_push_size _ rfl,rfl⟩,slot_seti_next.lookup,?_⟩))
   refine hQ _ s.drawn s.heap.objs.size [s.heap.objs.size,a] (es.toList.map (·.2)) _ (fun A' hh=>walks_int (es:=es) (ep:=ep) (t:=t) hh (Nat.ne_of_lt alt) (slotAt t) _ (fun i hi=>?_) (fun s' Q' E' S' q=>next_place S' hb hdr ?_)) ⟨⟨_,Heap.get?_push_size _ rfl,rfl,rfl⟩,S0.keep fun o e=>Heap.get?_push_of_some _ e⟩ (List.Perm.refl _) (fun b o e=>Heap.get?_push_of_some _ e) (Nat.le_refl _) (fun b hb=>?_)
   · refine ⟨es[i].2,?_,fun s' Q' E' S' q=>next_place S' hb hdr ?_⟩
     · rw [List.getElem?_map,Array.getElem?_toList,Array.getElem?_eq_getElem hi];rfl
     · rw [below_at ha (by omega),Array.getElem?_eq_getElem hi,Array.getElem?_eq_getElem (by omega)]
       have e:slotAt t (i+1)=t.place[i]'(by omega)+1:=by
        unfold slotAt
        rw [if_neg (Nat.succ_ne_zero _),Nat.add_sub_cancel,Array.getD_eq_getD_getElem?,Array.getElem?_eq_getElem (by omega)];rfl
       rw [e] at q
       exact q
   · rw [below_at ha (by omega),Array.getElem?_eq_none (Nat.le_refl _)];exact q
   · simp at hb;rcases hb with rfl | rfl
     · exact .inr (Nat.le_refl _)
     · exact .inl rfl
  | true=>
   rw [if_pos (by simp)]
   refine wpAny_bind (draw_perm es.size (List.range es.size) s _ (by simp) fun ps d hp=>?_)
   refine wpAny_bind (wpAny_newTuple ?_ (by rw [List.length_map,hp.length_eq,List.length_range];exact hsz))
   have k1:∀ b o,s.heap.get? b=some o→(s.heap.push { cls:=.type "tuple",data:=.seq (ps.map fun (j:Nat)=>rawInt j).toArray }).get? b=some o:=fun b o e=>Heap.get?_push_of_some _ e
   refine wpAny_bind (wpAny_setEpoch_of (k1 _ _ ho) hd hf ?_)
   refine wpAny_bind (wpAny_newObj_type (wpAny_pure ⟨_,rfl,"set_iterator",_,⟨_,Heap.get?_push_size _ rfl,rfl⟩,slot_seti_next.lookup,?_⟩))
   have sz1:(s.heap.push { cls:=.type "tuple",data:=.seq (ps.map fun (j:Nat)=>rawInt j).toArray }).objs.size=s.heap.objs.size+1:=Heap.size_push ..
   refine hQ _ d (s.heap.push { cls:=.type "tuple",data:=.seq (ps.map fun (j:Nat)=>rawInt j).toArray }).objs.size _ (ps.map fun j=>(es.getD j (0,.none)).2) _ (fun A' hh=>walks_drawn (es:=es) (ep:=ep) (t:=t) hh (by rw [sz1];exact Nat.ne_of_lt (Nat.lt_succ_of_lt alt)) (q:=s.heap.objs.size) (by rw [sz1];exact Nat.ne_of_lt (Nat.lt_succ_self _)) ps hp) ⟨⟨_,Heap.get?_push_size _ rfl,rfl,rfl⟩,S0.keep fun o e=>Heap.get?_push_of_some _ (k1 _ _ e),Heap.get?_push_of_some _ (Heap.get?_push_size _ rfl)⟩ ?_ (fun b o e=>Heap.get?_push_of_some _ (k1 _ _ e)) (by rw [sz1];exact Nat.le_succ _) (fun b hb=>?_)
   · refine (hp.map _).trans (List.Perm.of_eq ?_)
     apply List.ext_getElem
     · rw [List.length_map,List.length_range,List.length_map,Array.length_toList]
     · intro i h1 h2
       rw [List.getElem_map,List.getElem_range,List.getElem_map,Array.getElem_toList]
       rw [List.length_map,Array.length_toList] at h2
       rw [Array.getD_eq_getD_getElem?,Array.getElem?_eq_getElem h2];rfl
   · simp at hb;rcases hb with rfl | rfl | rfl
     · exact .inr (by first | exact Nat.le_succ _ | (rw [sz1];exact Nat.le_succ _))
     · exact .inl rfl
     · exact .inr (Nat.le_refl _)
end
end L2
set_option maxHeartbeats 2000000
namespace L2
open PySem PySem.Spec PyProof.Rows PySem.SeqAt
theorem set_len':typeLookup (.type "set") "__len__" = pure (some (.builtin "set.__len__")):=by rw [typeLookup_type,builtinLookup_eq_fast];kernel_rfl
section
variable {prog:Program}{w:World}{A:Around}{E:Value→Shared→Prop}{s:Shared}
variable {a:Addr}{es:Array (Int×Value)}{ep:Nat}{t:SetTable}
theorem collect_set {Q:List Value→Shared→Prop}(hh:A.handled=none) (S:SetAt w s.heap a es ep t) (hn:es.size≤sizeLine)
 (hQ:∀ (s':Shared) (acc:List Value),(∀ b o,s.heap.get? b=some o→s'.heap.get? b=some o)→s'.gens=s.gens→s'.os=s.os→s.toks≤s'.toks→s.heap.objs.size<s'.heap.objs.size→acc.Perm (es.toList.map (·.2))→Q acc s') :
 wpAny (model prog w) A (collect (.ref a)) Q E s:=by
 have S0:=S
 obtain ⟨o,ho,hc,hd,hf,ha,hl⟩:=S
 have alt:a<s.heap.objs.size:=Heap.lt_size ho
 unfold collect
 refine wpAny_bind (wpAny_runValue (codeAny_builtin F.entry_proto_collect ?_))
 rw [Around.under_plainId F.plain_proto_collect _]
 show wpAny _ A.in1 (newList [] >>= fun l=>again (.builtin "list.__iadd__" ⟨[l,.ref a],[]⟩)) _ _ s
 refine wpAny_bind (wpAny_newObj_type ?_)
 refine wpAny_pure ⟨plainId_quiet F.plain_list_iadd _,codeAny_builtin F.entry_list_iadd ?_⟩
 rw [Around.under_plainId F.plain_list_iadd _]
 show wpAny _ A.in1 (Builtin.List.listExtendWith (.ref s.heap.objs.size) (.ref a) (.ref s.heap.objs.size)) _ _ _
 have k1:∀ b o,s.heap.get? b=some o→(s.heap.push { cls:=.type "list",data:=.seq ([]:List Value).toArray }).get? b=some o:=fun b o e=>Heap.get?_push_of_some _ e
 have S1:SetAt w (s.heap.push { cls:=.type "list",data:=.seq ([]:List Value).toArray }) a es ep t:=S0.keep fun o e=>k1 _ _ e
 have hS1:(s.heap.push { cls:=.type "list",data:=.seq ([]:List Value).toArray }).get? s.heap.objs.size=some { cls:=.type "list",data:=.seq ([]:List Value).toArray }:=Heap.get?_push_size _ rfl
 have z1:(s.heap.push { cls:=.type "list",data:=.seq ([]:List Value).toArray }).objs.size=s.heap.objs.size+1:=Heap.size_push ..
 unfold Builtin.List.listExtendWith
 refine wpAny_bind (wpAny_typeOf (T:="set") ⟨o,k1 _ _ ho,hc⟩ ?_)
 have h1:Builtin.List.listSameRef (.ref s.heap.objs.size) (.ref a)=false:=by simp [Builtin.List.listSameRef];exact Nat.ne_of_gt alt
 have h2:(Value.type "set" == Value.type "list")=false:=by decide
 have h3:(Value.type "set" == Value.type "tuple")=false:=by decide
 simp only [h1,h2,h3,Bool.or_false,Bool.false_eq_true,if_false]
 refine wpAny_bind (iter_set S1 hn fun h' d I fp ord St W st0 pm kp hI hfp=>?_)
 refine wpAny_bind (wpAny_holding ?_)
 unfold Builtin.List.listLengthHint
 refine wpAny_bind (wpAny_specialOf (T:="set") ⟨o,kp _ _ (k1 _ _ ho),hc⟩ set_len' ?_)
 wp_delta
 refine wpAny_bind (wpAny_isInstance (T:="set") (b:=true) ⟨o,kp _ _ (k1 _ _ ho),hc⟩ (by rw [isSubtype_type];kernel_rfl) ?_)
 show wpAny _ A.in1 (typeOf (Value.ref a) >>= _) _ _ _
 refine wpAny_bind (wpAny_typeOf (T:="set") ⟨o,kp _ _ (k1 _ _ ho),hc⟩ ?_)
 refine wpAny_pure ?_
 show wpAny _ A.in1 (rule "list.extend.makes-room" >>= fun _=>Builtin.List.listTouch (.ref s.heap.objs.size) >>= fun _=>
  again (.builtin "list.extend.loop" ⟨[.ref s.heap.objs.size,.ref I,.ref s.heap.objs.size],[]⟩)) _ _ _
 refine wpAny_bind (wpAny_rule ?_)
 refine wpAny_bind ?_
 show wpAny _ A.in1 (updateSeq s.heap.objs.size (·.push .none) >>= fun _=>updateSeq s.heap.objs.size (·.pop)) _ _ _
 have hL:=kp _ _ hS1
 refine wpAny_bind (wpAny_updateSeq hL rfl ?_)
 have hL2:=Heap.get?_update_self (Obj.mapSeq (·.push Value.none)) hL rfl
 refine wpAny_updateSeq hL2 rfl ?_
 have hL3:=Heap.get?_update_self (Obj.mapSeq (·.pop)) hL2 rfl
 have oth:∀ b o,b≠s.heap.objs.size→h'.get? b=some o→((h'.update s.heap.objs.size (Obj.mapSeq (·.push Value.none))).update s.heap.objs.size (Obj.mapSeq (·.pop))).get? b=some o:=
  fun b o hb e=>(Heap.get?_update_other _ _ (Ne.symm hb)).trans ((Heap.get?_update_other _ _ (Ne.symm hb)).trans e)
 have hSf:s.heap.objs.size∉fp:=fun hm=>by
  rcases hfp _ hm with z | z
  · exact absurd z (Nat.ne_of_gt alt)
  · rw [z1] at z;omega
 have Wc:=W A.in1 hh
 refine wpAny_pure ⟨plainId_quiet F.plain_extend_loop _,codeAny_extend_loopS Wc.toS hn _ hSf _ es.size 0 _ _ _ rfl (Nat.zero_le _) (Wc.frame 0 _ _ st0 fun b hb o e=>oth b o (fun z=>hSf (z▸hb)) e) hL3 (ItemsOf.nil _) fun s' acc' c' hm hS' hacc=>?_⟩
 show wpAny _ A (load s.heap.objs.size >>= _) _ _ s'
 refine wpAny_bind (wpAny_load hS' ?_)
 refine wpAny_pure (hQ s' acc'.toList (fun b ob e=>?_) hm.gens hm.os hm.toks (Heap.lt_size hS') ?_)
 · have hlt:=Heap.lt_size e
   refine hm.heap b ob (fun hb=>?_) (oth b ob (Nat.ne_of_lt hlt) (kp _ _ (k1 _ _ e)))
   rcases List.mem_cons.mp hb with z | z
   · exact absurd hlt (z▸Nat.lt_irrefl _)
   · rw [List.mem_singleton.mp z] at hlt
     have hI':s.heap.objs.size+1≤I:=by rw [← z1];exact hI
     exact absurd hlt (Nat.not_lt.mpr (Nat.le_trans (Nat.le_succ _) hI'))
 · have el:acc'.toList=ord:=by
    have ol:ord.length=es.size:=by rw [pm.length_eq,List.length_map,Array.length_toList]
    apply List.ext_getElem?
    intro i
    rcases Nat.lt_or_ge i es.size with c | c
    · have hi:i<acc'.size:=by rw [hacc.1];exact c
      have:=hacc.2 i acc'[i] (Array.getElem?_eq_getElem hi)
      rw [this,Array.getElem?_toList,Array.getElem?_eq_getElem hi]
    · rw [List.getElem?_eq_none (by rw [Array.length_toList,hacc.1];exact c),List.getElem?_eq_none (by omega)]
   rw [el];exact pm
theorem intsOf:∀ {vs:List Value},(∀ v∈vs,∃ n t,v = .int n t)→IntsAre vs (vs.map numOf)
 | [],_=>.nil
 | v::vs,h=>by
  obtain ⟨n,t,rfl⟩:=h v List.mem_cons_self
  exact .cons n t (intsOf fun v hv=>h v (List.mem_cons_of_mem _ hv))
theorem intsPerm {us vs:List Value}{ns:List Int}(p:us.Perm vs) (h:IntsAre vs ns):∃ ms,IntsAre us ms∧ms.Perm ns:=
 ⟨us.map numOf,intsOf fun v hv=>h.all v (p.mem_iff.mp hv),by rw [← h.nums];exact p.map _⟩
theorem sorted_setAt {ns:List Int}{Q:Value→Shared→Prop}(hh:A.handled=none) (S:SetAt w s.heap a es ep t) (hI:IntsAre (es.toList.map (·.2)) ns) (h64:es.size<64)
 (h:∀ (s':Shared) (l:Addr) (out:Array Value) (ns':List Int) (e:Nat),IntsAre out.toList ns'→ns'.Perm ns→ns'.Pairwise (·≤·)→(∀ b o,s.heap.get? b=some o→s'.heap.get? b=some o)→s'.gens=s.gens→s'.os=s.os→s.toks≤s'.toks→s.heap.objs.size≤l→s'.heap.get? l=some (seqObj "list" out e)→Q (.ref l) s') :
 wpAny (model prog w) A (call (.builtin "sorted") [.ref a]) Q E s:=by
 refine Calls.call_function_entry kind_sorted plain_sorted entry_sorted (args_sorted1 _) ?_
 unfold Builtin.«sorted»
 refine wpAny_bind (m:=checkCount "sorted" 1 1 _) (wpAny_pure ?_)
 refine wpAny_bind (collect_set hh S (by rw [sizeLine_eq];omega) fun s1 acc kp hg ho ht sz0 pm=>?_)
 have al:acc.length=es.size:=by rw [pm.length_eq,List.length_map,Array.length_toList]
 obtain ⟨ms,hms,pms⟩:∃ ms,IntsAre acc ms∧ms.Perm ns:=intsPerm pm hI
 refine wpAny_bind (wpAny_newList ?_ (by rw [sizeLine_eq];omega))
 have hoL:(s1.heap.push (seqObj "list" acc.toArray 0)).get? s1.heap.objs.size=some (seqObj "list" acc.toArray 0):=Heap.get?_push_size _ rfl
 have sz:s.heap.objs.size≤s1.heap.objs.size:=Nat.le_of_lt sz0
 refine wpAny_bind (wpAny_holding (wpAny_call_entry slot_list_sort ⟨_,hoL,rfl⟩ entry_list_sort (list_sort_tree (s:={ s1 with heap:=s1.heap.push (seqObj "list" acc.toArray 0) }) hoL hms (by omega) fun out ns' a1 a2 a3=>⟨_,rfl,?_⟩) (args_list_sort _)))
 obtain ⟨e,he⟩:=sortedHeap_at (out:=out) hoL
 refine wpAny_pure ⟨_,rfl,h _ _ out ns' e a1 (a2.trans pms) a3 (fun b o eb=>?_) hg ho ht sz he⟩
 have e1:=kp b o eb
 have lt:=Heap.lt_size e1
 exact (sortedHeap_old (Nat.ne_of_lt lt) (by rw [size_push'];exact Nat.lt_succ_of_lt lt)).trans (Heap.get?_push_of_some _ e1)
end
end L2
set_option maxHeartbeats 2000000
namespace L2
open PySem PySem.Spec PyProof.Rows PySem.SeqAt
theorem met_sorted {ns ms ns':List Int}(hn:ns.Nodup) (hm:∀ k,k∈ns↔k∈ms) (hl:ms.length=ns.length) (hp:ns'.Perm ms) (hs:ns'.Pairwise (·≤·)):(∀ k,k∈ns'↔k∈ns)∧ns'.Pairwise (· < ·):=by
 have nd:ms.Nodup:=My.nd_sup hn (fun x hx=>(hm x).mp hx) (by omega)
 have nd':ns'.Nodup:=hp.nodup_iff.mpr nd
 refine ⟨fun k=>by rw [hp.mem_iff,hm],?_⟩
 refine (List.Pairwise.and hs nd').imp fun {a b} h=>?_
 have h1:=h.1
 have h2:=h.2
 omega
section
variable {prog:Program}{w:World}{s:Shared}
theorem SetI.setAt {h:Heap}{a:Addr}{ns:List Int}(hn:ns.Nodup) (S:SetI prog w h a ns):∃ (es:Array (Int×Value)) (ep:Nat) (t:SetTable) (ms:List Int),SetAt w h a es ep t∧IntsAre (es.toList.map (·.2)) ms∧es.size=ns.length∧ms.length=ns.length∧∀ k,k∈ns↔k∈ms:=by
 obtain ⟨o,es,ep,t,ho,hex,hd,hel,hm,hb,hf,hz,ha,hl⟩:=S
 have all:∀ v∈es.toList.map (·.2),∃ n t,v=Value.int n t:=fun v hv=>by
  obtain ⟨e,he,rfl⟩:=List.mem_map.mp hv
  obtain ⟨⟨k,hk,_⟩,_⟩:=hel e he
  obtain ⟨t,et⟩:=Value.isInt_shape hk
  exact ⟨k,t,et⟩
 refine ⟨es,ep,t,_,⟨o,ho,hex.1,hd,hf,ha,hl⟩,intsOf all,hz,by rw [List.length_map,List.length_map,Array.length_toList,hz],fun k=>?_⟩
 rw [← List.contains_iff_mem,hm k]
 constructor
 · rintro ⟨e,he,hk⟩
   obtain ⟨t,et⟩:=Value.isInt_shape hk
   exact List.mem_map.mpr ⟨_,List.mem_map.mpr ⟨e,he,rfl⟩,by rw [et];rfl⟩
 · intro hk
   obtain ⟨v,hv,e1⟩:=List.mem_map.mp hk
   obtain ⟨e,he,rfl⟩:=List.mem_map.mp hv
   obtain ⟨⟨k',hk',_⟩,_⟩:=hel e he
   obtain ⟨t,et⟩:=Value.isInt_shape hk'
   rw [et] at e1
   have:k'=k:=e1
   subst this
   exact ⟨e,he,hk'⟩
end
section
variable {X:Cx}{pins:List (Addr×Obj)}{σ:St}{H:Hp}{s:Shared}
theorem Inv.drew (I:Inv X pins σ H s) (d:Drawn):Inv X pins σ H { s with drawn:=d }:=by
 refine I.step (g':=s.gens) (d':=d) (t':=s.toks) (h':=s.heap) (ch:=[]) (fun _ z=>nomatch z) (fun b o _ _ _ e _=>e) (fun b o _ _ _ e _=>⟨o.slots,e⟩) (fun _ _ _ _ n=>n) (fun b o _ e=>⟨o,e⟩) (fun _ _ e=>e) (fun _ _ _ e=>e) (fun b ps e=>⟨#[],by rw [e];simp⟩) (fun m hm=>hm) I.hok I.bare
noncomputable def rSortSet:List V→Hp→VK→Prop:=fun xs H Q=>∃ (p:Addr) (ns:List Int),xs=[.ref p]∧H p=some (.lst (ns.map V.int))∧ns.length<64∧∀ (ns':List Int) (l:Addr),(∀ k,k∈ns'↔k∈ns)→ns'.Pairwise (· < ·)→ns'.length≤ns.length→H l=none→Q (.ref l) (upd H l (.lst (ns'.map V.int)))
theorem pe_sortSet {x1 x2:Str}{p1 p2 pos1 pos2:Pos}{e:Expr}{t:TA}(hc:X.calm=true) (hg1:Gl X x1) (hm1:X.mg x1=none) (hv1:bootBuiltins x1=some (.builtin "sorted")) (hg2:Gl X x2) (hm2:X.mg x2=none) (hv2:bootBuiltins x2=some (.type "set")) (ha:PA X [e] t)
 (hn1:x1≠"__name__":=by decide) (hdb1:(x1==("__debug__":Str))=false:=by decide) (hn2:x2≠"__name__":=by decide) (hdb2:(x2==("__debug__":Str))=false:=by decide)
 (he:starEach [e] X.env=(false,eval e X.env)::starEach [] X.env:=by rfl) :
 PE X (.Call (.Name x1 p1) [.Call (.Name x2 p2) [e] [] pos2] [] pos1) (tCB rSortSet t):=by
 intro pins s σ H Q I h
 refine wpAny_Call_Name_kw (ld_blt I hg1 hm1 hv1 ?_ hn1 hdb1)
 refine PyProof.Rows.callWith_builtin1 ?_ rfl rfl
 show wpAny _ _ (spliced ((false,eval (.Call (.Name x2 p2) [e] [] pos2) X.env)::backTo pos1 (starEach [] X.env))) _ _ s
 refine Calls.spliced_cons ?_
 refine wpAny_Call_Name_kw (ld_blt I hg2 hm2 hv2 ?_ hn2 hdb2)
 refine PyProof.Rows.callWith_type1 (thn (ha pos2 pins s σ H _ I h) fun us s1 q0=>?_) he rfl
 obtain ⟨vs,H1,I1,r1,p,ns,rfl,hp,h64,q⟩:=q0
 obtain ⟨u,rfl,ru⟩:=vals1 r1
 cases ru
 obtain ⟨z,its,n,rv,hl,e1⟩:=I1.lstM hp
 rw [List.length_map] at hl
 have hh:X.A.handled=none:=I1.ok.hd hc
 refine call_setI hh ⟨_,e1,rfl,n,rfl⟩ (intsAre_of rv) (by show its.toArray.size+1<scanBound;rw [List.size_toArray];unfold scanBound;omega) fun h' tk hS kp=>?_
 refine Calls.spliced_nil ?_
 have mn:=met_nd (fun i=>ns.getD i 0) its.toArray.size
 obtain ⟨es,ep,tb,ms,S,hI,hz,hlm,hmm⟩:=hS.setAt mn
 have ml:(metL (fun i=>ns.getD i 0) its.toArray.size).length≤its.length:=Nat.le_trans (met_len (fun i=>ns.getD i 0) its.toArray.size) (Nat.le_of_eq List.size_toArray)
 have k1:∀ b o,s1.heap.get? b=some o→h'.get? b=some o:=fun b o e=>kp b o (Heap.lt_size e) e
 have sz1:s1.heap.objs.size≤h'.objs.size:=by
  obtain ⟨o,ho,_⟩:=S
  exact Nat.le_of_lt (Heap.lt_size ho)
 refine sorted_setAt hh S hI (by omega) fun s' l out ns' e9 a1 a2 a3 kp2 hg ho ht hl2 he9=>?_
 have hs:=met_sorted mn hmm hlm a2 a3
 have I2:=I1.laid (a:=l) (h':=s'.heap) (t':=s'.toks) (o:=.lst (ns'.map V.int)) (fun b u e=>kp2 b u (k1 b u e)) (Nat.le_trans sz1 hl2) ⟨by rw [List.length_map,a2.length_eq,sizeLine_eq];omega,out.toList,e9,vals_of_ints a1,he9⟩
 have I3:=I2.drew s'.drawn
 have es':({ s1 with heap:=s'.heap,toks:=s'.toks,drawn:=s'.drawn }:Shared)=s':=by
  obtain ⟨a,b,c,d,e⟩:=s'
  simp only at hg ho
  subst hg;subst ho
  rfl
 rw [es'] at I3
 refine ⟨.ref l,_,I3,rfl,q ns' l (fun k=>?_) hs.2 (by rw [a2.length_eq];omega) (I1.hok.fresh (Nat.le_trans sz1 hl2))⟩
 rw [hs.1 k,met_mem]
 constructor
 · rintro ⟨j,hj,rfl⟩
   rw [List.size_toArray,← hl] at hj
   rw [List.getD_eq_getElem?_getD,List.getElem?_eq_getElem hj]
   exact List.getElem_mem _
 · intro hk
   obtain ⟨j,hj,e⟩:=List.mem_iff_getElem.mp hk
   refine ⟨j,by rw [List.size_toArray,← hl];exact hj,?_⟩
   rw [List.getD_eq_getElem?_getD,List.getElem?_eq_getElem hj];exact e
end
end L2
namespace My
open PySem PySem.Spec PyProof.Rows L2
noncomputable def fSortSet:List PyData→(List PyData→Prop)→Prop:=fun ds P=>∃ ns:List Int,ds=[.list (ns.map .int)]∧ns.length<64∧∀ ns':List Int,(∀ k,k∈ns'↔k∈ns)→ns'.Pairwise (· < ·)→P (ns'.map .int)
noncomputable instance cn_sortSet:CN rSortSet fSortSet:=⟨fun {ex H xs ds Q P} r h k=>by
 obtain ⟨ns,rfl,h64,hp⟩:=h
 cases r with
 | cons r1 t=>
  cases t
  cases r1 with
  | @list p vs _ e nm z rr=>
   cases rr.ints_inv
   refine ⟨p,ns,rfl,e,h64,fun ns' l hq hs hlen hn=>k _ l _ (hp ns' hq hs) hn ?_ (reps_ints _)⟩
   rw [List.length_map,sizeLine_eq];omega⟩
theorem rising_one:∀ {xs ys:List Int},xs.Pairwise (· < ·)→ys.Pairwise (· < ·)→(∀ k,k∈xs↔k∈ys)→xs=ys
 | [],[],_,_,_=>rfl
 | [],y::ys,_,_,h=>absurd ((h y).mpr List.mem_cons_self) (by simp)
 | x::xs,[],_,_,h=>absurd ((h x).mp List.mem_cons_self) (by simp)
 | x::xs,y::ys,hx,hy,h=>by
  obtain ⟨x1,x2⟩:=List.pairwise_cons.mp hx
  obtain ⟨y1,y2⟩:=List.pairwise_cons.mp hy
  have exy:x=y:=by
   rcases List.mem_cons.mp ((h x).mp List.mem_cons_self) with z | z
   · exact z
   · have a:=y1 x z
     rcases List.mem_cons.mp ((h y).mpr List.mem_cons_self) with z2 | z2
     · exact z2.symm
     · have b:=x1 y z2
       omega
  subst exy
  rw [rising_one x2 y2 fun k=>?_]
  constructor
  · intro hk
    rcases List.mem_cons.mp ((h k).mp (List.mem_cons_of_mem _ hk)) with z | z
    · have:=x1 k hk;omega
    · exact z
  · intro hk
    rcases List.mem_cons.mp ((h k).mpr (List.mem_cons_of_mem _ hk)) with z | z
    · have:=y1 k hk;omega
    · exact z
noncomputable def Nl (P:List Nat) (x f:Fn):Int:=(P.map fun q=>f q*x q).sum
theorem Nl_zero {P:List Nat}{x:Fn}:Nl P x (fun _=>0)=0:=by
 unfold Nl
 induction P with
 | nil=>rfl
 | cons p P ih=>rw [List.map_cons,List.sum_cons,ih,Int.zero_mul];rfl
theorem Nl_add {P:List Nat}{x f g:Fn}:Nl P x (fun j=>f j+g j)=Nl P x f+Nl P x g:=by
 unfold Nl
 induction P with
 | nil=>rfl
 | cons p P ih=>rw [List.map_cons,List.sum_cons,ih,List.map_cons,List.sum_cons,List.map_cons,List.sum_cons,Int.add_mul];omega
theorem Nl_mul {P:List Nat}{a:Int}{x f:Fn}:Nl P x (fun j=>a*f j)=a*Nl P x f:=by
 unfold Nl
 induction P with
 | nil=>exact (Int.mul_zero a).symm
 | cons p P ih=>rw [List.map_cons,List.sum_cons,ih,List.map_cons,List.sum_cons,Int.mul_add,Int.mul_assoc]
theorem Nl_van {P:List Nat}{x f:Fn}{rows:List (List Int)}(hr:∀ r∈rows,Nl P x (fnR r)=0) (h:QS rows f):Nl P x f=0:=
 QS.van (Nl P x) Nl_zero (fun _ _=>Nl_add) (fun _ _=>Nl_mul) hr h
theorem Nl_ext {P:List Nat}{x y f:Fn}(h:∀ q∈P,f q*x q=f q*y q):Nl P x f=Nl P y f:=by
 unfold Nl
 rw [List.map_congr_left h]
theorem Nl_perm {P P':List Nat}{x f:Fn}(h:P.Perm P'):Nl P x f=Nl P' x f:=by
 unfold Nl
 induction h with
 | nil=>rfl
 | cons p _ ih=>rw [List.map_cons,List.sum_cons,ih,List.map_cons,List.sum_cons]
 | swap p q l=>simp only [List.map_cons,List.sum_cons];omega
 | trans _ _ i1 i2=>exact i1.trans i2
theorem Nl_one {P:List Nat}{x f:Fn}{p:Nat}(nd:P.Nodup) (hp:p∈P) (hz:∀ q∈P,q≠p→f q*x q=0):Nl P x f=f p*x p:=by
 have z:∀ (l:List Nat),(∀ q∈l,f q*x q=0)→Nl l x f=0:=by
  intro l
  induction l with
  | nil=>exact fun _=>rfl
  | cons y l ih=>
   intro h
   have:=ih fun z hz=>h z (List.mem_cons_of_mem _ hz)
   unfold Nl at this ⊢
   rw [List.map_cons,List.sum_cons,h y List.mem_cons_self,this];rfl
 have h1:=Nl_perm (x:=x) (f:=f) (List.perm_cons_erase hp)
 rw [h1]
 have h2:=z (P.erase p) fun q hq=>hz q (List.mem_of_mem_erase hq) ((List.Nodup.mem_erase_iff nd).mp hq).1
 unfold Nl at h2 ⊢
 rw [List.map_cons,List.sum_cons,h2,Int.add_zero]
theorem across:∀ {gs:List Fn}{P:List Nat},P.Nodup→gs.length<P.length→∃ x:Fn,(∃ p∈P,x p≠0)∧∀ g∈gs,Nl P x g=0
 | [],[],_,h=>absurd h (Nat.lt_irrefl _)
 | [],p::P,_,_=>⟨fun _=>1,⟨p,List.mem_cons_self,fun z=>by cases z⟩,fun g hg=>by cases hg⟩
 | g::gs,P,nd,h=>by
  by_cases c:∀ p∈P,g p=0
  · obtain ⟨x,hx,hv⟩:=across (gs:=gs) nd (Nat.lt_trans (Nat.lt_succ_self _) h)
    refine ⟨x,hx,fun f hf=>?_⟩
    rcases List.mem_cons.mp hf with rfl | hf
    · have:=Nl_ext (P:=P) (x:=x) (y:=fun _=>0) (f:=f) fun q hq=>by rw [c q hq,Int.zero_mul,Int.zero_mul]
      rw [this]
      unfold Nl
      clear this hx hv c h nd
      induction P with
      | nil=>rfl
      | cons y P ih=>rw [List.map_cons,List.sum_cons,ih,Int.mul_zero];rfl
    · exact hv f hf
  · obtain ⟨p,hp,hg⟩:∃ p,p∈P∧g p≠0:=by
     apply Classical.byContradiction
     intro z
     exact c fun p hp=>Classical.byContradiction fun w=>z ⟨p,hp,w⟩
    have le:(P.erase p).length=P.length-1:=List.length_erase_of_mem hp
    obtain ⟨x,⟨q,hq,hx⟩,hv⟩:=across (gs:=gs.map fun h=>fun j=>g p*h j-h p*g j) (P:=P.erase p) (nd.erase p) (by rw [List.length_map,le];simp only [List.length_cons] at h;omega)
    have ne:∀ q∈P.erase p,q≠p:=fun q hq=>((List.Nodup.mem_erase_iff nd).mp hq).1
    refine ⟨fun j=>if j=p then -(Nl (P.erase p) x g) else g p*x j,⟨q,List.mem_of_mem_erase hq,?_⟩,fun f hf=>?_⟩
    · show (if q=p then _ else g p*x q)≠0
      rw [if_neg (ne q hq)]
      intro z
      rcases Int.mul_eq_zero.mp z with z | z
      · exact hg z
      · exact hx z
    · have e1:Nl P (fun j=>if j=p then -(Nl (P.erase p) x g) else g p*x j) f=f p * -(Nl (P.erase p) x g)+g p*Nl (P.erase p) x f:=by
       rw [Nl_perm (List.perm_cons_erase hp)]
       have e2:Nl (P.erase p) (fun j=>if j=p then -(Nl (P.erase p) x g) else g p*x j) f=g p*Nl (P.erase p) x f:=by
        rw [← Nl_mul]
        unfold Nl
        refine congrArg List.sum (List.map_congr_left fun q hq=>?_)
        show f q*(if q=p then _ else g p*x q)=g p*f q*x q
        rw [if_neg (ne q hq),← Int.mul_assoc,Int.mul_comm (f q)]
       rw [← e2]
       conv=>lhs;unfold Nl
       rw [List.map_cons,List.sum_cons]
       show f p*(if p=p then _ else _)+_=_
       rw [if_pos rfl]
       rfl
      rw [e1]
      rcases List.mem_cons.mp hf with rfl | hf
      · rw [Int.mul_neg];omega
      · have h1:=hv _ (List.mem_map.mpr ⟨f,hf,rfl⟩)
        have h2:Nl (P.erase p) x (fun j=>g p*f j-f p*g j)=g p*Nl (P.erase p) x f+(-(f p))*Nl (P.erase p) x g:=by
         rw [← Nl_mul,← Nl_mul,← Nl_add]
         unfold Nl
         refine congrArg List.sum (List.map_congr_left fun q _=>?_)
         show (g p*f q-f p*g q)*x q=(g p*f q + -(f p)*g q)*x q
         rw [Int.neg_mul,Int.sub_eq_add_neg]
        rw [h2,Int.neg_mul] at h1
        rw [Int.mul_neg]
        omega
termination_by gs=>gs.length
decreasing_by
 all_goals simp_wf
noncomputable def lesI (f:List Int):List Int:=f.map fun x=>x.fdiv (max 1 ((gcdL f:Nat):Int))
noncomputable def offH (by_ row:List Int) (p:Nat):List Int:=row.zipWith (fun x y=>x*by_.getD p 0-y*row.getD p 0) by_
noncomputable abbrev Ap:=List (List Int)×Sr
noncomputable def apStep (p:Nat) (st:Ap):Ap:=match st.1.filter (fun r=>decide (r.getD p 0≠0)) with
 | []=>st
 | by_::_=>((st.1.erase by_).map (fun r=>lesI (offH by_ r p)),(p,by_)::st.2)
noncomputable def apTo (rows:List (List Int)):Nat→Ap
 | 0=>(rows,[])
 | i+1=>apStep i (apTo rows i)
theorem off_len {by_ row:List Int}{p:Nat}(h:row.length=by_.length):(lesI (offH by_ row p)).length=row.length:=by unfold lesI offH;rw [List.length_map,List.length_zipWith,h,Nat.min_self]
theorem off_get {by_ row:List Int}{p:Nat}(h:row.length=by_.length):∃ G:Int,G≠0∧∀ j,(lesI (offH by_ row p)).getD j 0*G=Tf by_ p (fnR row) j:=by
 refine ⟨max 1 ((gcdL (offH by_ row p):Nat):Int),by omega,fun j=>?_⟩
 have hf:(offH by_ row p).getD j 0=row.getD j 0*by_.getD p 0-by_.getD j 0*row.getD p 0:=getD_zip (by simp) j h
 have hT:Tf by_ p (fnR row) j=(offH by_ row p).getD j 0:=by
  rw [hf]
  unfold Tf fnR
  rw [Int.mul_comm,Int.mul_comm (row.getD p 0)]
 rw [hT]
 unfold lesI
 generalize offH by_ row p=f
 have dv:∀ x∈f,max 1 ((gcdL f:Nat):Int) ∣ x:=fun x hx=>by
  have h1:((gcdL f:Nat):Int) ∣ x:=gcd_dvd x hx
  rcases Nat.eq_zero_or_pos (gcdL f) with z | z
  · rw [z];exact Int.one_dvd _
  · rw [show max 1 ((gcdL f:Nat):Int)=((gcdL f:Nat):Int) by omega]
    exact h1
 by_cases hj:j<f.length
 · rw [List.getD_eq_getElem?_getD,List.getD_eq_getElem?_getD,List.getElem?_map,List.getElem?_eq_getElem hj]
   exact Int.fdiv_mul_cancel (dv _ (List.getElem_mem hj))
 · rw [List.getD_eq_getElem?_getD,List.getD_eq_getElem?_getD,List.getElem?_map,List.getElem?_eq_none (by omega)]
   simp
structure ApI (w p:Nat) (rows:List (List Int)) (st:Ap):Prop where
 len:∀ r∈st.1,r.length=w
 z:∀ r∈st.1,∀ q,q<p→r.getD q 0=0
 k:∀ k∈st.2,k.1<p∧k.2.getD k.1 0≠0∧∀ q,q<k.1→k.2.getD q 0=0
 nd:(st.2.map (·.1)).Nodup
 of:(∀ r∈st.1,QS rows (fnR r))∧∀ k∈st.2,QS rows (fnR k.2)
 s:∀ r∈rows,QS (st.1++st.2.map (·.2)) (fnR r)
theorem ap_step {w p:Nat}{rows:List (List Int)}{st:Ap}(h:ApI w p rows st):ApI w (p+1) rows (apStep p st):=by
 unfold apStep
 split
 · rename_i hf
   refine ⟨h.len,fun r hr q hq=>?_,fun k hk=>⟨Nat.lt_succ_of_lt (h.k k hk).1,(h.k k hk).2⟩,h.nd,h.of,h.s⟩
   by_cases c:q=p
   · subst c
     by_cases c:r.getD q 0=0
     · exact c
     · have:r∈st.1.filter (fun r=>decide (r.getD q 0≠0)):=List.mem_filter.mpr ⟨hr,decide_eq_true c⟩
       rw [hf] at this;cases this
   · exact h.z r hr q (by omega)
 · rename_i by_ rest hf
   have hm:by_∈st.1.filter (fun r=>decide (r.getD p 0≠0)):=by rw [hf];exact List.mem_cons_self
   obtain ⟨hb,hp0⟩:=List.mem_filter.mp hm
   have hp0:by_.getD p 0≠0:=of_decide_eq_true hp0
   have bl:=h.len by_ hb
   have er:∀ r,r∈st.1.erase by_→r∈st.1:=fun r hr=>List.mem_of_mem_erase hr
   refine ⟨fun r hr=>?_,fun r hr q hq=>?_,fun k hk=>?_,?_,⟨fun r hr=>?_,fun k hk=>?_⟩,fun r hr=>?_⟩
   · obtain ⟨r0,hr0,rfl⟩:=List.mem_map.mp hr
     rw [off_len (by rw [h.len r0 (er r0 hr0),bl])]
     exact h.len r0 (er r0 hr0)
   · obtain ⟨r0,hr0,rfl⟩:=List.mem_map.mp hr
     obtain ⟨G,hG,hj⟩:=off_get (by_:=by_) (row:=r0) (p:=p) (by rw [h.len r0 (er r0 hr0),bl])
     have:=hj q
     have z:Tf by_ p (fnR r0) q=0:=by
      unfold Tf fnR
      by_cases c:q=p
      · subst c
        rw [Int.mul_comm,Int.sub_self]
      · rw [h.z r0 (er r0 hr0) q (by omega),h.z by_ hb q (by omega),Int.mul_zero,Int.mul_zero];rfl
     rw [z] at this
     rcases Int.mul_eq_zero.mp this with c | c
     · exact c
     · exact absurd c hG
   · rcases List.mem_cons.mp hk with rfl | hk
     · exact ⟨Nat.lt_succ_self _,hp0,fun q hq=>h.z by_ hb q hq⟩
     · exact ⟨Nat.lt_succ_of_lt (h.k k hk).1,(h.k k hk).2⟩
   · rw [List.map_cons]
     refine List.nodup_cons.mpr ⟨fun hm=>?_,h.nd⟩
     obtain ⟨k,hk,e⟩:=List.mem_map.mp hm
     have:=(h.k k hk).1
     have e:k.1=p:=e
     omega
   · obtain ⟨r0,hr0,rfl⟩:=List.mem_map.mp hr
     obtain ⟨G,hG,hj⟩:=off_get (by_:=by_) (row:=r0) (p:=p) (by rw [h.len r0 (er r0 hr0),bl])
     refine .div hG (QS.ext (((h.of.1 r0 (er r0 hr0)).smul (by_.getD p 0)).sub ((h.of.1 by_ hb).smul (r0.getD p 0))) fun j=>?_)
     have:=hj j
     show by_.getD p 0*r0.getD j 0-r0.getD p 0*by_.getD j 0=G*_
     rw [Int.mul_comm G]
     exact this.symm
   · rcases List.mem_cons.mp hk with rfl | hk
     · exact h.of.1 by_ hb
     · exact h.of.2 k hk
   · refine QS.mono (fun x hx=>?_) (h.s r hr)
     have hby:QS ((st.1.erase by_).map (fun r=>lesI (offH by_ r p))++((p,by_)::st.2).map (·.2)) (fnR by_):=.row (List.mem_append_right _ (by rw [List.map_cons];exact List.mem_cons_self))
     rcases List.mem_append.mp hx with hx | hx
     · by_cases c:x=by_
       · rw [c];exact hby
       · obtain ⟨G,hG,hj⟩:=off_get (by_:=by_) (row:=x) (p:=p) (by rw [h.len x hx,bl])
         refine T_back hp0 (QS.ext (QS.smul G (.row (List.mem_append_left _ (List.mem_map.mpr ⟨x,(List.mem_erase_of_ne c).mpr hx,rfl⟩)))) fun j=>?_) hby
         show G*(lesI (offH by_ x p)).getD j 0=_
         rw [Int.mul_comm]
         exact hj j
     · refine .row (List.mem_append_right _ ?_)
       rw [List.map_cons]
       exact List.mem_cons_of_mem _ hx
theorem ap_all {w:Nat}{rows:List (List Int)}(h:∀ r∈rows,r.length=w):∀ i,ApI w i rows (apTo rows i)
 | 0=>⟨h,fun r hr q hq=>absurd hq (Nat.not_lt_zero _),fun k hk=>(by cases hk),List.nodup_nil,⟨fun r hr=>.row hr,fun k hk=>(by cases hk)⟩,fun r hr=>.row (List.mem_append_left _ hr)⟩
 | i+1=>ap_step (ap_all h i)
theorem settle_of {w b:Nat}{rows:List (List Int)}(h:∀ r∈rows,r.length=w∧BdH b r):∀ {i:Nat},i≤w→(∀ r∈(settleTo w rows i).1,QS rows (fnR r))∧∀ k∈(settleTo w rows i).2,QS rows (fnR k.2)
 | 0,_=>⟨fun r hr=>.row hr,fun k hk=>(by cases hk)⟩
 | i+1,hi=>by
  have ok:=settle_ok h (i:=i) (by omega)
  obtain ⟨h1,h2⟩:=settle_of h (i:=i) (by omega)
  show (∀ r∈(setStep (w-1-i) (settleTo w rows i)).1,_)∧∀ k∈(setStep (w-1-i) (settleTo w rows i)).2,_
  generalize settleTo w rows i=st at ok h1 h2
  unfold setStep
  split
  · exact ⟨h1,h2⟩
  · rename_i by_ rest hf
    have hm:by_∈st.1.filter (fun r=>decide (r.getD (w-1-i) 0≠0)):=by rw [hf];exact List.mem_cons_self
    obtain ⟨hb,hp0⟩:=List.mem_filter.mp hm
    have hp0:by_.getD (w-1-i) 0≠0:=of_decide_eq_true hp0
    have bl:=(ok.len by_ hb).1
    have go:∀ r:List Int,r.length=w→QS rows (fnR r)→QS rows (fnR (clr by_ r (w-1-i))):=fun r hl hq=>
     T_clr (by omega) hp0 ((hq.smul (by_.getD (w-1-i) 0)).sub ((h1 by_ hb).smul (r.getD (w-1-i) 0)))
    refine ⟨fun r hr=>?_,fun k hk=>?_⟩
    · obtain ⟨r0,hr0,rfl⟩:=List.mem_map.mp hr
      have:=(List.mem_filter.mp hr0).1
      exact go r0 (ok.len r0 this).1 (h1 r0 this)
    · rcases List.mem_append.mp hk with hk | hk
      · obtain ⟨k0,hk0,rfl⟩:=List.mem_map.mp hk
        exact go k0.2 (ok.kl k0 hk0).2.2.1 (h2 k0 hk0)
      · rw [List.mem_singleton.mp hk]
        exact h1 by_ hb
theorem fn_zero {r:List Int}{P:List Nat}{x:Fn}(h:∀ q,r.getD q 0=0):Nl P x (fnR r)=0:=by
 rw [show fnR r=fun _=>0 from funext h]
 exact Nl_zero
theorem rank_eq {w b:Nat}{rows:List (List Int)}(h:∀ r∈rows,r.length=w∧BdH b r):(apTo rows w).2.length=(settleI w rows).length:=by
 have A:=ap_all (fun r hr=>(h r hr).1) w
 have S:=settle_ok h (Nat.le_refl w)
 have Fu:=settle_full h (Nat.le_refl w)
 have So:=(settle_of h (Nat.le_refl w)).2
 have az:∀ r∈(apTo rows w).1,∀ q,r.getD q 0=0:=fun r hr q=>by
  by_cases c:q<w
  · exact A.z r hr q c
  · rw [List.getD_eq_getElem?_getD,List.getElem?_eq_none (by rw [A.len r hr];omega)];rfl
 have sz:∀ r∈(settleTo w rows w).1,∀ q,r.getD q 0=0:=fun r hr q=>Fu.z r hr q (by omega)
 rcases Nat.lt_trichotomy (apTo rows w).2.length (settleI w rows).length with c | c | c
 · exfalso
   obtain ⟨x,⟨p,hp,hx⟩,hv⟩:=across (gs:=(apTo rows w).2.map fun k=>fnR k.2) (P:=(settleI w rows).map (·.1)) S.nd (by rw [List.length_map,List.length_map];exact c)
   have v1:∀ r∈rows,Nl ((settleI w rows).map (·.1)) x (fnR r)=0:=fun r hr=>by
    refine Nl_van (fun y hy=>?_) (A.s r hr)
    rcases List.mem_append.mp hy with hy | hy
    · exact fn_zero (az y hy)
    · obtain ⟨k,hk,rfl⟩:=List.mem_map.mp hy
      exact hv _ (List.mem_map.mpr ⟨k,hk,rfl⟩)
   obtain ⟨k,hk,rfl⟩:=List.mem_map.mp hp
   have v2:=Nl_van v1 (So k hk)
   have nd:((settleI w rows).map (·.1)).Nodup:=S.nd
   rw [Nl_one nd hp fun q hq hne=>?_] at v2
   · rcases Int.mul_eq_zero.mp v2 with z | z
     · exact (S.kl k hk).2.2.2.2 z
     · exact hx z
   · obtain ⟨l,hl,rfl⟩:=List.mem_map.mp hq
     show k.2.getD l.1 0*_=0
     rw [Fu.o k hk l hl (fun e=>hne e.symm),Int.zero_mul]
 · exact c
 · exfalso
   obtain ⟨x,⟨p,hp,hx⟩,hv⟩:=across (gs:=(settleI w rows).map fun k=>fnR k.2) (P:=(apTo rows w).2.map (·.1)) A.nd (by rw [List.length_map,List.length_map];exact c)
   have v1:∀ r∈rows,Nl ((apTo rows w).2.map (·.1)) x (fnR r)=0:=fun r hr=>by
    refine Nl_van (fun y hy=>?_) (Fu.s r hr)
    rcases List.mem_append.mp hy with hy | hy
    · exact fn_zero (sz y hy)
    · obtain ⟨k,hk,rfl⟩:=List.mem_map.mp hy
      exact hv _ (List.mem_map.mpr ⟨k,hk,rfl⟩)
   -- from the last place on
   have all:∀ m,∀ k∈(apTo rows w).2,w≤k.1+m→x k.1=0:=by
    intro m
    induction m with
    | zero=>exact fun k hk hm=>absurd (A.k k hk).1 (by omega)
    | succ m ih=>
     intro k hk hm
     have v2:=Nl_van v1 (A.of.2 k hk)
     rw [Nl_one A.nd (List.mem_map.mpr ⟨k,hk,rfl⟩) fun q hq hne=>?_] at v2
     · rcases Int.mul_eq_zero.mp v2 with z | z
       · exact absurd z (A.k k hk).2.1
       · exact z
     · obtain ⟨l,hl,rfl⟩:=List.mem_map.mp hq
       show k.2.getD l.1 0*x l.1=0
       rcases Nat.lt_or_ge l.1 k.1 with g | g
       · rw [(A.k k hk).2.2 l.1 g,Int.zero_mul]
       · rw [ih l hl (by omega),Int.mul_zero]
   obtain ⟨k,hk,rfl⟩:=List.mem_map.mp hp
   exact hx (all w k hk (Nat.le_add_left _ _))
end My
namespace L2
open PySem PySem.Spec PyProof.Rows
noncomputable def iLT (K:PySem.W.Frag) (te:TE):TI:=fun σ H R=>iList K te σ H R∨iTup K te σ H R
theorem pi_LT {X:Cx}{tg:Expr}{K':PySem.W.Frag}{e:Expr}{te:TE}(hK:X.K=K') (he:PE X e te):PI X tg e (iLT K' te):=by
 subst hK
 intro pins s σ H R I h
 rcases h with h | h
 · exact pi_list he pins s σ H R I h
 · exact pi_tup he pins s σ H R I h
end L2
namespace My
open PySem PySem.Spec PyProof.Rows L2
noncomputable abbrev gLT (g:GE):GN:=fun env n P=>gIter lstD g env n P∨gIter tupD' g env n P
noncomputable instance iv_LT {K:PySem.W.Frag}{te:TE}{g:GE} [A:EV true te g]:IV (iLT K te) (gLT g):=⟨fun {S ex env σ H n R P} E h k=>by
 rcases h with h | h
 · exact .inl ((iv_list (K:=K) (A:=A)).iv E h k)
 · exact .inr ((iv_tup (K:=K) (A:=A)).iv E h k)⟩
theorem gcd_great {m:Nat}{ns:List Int}(h:∀ x∈ns,m ∣ x.natAbs):m ∣ gcdL ns:=by
 have key:∀ (l:List Int) (g:Nat),m ∣ g→(∀ x∈l,m ∣ x.natAbs)→m ∣ l.foldl (fun g x=>Nat.gcd g x.natAbs) g:=by
  intro l
  induction l with
  | nil=>exact fun g hg _=>hg
  | cons x l ih=>exact fun g hg hx=>ih _ (Nat.dvd_gcd hg (hx x List.mem_cons_self)) fun y hy=>hx y (List.mem_cons_of_mem _ hy)
 exact key ns 0 (Nat.dvd_zero _) h
theorem gcd_red {f:List Int}(h:gcdL f≠0):gcdL (redI f)=1:=by
 have h1:gcdL (redI f)*gcdL f ∣ gcdL f:=gcd_great fun x hx=>by
  have hm:x/((gcdL f:Nat):Int)∈redI f:=List.mem_map.mpr ⟨x,hx,rfl⟩
  have h2:=gcd_dvd _ hm
  have h3:=gcd_mul hx
  obtain ⟨c,hc⟩:=h2
  have:x=((gcdL (redI f)*gcdL f:Nat):Int)*c:=by
   rw [← h3,hc,Int.natCast_mul,Int.mul_assoc,Int.mul_assoc,Int.mul_comm c]
  exact Int.natAbs_dvd_natAbs.mpr ⟨c,this⟩ |> fun z=>by rwa [Int.natAbs_natCast] at z
 have:=Nat.le_of_dvd (Nat.pos_of_ne_zero h) h1
 rcases Nat.lt_or_ge 1 (gcdL (redI f)) with c | c
 · have:1*gcdL f<gcdL (redI f)*gcdL f:=(Nat.mul_lt_mul_right (Nat.pos_of_ne_zero h)).mpr c
   omega
 · rcases Nat.eq_zero_or_pos (gcdL (redI f)) with z | z
   · rw [z,Nat.zero_mul] at h1
     exact absurd (Nat.zero_dvd.mp h1) h
   · omega
theorem gcd_neg {f:List Int}:gcdL (f.map fun x=>-x)=gcdL f:=by
 unfold gcdL
 rw [List.foldl_map]
 congr 1
 funext g x
 rw [Int.natAbs_neg]
theorem from_gcd {kvs:Sr}{p w:Nat}(h:SrOk w kvs) (hp:p<w) (hn:p∉kvs.map (·.1)):gcdL (rowFromI kvs p w)=1:=by
 have g:=gcd_red (told0_gcd h hp hn)
 unfold rowFromI
 split
 · exact g
 · rw [gcd_neg];exact g
theorem told_in {kvs:Sr}{z:Int}{p:Nat}{k:Nat×List Int}(hk:k∈kvs) (nd:(kvs.map (·.1)).Nodup):∀ {t:List Int},(∀ k∈kvs,k.1<t.length)→(toldI kvs z p t).getD k.1 0=(-z*k.2.getD p 0).fdiv (k.2.getD k.1 0):=by
 induction kvs with
 | nil=>cases hk
 | cons x l ih=>
  intro t ht
  have nd':=List.nodup_cons.mp nd
  show (toldI l z p (t.set x.1 _)).getD k.1 0=_
  rcases List.mem_cons.mp hk with rfl | hk
  · rw [told_at nd'.1 (fun y hy=>by rw [List.length_set];exact ht y (List.mem_cons_of_mem _ hy)),getD_set (ht k List.mem_cons_self),if_pos rfl]
  · exact ih hk nd'.2 fun y hy=>by rw [List.length_set];exact ht y (List.mem_cons_of_mem _ hy)
theorem red_zero {f:List Int}{j:Nat}(h:gcdL f≠0) (hz:f.getD j 0=0):(redI f).getD j 0=0:=by
 have:=red_get f j
 rw [hz] at this
 rcases Int.mul_eq_zero.mp this with z | z
 · exact z
 · omega
theorem from_zero {kvs:Sr}{p w q:Nat}(h:SrOk w kvs) (hp:p<w) (hn:p∉kvs.map (·.1)) (hz:(told0 kvs p w).getD q 0=0):(rowFromI kvs p w).getD q 0=0:=by
 have g:=red_zero (told0_gcd h hp hn) hz
 unfold rowFromI
 split
 · exact g
 · rw [getD_neg,g];rfl
theorem from_pos {kvs:Sr}{p w:Nat}(h:SrOk w kvs) (hp:p<w) (hn:p∉kvs.map (·.1)):0<(rowFromI kvs p w).getD p 0:=by
 have h1:=told0_at h hp hn
 have h2:scaleI kvs≠0:=scale_ne fun k hk=>(h.kl k hk).2.2.2
 have h3:(redI (told0 kvs p w)).getD p 0≠0:=fun z=>by
  have:=red_get (told0 kvs p w) p
  rw [z,Int.zero_mul,h1] at this
  exact h2 this.symm
 unfold rowFromI
 split
 · assumption
 · rw [getD_neg];omega
theorem told_free {kvs:Sr}{p w q:Nat}(h:SrOk w kvs) (hp:p<w) (hq:q∉kvs.map (·.1)) (hqp:q≠p):(told0 kvs p w).getD q 0=0:=by
 unfold told0
 rw [told_at hq (fun k hk=>by rw [List.length_set,List.length_replicate];exact (h.kl k hk).1),getD_set (by rw [List.length_replicate];exact hp),if_neg (fun z=>hqp z.symm)]
 rw [List.getD_eq_getElem?_getD,List.getElem?_replicate]
 split<;>rfl
theorem settle_right {w b:Nat}{rows:List (List Int)}(h:∀ r∈rows,r.length=w∧BdH b r):∀ {i:Nat},i≤w→∀ k∈(settleTo w rows i).2,∀ q,k.1<q→k.2.getD q 0=0
 | 0,_=>fun k hk=>(by cases hk)
 | i+1,hi=>by
  have ok:=settle_ok h (i:=i) (by omega)
  have fu:=settle_full h (i:=i) (by omega)
  have ih:=settle_right h (i:=i) (by omega)
  show ∀ k∈(setStep (w-1-i) (settleTo w rows i)).2,_
  generalize settleTo w rows i=st at ok fu ih
  unfold setStep
  split
  · exact ih
  · rename_i by_ rest hf
    have hm:by_∈st.1.filter (fun r=>decide (r.getD (w-1-i) 0≠0)):=by rw [hf];exact List.mem_cons_self
    obtain ⟨hb,hp0⟩:=List.mem_filter.mp hm
    have hp0:by_.getD (w-1-i) 0≠0:=of_decide_eq_true hp0
    have bl:=(ok.len by_ hb).1
    intro k hk q hq
    rcases List.mem_append.mp hk with hk | hk
    · obtain ⟨k0,hk0,rfl⟩:=List.mem_map.mp hk
      obtain ⟨A,B,G,hG,hA,hAB,hj⟩:=clr_eq (p:=w-1-i) (row:=k0.2) (by_:=by_) (by rw [(ok.kl k0 hk0).2.2.1,bl]) hp0
      have h1:=hj q
      have hq:k0.1<q:=hq
      rw [ih k0 hk0 q hq,fu.z by_ hb q (by have:=(ok.kl k0 hk0).1;omega),Int.mul_zero,Int.mul_zero,Int.sub_zero] at h1
      rcases Int.mul_eq_zero.mp h1 with c | c
      · exact c
      · exact absurd c hG
    · have e:k=(w-1-i,by_):=List.mem_singleton.mp hk
      subst e
      exact fu.z by_ hb q (by have hq:w-1-i<q:=hq;omega)
theorem from_left {w b p q:Nat}{rows:List (List Int)}(h:∀ r∈rows,r.length=w∧BdH b r) (hk:SrOk w (settleI w rows)) (hp:p<w) (hn:p∉(settleI w rows).map (·.1)) (hq:q<p):(rowFromI (settleI w rows) p w).getD q 0=0:=by
 refine from_zero hk hp hn ?_
 by_cases c:q∈(settleI w rows).map (·.1)
 · obtain ⟨k,hk',rfl⟩:=List.mem_map.mp c
   unfold told0
   rw [told_in hk' hk.nd (fun x hx=>by rw [List.length_set,List.length_replicate];exact (hk.kl x hx).1),settle_right h (Nat.le_refl w) k hk' p hq,Int.mul_zero,Int.zero_fdiv]
 · exact told_free hk hp c (Nat.ne_of_lt hq)
theorem free_rise (kvs:Sr) (w:Nat):(freeI kvs w).Pairwise (· < ·):=List.Pairwise.sublist List.filter_sublist List.pairwise_lt_range
theorem free_len {kvs:Sr}{w:Nat}(nd:(kvs.map (·.1)).Nodup) (hl:∀ k∈kvs,k.1<w):(freeI kvs w).length+kvs.length=w:=by
 have p1:(kvs.map (·.1)).Perm ((List.range w).filter fun p=>decide (p∈kvs.map (·.1))):=(List.perm_ext_iff_of_nodup nd (List.nodup_range.filter _)).mpr fun a=>by
  rw [List.mem_filter]
  constructor
  · intro ha
    obtain ⟨k,hk,rfl⟩:=List.mem_map.mp ha
    exact ⟨List.mem_range.mpr (hl k hk),decide_eq_true (List.mem_map.mpr ⟨k,hk,rfl⟩)⟩
  · exact fun ha=>of_decide_eq_true ha.2
 have h1:=p1.length_eq
 rw [List.length_map] at h1
 have h2:∀ (l:List Nat) (f:Nat→Bool),(l.filter f).length+(l.filter fun p=>!f p).length=l.length:=by
  intro l f
  induction l with
  | nil=>rfl
  | cons x l ih=>
   rw [List.filter_cons,List.filter_cons]
   cases f x<;>simp<;>omega
 have h2:=h2 (List.range w) fun p=>decide (p∈kvs.map (·.1))
 rw [List.length_range] at h2
 unfold freeI
 have h3:((List.range w).filter fun p=>decide (p∉kvs.map (·.1)))=(List.range w).filter fun p=>!decide (p∈kvs.map (·.1)):=List.filter_congr fun p _=>by simp
 rw [h3]
 omega
theorem ap_nil:∀ i,apTo [] i=([],[])
 | 0=>rfl
 | i+1=>by rw [apTo,ap_nil i];rfl
theorem held_rank {R U:Int}{ws:List Way}(hB:BookH R U ws):(((freeI (setI R U ws) (widthI R U)).length:Nat):Int)=R+U-(((apTo (ws.map (fallsI R)) (widthI R U)).2.length:Nat):Int):=by
 have r0:=hB.r0
 have p0:=hB.p0
 have ok:=set_ok hB
 have h1:=free_len ok.nd fun k hk=>(ok.kl k hk).1
 have h2:=rank_eq (rows_okH hB)
 rw [h2]
 show _=R+U-(((setI R U ws).length:Nat):Int)
 have:widthI R U=(U+R).toNat:=rfl
 omega
theorem les_bd {f:List Int}{b:Nat}(h:BdH b f):BdH b (lesI f):=by
 intro x hx
 unfold lesI at hx
 obtain ⟨y,hy,rfl⟩:=List.mem_map.mp hx
 have hd:max 1 ((gcdL f:Nat):Int) ∣ y:=by
  have h1:((gcdL f:Nat):Int) ∣ y:=gcd_dvd y hy
  rcases Nat.eq_zero_or_pos (gcdL f) with z | z
  · rw [z];exact Int.one_dvd _
  · rw [show max 1 ((gcdL f:Nat):Int)=((gcdL f:Nat):Int) by omega]
    exact h1
 rw [Int.fdiv_eq_ediv_of_dvd hd]
 exact Nat.lt_of_le_of_lt (Int.natAbs_ediv_le_natAbs _ _) (h y hy)
theorem off_bd {by_ row:List Int}{p b:Nat}(h1:BdH b row) (h2:BdH b by_):BdH (2*b+1) (offH by_ row p):=by
 intro x hx
 unfold offH at hx
 obtain ⟨i,hi,rfl⟩:=List.mem_iff_getElem.mp hx
 rw [List.getElem_zipWith]
 have a1:=mul_lt (h1 (row[i]'(by rw [List.length_zipWith] at hi;omega)) (List.getElem_mem _)) (h2.at p)
 have a2:=mul_lt (h2 (by_[i]'(by rw [List.length_zipWith] at hi;omega)) (List.getElem_mem _)) (h1.at p)
 rw [show 2*b+1=(b+b)+1 by omega,Nat.pow_succ]
 omega
theorem ap_bd {rows:List (List Int)}(h:∀ r∈rows,BdH 8 r):∀ i,∀ r∈(apTo rows i).1,BdH (bitN 8 i) r
 | 0=>h
 | i+1=>by
  have ih:=ap_bd h i
  show ∀ r∈(apStep i (apTo rows i)).1,BdH (2*bitN 8 i+1) r
  generalize apTo rows i=st at ih
  unfold apStep
  split
  · exact fun r hr=>(ih r hr).mono (by omega)
  · rename_i by_ rest hf
    have hm:by_∈st.1.filter (fun r=>decide (r.getD i 0≠0)):=by rw [hf];exact List.mem_cons_self
    have hb:=(List.mem_filter.mp hm).1
    intro r hr
    obtain ⟨r0,hr0,rfl⟩:=List.mem_map.mp hr
    exact les_bd (off_bd (ih r0 (List.mem_of_mem_erase hr0)) (ih by_ hb))
theorem ap_len {rows:List (List Int)}:∀ i,(apTo rows i).1.length+(apTo rows i).2.length=rows.length
 | 0=>rfl
 | i+1=>by
  have ih:=ap_len (rows:=rows) i
  show (apStep i (apTo rows i)).1.length+(apStep i (apTo rows i)).2.length=rows.length
  generalize apTo rows i=st at ih
  unfold apStep
  split
  · exact ih
  · rename_i by_ rest hf
    have hm:by_∈st.1.filter (fun r=>decide (r.getD i 0≠0)):=by rw [hf];exact List.mem_cons_self
    have hb:=(List.mem_filter.mp hm).1
    have:=List.length_pos_of_mem hb
    rw [List.length_map,List.length_erase_of_mem hb,List.length_cons]
    omega
theorem first_rlE {r:List Int}:∀ {l:List (List Int)},r∈l→∃ j,firstAt (l.map ringL) (ringL r) j∧l.eraseIdx j=l.erase r
 | [],h=>by cases h
 | x::l,h=>by
  by_cases e:x=r
  · refine ⟨0,⟨⟨ringL x,rfl,by rw [eqv_ring];exact decide_eq_true e⟩,fun m a hm=>absurd hm (Nat.not_lt_zero _)⟩,?_⟩
    rw [List.erase_cons,if_pos (beq_iff_eq.mpr e)]
    rfl
  · obtain ⟨j,⟨⟨a,ha,hv⟩,hm⟩,ej⟩:=first_rlE (List.mem_of_ne_of_mem (fun z=>e z.symm) h)
    refine ⟨j+1,⟨⟨a,by rw [List.map_cons,List.getElem?_cons_succ];exact ha,hv⟩,fun m b hmj hb=>?_⟩,?_⟩
    · cases m with
      | zero=>
       cases hb
       rw [eqv_ring]
       exact decide_eq_false e
      | succ m=>exact hm m b (by omega) (by rw [List.map_cons,List.getElem?_cons_succ] at hb;exact hb)
    · rw [List.erase_cons,if_neg (fun z=>e (beq_iff_eq.mp z)),List.eraseIdx_cons_succ,ej]
theorem off_rng {by_ row:List Int}{p:Nat}(h:row.length=by_.length):(List.range row.length).map (fun j=>row.getD j 0*by_.getD p 0-by_.getD j 0*row.getD p 0)=offH by_ row p:=by
 unfold offH
 apply List.ext_getElem
 · rw [List.length_map,List.length_range,List.length_zipWith,h,Nat.min_self]
 · intro j h1 h2
   rw [List.length_map,List.length_range] at h1
   rw [List.getElem_map,List.getElem_range,List.getElem_zipWith,List.getD_eq_getElem?_getD (l:=row),List.getElem?_eq_getElem h1,List.getD_eq_getElem?_getD (l:=by_) (i:=j),List.getElem?_eq_getElem (by omega)]
   rfl
theorem getD_ext {xs ys:List Int}(hl:xs.length=ys.length) (h:∀ j,j<xs.length→xs.getD j 0=ys.getD j 0):xs=ys:=by
 apply List.ext_getElem hl
 intro j h1 h2
 have:=h j h1
 rw [List.getD_eq_getElem?_getD,List.getElem?_eq_getElem h1,List.getD_eq_getElem?_getD,List.getElem?_eq_getElem h2] at this
 exact this
noncomputable def rowHL (R:Int) (w:Way):List Int:=(w.g.map fun x=>-x)++List.replicate R.toNat 0
theorem rowHL_falls {R U:Int}{w:Way}(hR:1≤R) (hU:0≤U) (h:WayOk R U w):((rowHL R w).set (U+w.a).toNat ((rowHL R w).getD (U+w.a).toNat 0+1)).set (U+w.b).toNat (((rowHL R w).set (U+w.a).toNat ((rowHL R w).getD (U+w.a).toNat 0+1)).getD (U+w.b).toNat 0-1)=fallsI R w:=by
 have a0:=h.a0
 have a1:=h.a1
 have b0:=h.b0
 have b1:=h.b1
 have gl:=h.len
 have hl:(rowHL R w).length=U.toNat+R.toNat:=by unfold rowHL;rw [List.length_append,List.length_map,List.length_replicate];omega
 have fl:(fallsI R w).length=U.toNat+R.toNat:=by rw [falls_len hR h hU];unfold widthI;omega
 have r0:∀ r,r<R.toNat→(rowHL R w).getD (U.toNat+r) 0=0:=fun r hr=>by
  unfold rowHL
  rw [getD_app2 (by rw [List.length_map];omega),List.getD_eq_getElem?_getD,List.getElem?_replicate,if_pos hr]
  rfl
 refine getD_ext (by rw [List.length_set,List.length_set,hl,fl]) fun j hj=>?_
 rw [List.length_set,List.length_set,hl] at hj
 have ea:(U+w.a).toNat=U.toNat+w.a.toNat:=by omega
 have eb:(U+w.b).toNat=U.toNat+w.b.toNat:=by omega
 rw [getD_set (by rw [List.length_set,hl];omega),getD_set (by rw [hl];omega),getD_set (by rw [hl];omega),ea,eb,r0 _ (by omega),r0 _ (by omega)]
 by_cases c:j<U.toNat
 · rw [falls_g h c,if_neg (by omega),if_neg (by omega)]
   unfold rowHL
   rw [getD_app1 (by rw [List.length_map];omega),getD_neg]
 · obtain ⟨r,rfl⟩:∃ r,j=U.toNat+r:=⟨j-U.toNat,by omega⟩
   rw [falls_r h (by omega),r0 r (by omega)]
   by_cases ca:((r:Nat):Int)=w.a
   · by_cases cb:((r:Nat):Int)=w.b
     · rw [if_pos ca,if_pos cb,if_pos (by omega),if_pos (by omega)];omega
     · rw [if_pos ca,if_neg cb,if_neg (by omega),if_pos (by omega)];omega
   · by_cases cb:((r:Nat):Int)=w.b
     · rw [if_neg ca,if_pos cb,if_pos (by omega),if_neg (by omega)]
     · rw [if_neg ca,if_neg cb,if_neg (by omega),if_neg (by omega)];omega
theorem first_nz {f:Nat→Bool}{p W:Nat}(hp:p<W) (h1:f p=true) (h0:∀ q,q<p→f q=false):∃ rest,(List.range W).filter f=p::rest:=by
 obtain ⟨m,rfl⟩:∃ m,W=p+(m+1):=⟨W-p-1,by omega⟩
 rw [List.range_add,List.filter_append,List.filter_eq_nil_iff.mpr fun q hq=>by rw [h0 q (List.mem_range.mp hq)];exact Bool.false_ne_true,List.range_succ_eq_map,List.map_cons,Nat.add_zero,List.filter_cons_of_pos h1]
 exact ⟨_,rfl⟩
theorem filt_one {f:Nat→Bool}{p:Nat}:∀ {xs:List Nat},xs.Nodup→p∈xs→f p=true→(∀ q∈xs,q≠p→f q=false)→xs.filter f=[p]
 | [],_,h,_,_=>by cases h
 | x::xs,nd,h,h1,h0=>by
  have nd':=List.nodup_cons.mp nd
  rcases List.mem_cons.mp h with rfl | h
  · rw [List.filter_cons_of_pos h1,List.filter_eq_nil_iff.mpr fun q hq=>by rw [h0 q (List.mem_cons_of_mem _ hq) (fun z=>nd'.1 (z▸hq))];exact Bool.false_ne_true]
  · rw [List.filter_cons_of_neg (by rw [h0 x List.mem_cons_self (fun z=>nd'.1 (z▸h))];exact Bool.false_ne_true)]
    exact filt_one nd'.2 h h1 fun q hq=>h0 q (List.mem_cons_of_mem _ hq)
theorem filt_none {β:Type}{xs:List β}:xs.filter (fun _=>false)=[]:=List.filter_eq_nil_iff.mpr fun _ _=>Bool.false_ne_true
structure WayO3 (R U:Int) (w:Way):Prop where
 ok:WayOk R U w
 lo:∀ x∈w.g,-33≤x∧x≤33
theorem wayFn_ok3 {R a b U:Int}{f:Nat→Int}(ha:0≤a∧a<R) (hb:0≤b∧b<R) (hU:0≤U) (hf:∀ i,i<U.toNat→-33≤f i∧f i≤33):WayO3 R U (wayFn a b U f):=by
 refine ⟨wayFn_ok ha hb hU fun i hi=>by have:=hf i hi;omega,fun x hx=>?_⟩
 obtain ⟨i,hi,rfl⟩:=List.mem_map.mp hx
 exact hf i (List.mem_range.mp hi)
noncomputable def gsNestedN:GSn:=fun as n Q=>∃ R U:Int,as=[.tape,.d (.int R),.d (.int U)]∧n<2^37∧(1≤R∧R≤12)∧(1≤U∧U≤6)∧∀ (ws:List Way) (m:Nat),(∀ w∈ws,WayO3 R U w)→ws.length≤24→m≤n+60→Q (ws.map wayPD) m
noncomputable def gsBookN:GSp:=fun as n Q=>∃ mr mu mw:Int,as=[.tape,.d (.tuple [.int mr,.int mu,.int mw])]∧n<2^30∧(1≤mr∧mr≤12)∧(1≤mu∧mu≤6)∧(0≤mw∧mw≤36)∧∀ (R U:Int) (ws:List Way) (m:Nat),BookOk R U ws→(∀ w∈ws,WayO3 R U w)→R≤mr→U≤mu→m≤n+2000→Q (bookPD R U ws) m
noncomputable def gsCommonLT:GSp:=fun as n Q=>∃ (ns:List Int) (dd:PyData),as=[.d dd]∧(dd = .list (ns.map .int)∨dd = .tuple (ns.map .int))∧Q (.int ((gcdL ns:Nat):Int)) n
noncomputable instance:Scal gsCommonLT:=⟨fun {as n P} h=>by obtain ⟨a,b,e,h1,q⟩:=h;exact ⟨a,b,e,h1,rfl,q⟩⟩
noncomputable def gsLAreH:GSp:=fun as n Q=>∃ xs:List Int,as=[.d (.tuple (xs.map .int)),.d (.int (xs.length:Int))]∧xs.length≤1000∧Q (.bool true) n
noncomputable instance:Scal gsLAreH:=⟨fun {as n P} h=>by obtain ⟨w,e,h1,q⟩:=h;exact ⟨w,e,h1,rfl,q⟩⟩
noncomputable def gsLessH:GSp:=fun as n Q=>∃ ns:List Int,as=[.d (ringL ns)]∧ns.length≤100∧Q (ringL (lesI ns)) n
noncomputable def gsRowsOf:GSp:=fun as n Q=>∃ (R U:Int) (ws:List Way),as=[.d (bookPD R U ws)]∧BookH R U ws∧Q (.list ((ws.map (fallsI R)).map ringL)) n
noncomputable def gsApart:GSp:=fun as n Q=>∃ (w:Nat) (rows:List (List Int)),as=[.d (.list (rows.map ringL))]∧w≤18∧(∀ r∈rows,r.length=w∧BdH 8 r)∧rows.length≤100∧Q (.int (((apTo rows w).2.length:Nat):Int)) n
noncomputable instance:Scal gsApart:=⟨fun {as n P} h=>by obtain ⟨a,b,e,h1,h2,h3,q⟩:=h;exact ⟨a,b,e,h1,h2,h3,rfl,q⟩⟩
noncomputable def gsRight75:GSp:=fun as n Q=>∃ (R U:Int) (ws:List Way),as=[.d (bookPD R U ws),.d (.list (sumsD (heldI R U ws)))]∧BookOk R U ws∧Q (.bool true) n
noncomputable instance:Scal gsRight75:=⟨fun {as n P} h=>by obtain ⟨a,b,c,e,h1,q⟩:=h;exact ⟨a,b,c,e,h1,rfl,q⟩⟩
end My
set_option synthInstance.maxSize 100000
set_option synthInstance.maxHeartbeats 4000000
namespace My
open PySem PySem.Spec PyProof.Rows L2
noncomputable def top (i:Nat):Stmt:=PySem.Challenge.pw_fallsum_k75_held_sums.main.body.getD i (.Pass ⟨0,0,0,0⟩)
noncomputable abbrev s_common_divisor:Stmt:=top 1
noncomputable abbrev s_without_divisor:Stmt:=top 2
noncomputable abbrev s_falls_of:Stmt:=top 4
noncomputable abbrev s_cleared:Stmt:=top 5
noncomputable abbrev s_settled_rows:Stmt:=top 6
noncomputable abbrev s_row_from:Stmt:=top 7
noncomputable abbrev s_held:Stmt:=top 8
noncomputable abbrev s_law_tape:Stmt:=top 10
noncomputable abbrev s_law_draw:Stmt:=top 11
noncomputable abbrev s_law_gain:Stmt:=top 12
noncomputable abbrev s_law_gains:Stmt:=top 13
noncomputable abbrev s_law_nested:Stmt:=top 14
noncomputable abbrev s_law_book:Stmt:=top 15
noncomputable abbrev s_law_whole:Stmt:=top 16
noncomputable abbrev s_law_are_whole:Stmt:=top 17
noncomputable abbrev s_law_fall:Stmt:=top 18
noncomputable abbrev s_law_apart:Stmt:=top 19
noncomputable abbrev s_law_lessened:Stmt:=top 20
noncomputable abbrev s_law_rows_of:Stmt:=top 21
noncomputable abbrev s_law_common:Stmt:=top 22
noncomputable abbrev s_law_right:Stmt:=top 23
noncomputable abbrev s_law:Stmt:=top 24
structure Txt (mg:Str→Option Value):Prop where
 b_isinstance:mg "isinstance" = none
 b_int:mg "int" = none
 b_bool:mg "bool" = none
 b_str:mg "str" = none
 b_tuple:mg "tuple" = none
 b_len:mg "len" = none
 b_all:mg "all" = none
 b_sum:mg "sum" = none
 b_range:mg "range" = none
 b_list:mg "list" = none
 b_zip:mg "zip" = none
 b_enumerate:mg "enumerate" = none
 b_min:mg "min" = none
 b_max:mg "max" = none
 b_abs:mg "abs" = none
 b_any:mg "any" = none
 b_sorted:mg "sorted" = none
 b_set:mg "set" = none
section
variable {P:Program}{w:World}{K:PySem.W.Frag}{mg:Str→Option Value}{base:Heap}
theorem sc_law_tape:FnScope ["_law_script"] ["_law_script"] (defScope s_law_tape):=⟨rfl,rfl,rfl,by decide +kernel,rfl,by decide +kernel,by decide +kernel⟩
theorem ok_law_tape (T:Txt mg) (D:Def K mg "_law_tape" s_law_tape ["_law_script"]):Cal P w K mg base "_law_tape" 1 ["_law_script"] (spTape K):=by
 refine D.cal fun f fd F=>F.ok sc_law_tape (fun vs H Q E h=>?_) (fun cdv A outer s H vs Q E hr h=>?_)
 · obtain ⟨a,ns,rfl,_⟩:=h
   rfl
 obtain ⟨a,ns,rfl,hS,hlen,q⟩:=h
 refine ⟨_,(@pss_one _ _ _ (@ps_ret _ _ _ _ (@PEs.out _ _ _ (pes_lst (pas_call (pes_of (pe_callTy call_list_of rfl T.b_list boot_list (pa_sub (pe_slice sl_list (pv 0) po_none (po_some pe_int)) pa_nil))) (pas_const pes_int (pas_const pes_int pas_nil))))))),?_⟩
 obtain ⟨ms,ems,lms⟩:=cutV_ints ns none (some 63)
 refine ⟨_,rfl,_,rfl,a,_,rfl,hS,fun l1 hl1=>?_⟩
 rw [ems]
 refine ⟨l1,_,rfl,.inl (SqL.of upd_same),fun l2 hl2=>⟨small4 (Nat.le_of_ble_eq_true rfl),fun p hp=>?_⟩⟩
 have n1:l2≠l1:=fun z=>by rw [z,upd_same] at hl2;cases hl2
 have n2:p≠l2:=fun z=>by rw [z,upd_same] at hp;cases hp
 have n3:p≠l1:=fun z=>by rw [z,upd_ne (Ne.symm n1),upd_same] at hp;cases hp
 rw [upd_ne n1] at hl2
 rw [upd_ne n2,upd_ne n3] at hp
 refine q p l2 _ (fun b o e _=>?_) hp hl2 ⟨ms,0,0,upd_same,by rw [upd_ne (Ne.symm n2),upd_same],by omega,by decide,by decide⟩
 rw [upd_ne (ne_of_none e hp),upd_ne (ne_of_none e hl2),upd_ne (ne_of_none e hl1)];exact e
theorem sc_law_draw:FnScope ["_law_tape_here","_law_many","_law_digit","_law_at","_law_cell","_law_mixed"] ["_law_tape_here","_law_many"] (defScope s_law_draw):=⟨rfl,rfl,rfl,by decide +kernel,rfl,by decide +kernel,by decide +kernel⟩
theorem ok_law_draw (T:Txt mg) (D:Def K mg "_law_draw" s_law_draw ["_law_tape_here","_law_many"]):Cal P w K mg base "_law_draw" 1 ["_law_tape_here","_law_many"] spDraw:=by
 refine D.cal fun f fd F=>F.ok sc_law_draw (fun vs H Q E h=>?_) (fun cdv A outer s H vs Q E hr h=>?_)
 · obtain ⟨p,c,n,m,rfl,_⟩:=h
   rfl
 obtain ⟨p,c,n,m,rfl,J,hn,h0,h1,q⟩:=h
 refine ⟨_,(@pss_cons _ _ _ _ _ (ps_if (pt_cmpR op_gt (pe_ix ix_list (pv 0) pe_int (fun _ _=>rfl)) pe_int (nomark _)) (@pss_cons _ _ _ _ _ (ps_set (i:=2) sc_law_draw.nd rfl (Or.inl rfl) (pe_op op_mod (pe_ix ix_list (pv 0) pe_int (fun _ _=>rfl)) (pv 1)))
  (@pss_cons _ _ _ _ _ (ps_asg (pe_op op_fdivB (pe_ix ix_list (pv 0) pe_int (fun _ _=>rfl)) (pv 1)) (pg_sub (pv 0) pe_int set_list (fun v=>assign_sub_const _ _ _ _ _ _ v)))
  (@pss_one _ _ _ (@ps_ret _ _ _ _ (pv 2))))) pss_nil)
  (@pss_cons _ _ _ _ _ (ps_set (i:=3) sc_law_draw.nd rfl (Or.inl rfl) (pe_ix ix_list (pv 0) pe_int (fun _ _=>rfl)))
  (@pss_cons _ _ _ _ _ (ps_asg (pe_op op_add (pv 3) pe_int) (pg_sub (pv 0) pe_int set_list (fun v=>assign_sub_const _ _ _ _ _ _ v)))
  (@pss_cons _ _ _ _ _ (ps_set (i:=4) sc_law_draw.nd rfl (Or.inl rfl) pe_int)
  (@pss_cons _ _ _ _ _ (ps_if (pt_cmpR op_gt (pe_callB call_len_seq rfl T.b_len PySem.boot_len (pa_sub (pe_ix ix_list (pv 0) pe_int (fun _ _=>rfl)) pa_nil)) pe_int (nomark _)) (@pss_one _ _ _ (ps_set (i:=4) sc_law_draw.nd rfl (Or.inl rfl) (pe_ix ix_list (pe_ix ix_list (pv 0) pe_int (fun _ _=>rfl)) (pe_op op_mod (pv 3) (pe_callB call_len_seq rfl T.b_len PySem.boot_len (pa_sub (pe_ix ix_list (pv 0) pe_int (fun _ _=>rfl)) pa_nil))) (fun _ _=>rfl)))) pss_nil)
  (@pss_cons _ _ _ _ _ (ps_if (PW.pt (pw_and (pt_cmpR op_lt (pv 3) (pe_callB call_len_seq rfl T.b_len PySem.boot_len (pa_sub (pe_ix ix_list (pv 0) pe_int (fun _ _=>rfl)) pa_nil)) (nomark _)) (pw_and1 (pt_cmpR op_ge (pv 4) (pe_op op_pow pe_int pe_int) (nomark _))))) (@pss_cons _ _ _ _ _ (ps_asg (pe_op op_fdivB (pv 4) (pv 1)) (pg_sub (pv 0) pe_int set_list (fun v=>assign_sub_const _ _ _ _ _ _ v)))
  (@pss_one _ _ _ (@ps_ret _ _ _ _ (pe_op op_mod (pv 4) (pv 1))))) pss_nil)
  (@pss_cons _ _ _ _ _ (ps_set (i:=5) sc_law_draw.nd rfl (Or.inl rfl) (pe_op op_mod (pe_op op_mul (pe_op op_add (pe_op op_mod (pv 4) pe_int) pe_int) (pe_op op_add (pe_op op_add (pe_op op_mul (pe_op op_mul pe_int (pv 3)) (pv 3)) (pe_op op_mul pe_int (pv 3))) pe_int)) pe_int))
  (@pss_cons _ _ _ _ _ (ps_set (i:=5) sc_law_draw.nd rfl (Or.inl rfl) (pe_op op_mod (pe_op op_add (pe_op op_add (pe_op op_mul (pv 5) (pv 5)) (pe_op op_mul pe_int (pv 3))) (pe_op op_mod (pv 4) pe_int)) pe_int))
  (@pss_one _ _ _ (@ps_ret _ _ _ _ (pe_op op_mod (pe_op op_fdivB (pv 5) pe_int) (pv 1)))))))))))),?_⟩
 have npc:=J.ne
 obtain ⟨ns,k,g,hp,hc,hl,k0,k1⟩:=J.ex
 refine seq_by (fun σ' H'=>σ'=[some (.ref p),some (.int m),none,none,none,none]∧H=H') (fun N hN=>?_) ?_
 · refine ⟨_,rfl,p,_,2,_,rfl,rfl,SqL.of hp,rfl,_,_,rfl,rfl,_,rfl,ite_b (fun cc=>?_) (fun cc=>hN _ _ ⟨rfl,rfl⟩)⟩
   refine ⟨_,rfl,p,_,2,_,rfl,rfl,SqL.of hp,rfl,_,rfl,_,_,rfl,rfl,h0,?_⟩
   refine ⟨_,rfl,p,_,2,_,rfl,rfl,SqL.of hp,rfl,_,rfl,_,_,rfl,rfl,cdivB_of h0 h1,_,rfl,p,_,2,2,rfl,rfl,hp,rfl,?_⟩
   refine ⟨_,rfl,q _ _ (Int.emod_nonneg _ (by omega)) (Int.emod_lt_of_pos _ h0) ⟨ns,k,_,upd_same,by rw [upd_ne (Ne.symm npc)];exact hc,hl,k0,by omega⟩ (Kp.at (by simp) _)⟩
 rintro _ _ ⟨rfl,rfl⟩
 refine seq_by (fun σ' H'=>σ'=[some (.ref p),some (.int m),none,some (.int k),none,none]∧H=H') (fun N hN=>⟨_,rfl,p,_,1,_,rfl,rfl,SqL.of hp,rfl,hN _ _ ⟨rfl,rfl⟩⟩) ?_
 rintro _ _ ⟨rfl,rfl⟩
 refine seq_by (fun σ' H'=>σ'=[some (.ref p),some (.int m),none,some (.int k),none,none]∧H' p=some (.lst [.ref c,.int (k+1),.int g])∧H' c=some (.lst (ns.map V.int))∧Kp [p,c] H H') (fun N hN=>?_) ?_
 · refine ⟨_,rfl,_,_,rfl,rfl,_,rfl,p,_,1,1,rfl,rfl,hp,rfl,hN _ _ ⟨rfl,upd_same,by rw [upd_ne (Ne.symm npc)];exact hc,Kp.at (by simp) _⟩⟩
 rintro _ H1 ⟨rfl,hp1,hc1,kp1⟩
 have nl:((ns.map V.int).length:Int)=ns.length:=by rw [List.length_map]
 refine seq_by (fun σ' H'=>σ'=[some (.ref p),some (.int m),none,some (.int k),some (.int 0),none]∧H1=H') (fun N hN=>hN _ _ ⟨rfl,rfl⟩) ?_
 rintro _ _ ⟨rfl,rfl⟩
 refine seq_by (fun σ' H'=>∃ x:Int,σ'=[some (.ref p),some (.int m),none,some (.int k),some (.int x),none]∧H1=H') (fun N hN=>?_) ?_
 · refine ⟨_,rfl,p,_,0,_,rfl,rfl,SqL.of hp1,rfl,c,_,rfl,.inl (SqL.of hc1),_,_,rfl,rfl,_,rfl,ite_b (fun cc=>?_) (fun cc=>hN _ _ ⟨0,rfl,rfl⟩)⟩
   have cc:(0:Int)<ns.length:=by simpa using cc
   refine ⟨_,rfl,p,_,0,_,rfl,rfl,SqL.of hp1,rfl,_,rfl,_,rfl,p,_,0,_,rfl,rfl,SqL.of hp1,rfl,c,_,rfl,.inl (SqL.of hc1),_,_,rfl,rfl,by rw [nl];exact cc,?_⟩
   obtain ⟨x,hx,_⟩:=at_P (P:=fun _=>True) ns (i:=k%((ns.map V.int).length:Int)) (by simp) (Int.emod_nonneg _ (by rw [nl];omega)) (by rw [nl];exact Int.emod_lt_of_pos _ cc)
   exact ⟨c,_,_,_,rfl,rfl,SqL.of hc1,hx,hN _ _ ⟨x,rfl,rfl⟩⟩
 rintro _ _ ⟨x,rfl,rfl⟩
 refine seq_by (fun σ' H'=>σ'=[some (.ref p),some (.int m),none,some (.int k),some (.int x),none]∧H1=H') (fun N hN=>?_) ?_
 · refine ⟨_,rfl,_,rfl,p,_,0,_,rfl,rfl,SqL.of hp1,rfl,c,_,rfl,.inl (SqL.of hc1),_,_,rfl,rfl,_,rfl,?_⟩
   refine ite_b (fun cc=>?_) (fun cc=>iteF (hN _ _ ⟨rfl,rfl⟩))
   refine ⟨_,rfl,_,_,rfl,rfl,⟨by decide,by decide,by decide⟩,_,_,rfl,rfl,_,rfl,ite_b (fun cc=>?_) (fun cc=>hN _ _ ⟨rfl,rfl⟩)⟩
   refine ⟨_,rfl,_,rfl,_,_,rfl,rfl,cdivB_of h0 h1,_,rfl,p,_,2,2,rfl,rfl,hp1,rfl,?_⟩
   refine ⟨_,rfl,_,rfl,_,_,rfl,rfl,h0,?_⟩
   exact q _ _ (Int.emod_nonneg _ (by omega)) (Int.emod_lt_of_pos _ h0) ⟨ns,k+1,_,upd_same,by rw [upd_ne (Ne.symm npc)];exact hc1,hl,by omega,by omega⟩ (kp1.trans (Kp.at (by simp) _))
 rintro _ _ ⟨rfl,rfl⟩
 have kb:k<2^41:=by omega
 refine seq_by (fun σ' H'=>∃ y:Int,σ'=[some (.ref p),some (.int m),none,some (.int k),some (.int x),some (.int y)]∧H1=H'∧0≤y∧y<2147483647) (fun N hN=>?_) ?_
 · refine ⟨_,rfl,_,_,rfl,rfl,(show (0:Int)<1000003 by decide),_,_,rfl,rfl,_,rfl,_,_,rfl,rfl,.inl ⟨by decide,by decide⟩,_,rfl,_,_,rfl,rfl,.inr ⟨by omega,by omega⟩,_,rfl,_,_,rfl,rfl,.inl ⟨by decide,by decide⟩,_,_,rfl,rfl,_,_,rfl,rfl,_,_,rfl,rfl,.inl ⟨?_,?_⟩,_,_,rfl,rfl,(show (0:Int)<2147483647 by decide),hN _ _ ⟨_,rfl,rfl,Int.emod_nonneg _ (by decide),Int.emod_lt_of_pos _ (by decide)⟩⟩
   all_goals (have:=Int.emod_nonneg x (show (1000003:Int)≠0 by decide);have:=Int.emod_lt_of_pos x (show (0:Int)<1000003 by decide);omega)
 rintro _ _ ⟨y,rfl,rfl,y0,y1⟩
 refine seq_by (fun σ' H'=>∃ y:Int,σ'=[some (.ref p),some (.int m),none,some (.int k),some (.int x),some (.int y)]∧H1=H'∧0≤y) (fun N hN=>?_) ?_
 · refine ⟨_,rfl,_,rfl,_,_,rfl,rfl,.inl ⟨by omega,by omega⟩,_,rfl,_,_,rfl,rfl,.inl ⟨by decide,by decide⟩,_,_,rfl,rfl,_,rfl,_,_,rfl,rfl,(show (0:Int)<65537 by decide),_,_,rfl,rfl,_,_,rfl,rfl,(show (0:Int)<2147483629 by decide),hN _ _ ⟨_,rfl,rfl,Int.emod_nonneg _ (by decide)⟩⟩
 rintro _ _ ⟨y,rfl,rfl,y0⟩
 refine ⟨_,rfl,_,_,rfl,rfl,cdivB_of (by decide) (by decide +kernel),_,rfl,_,_,rfl,rfl,h0,?_⟩
 exact q _ _ (Int.emod_nonneg _ (by omega)) (Int.emod_lt_of_pos _ h0) ⟨ns,k+1,g,hp1,hc1,hl,by omega,by omega⟩ kp1
theorem sc_law_gain:FnScope ["_law_tape_here","_law_way"] ["_law_tape_here"] (defScope s_law_gain):=⟨rfl,rfl,rfl,by decide +kernel,rfl,by decide +kernel,by decide +kernel⟩
theorem ok_law_gain (T:Txt mg) (D:Def K mg "_law_gain" s_law_gain ["_law_tape_here"]) (c__law_draw:Cal P w K mg base "_law_draw" 1 ["_law_tape_here","_law_many"] (liftV gsDraw)):Cal P w K mg base "_law_gain" 2 ["_law_tape_here"] (liftV gsGainV):=by
 refine D.cal fun f fd F=>F.ok sc_law_gain (lift_len ?_) (fun cdv A outer s H vs Q E hr h=>?_)
 · rintro as n P ⟨rfl,_⟩
   rfl
 refine ⟨_,(@pss_cons _ _ _ _ _ (ps_set (i:=1) sc_law_gain.nd rfl (Or.inl rfl) (pe_c c__law_draw (hr.mono (by decide)) rfl (pa_name (pv 0) (pa_const pe_int pa_nil))))
  (@pss_cons _ _ _ _ _ (ps_if (pt_cmpR op_eq (pv 1) pe_int (nomark _)) (@pss_one _ _ _ (@ps_ret _ _ _ _ (pe_op op_sub (pe_c c__law_draw (hr.mono (by decide)) rfl (pa_name (pv 0) (pa_const pe_int pa_nil))) pe_int))) pss_nil)
  (@pss_one _ _ _ (@ps_ret _ _ _ _ (pe_ix ix_list (@PEs.out _ _ _ (pes_lst (pas_const pes_int (pas_const pes_int (pas_unary (pes_of (pe_un un_neg pe_int)) (pas_unary (pes_of (pe_un un_neg pe_int)) (pas_unary (pes_of (pe_un un_neg pe_int)) (pas_const pes_int (pas_const pes_int (pas_const pes_int (pas_unary (pes_of (pe_un un_neg pe_int)) pas_nil))))))))))) (pv 1) (fun _ _=>rfl)))))),lift_body h ?_⟩
 rintro as n P ⟨rfl,hn,q⟩
 refine ⟨rfl,10,rfl,by omega,by decide,by decide +kernel,fun r r0 r1=>⟨[.tape,.d (.int r)],.eq rfl,?_⟩⟩
 refine fEq_i (ite_b (fun c=>?_) (fun c=>⟨_,.refl,?_⟩))
 · exact ⟨19,rfl,by omega,by decide,by decide +kernel,fun z z0 z1=>q _ _ (by omega) (by omega) (by omega)⟩
 · have hr9:r≠9:=of_decide_eq_false c
   refine ⟨small4 (Nat.le_of_ble_eq_true rfl),?_⟩
   have:r=0∨r=1∨r=2∨r=3∨r=4∨r=5∨r=6∨r=7∨r=8:=by omega
   rcases this with rfl | rfl | rfl | rfl | rfl | rfl | rfl | rfl | rfl<;>exact ⟨_,rfl,q _ _ (by decide) (by decide) (by omega)⟩
theorem sc_law_gains:FnScope ["_law_tape_here","_law_purses"] ["_law_tape_here","_law_purses"] (defScope s_law_gains):=⟨rfl,rfl,rfl,by decide +kernel,rfl,by decide +kernel,by decide +kernel⟩
theorem ok_law_gains (T:Txt mg) (D:Def K mg "_law_gains" s_law_gains ["_law_tape_here","_law_purses"]) (c__law_gain:Cal P w K mg base "_law_gain" 2 ["_law_tape_here"] (liftV gsGainV)):Cal P w K mg base "_law_gains" 3 ["_law_tape_here","_law_purses"] (liftV gsGainsV):=by
 refine D.cal fun f fd F=>F.ok sc_law_gains (lift_len ?_) (fun cdv A outer s H vs Q E hr h=>?_)
 · rintro as n P ⟨U,rfl,_⟩
   rfl
 refine ⟨_,(@pss_one _ _ _ (@ps_ret _ _ _ _ (pe_callTy call_tuple_of rfl T.b_tuple boot_tuple (pa_comp (pe_comp (sc:=(defScope s_law_gains)) (N:=["_law_tape_here","_law_purses"]) (N':=["_law_p","_law_tape_here"]) (k:=1) (idx:=[0]) rfl (by exact ⟨rfl,by decide +kernel,by decide +kernel,by decide +kernel,by decide +kernel,by decide +kernel,rfl,rfl⟩) rfl rfl (pi_range1 rfl T.b_range (pa_name (pv 1) pa_nil)) (fun _ _ _ _=>(pg_name (i:=0) (show (["_law_p","_law_tape_here"]:List Str).Nodup by decide +kernel) rfl (Or.inl rfl) (Or.inr rfl))) (fun _ _ _ _=>pts_nil) (fun _ _ _ _=>(pe_c c__law_gain (hr.mono (by decide)) rfl (pa_name (pv 1) pa_nil)))) pa_nil)))),lift_body h ?_⟩
 rintro as n P ⟨U,rfl,hn,u0,u1,q⟩
 have hs:sizeLine=16777216:=sizeLine_eq
 refine ⟨rfl,U,rfl,⟨by omega,by omega⟩,⟨rfl,by rw [rngD_len];omega⟩,?_⟩
 refine cmpW_cnt 2 (n+12) (fun y=>∃ i:Int,y = .int i∧-9≤i∧i≤9) (fun x _ k K hk h=>iteT ⟨rfl,by omega,fun r m r0 r1 hm=>h _ _ ⟨r,rfl,r0,r1⟩ hm⟩) (by rw [rngD_len];omega) (fun ys k hy hg hk=>?_)
 rw [rngD_len] at hy hk
 obtain ⟨f,rfl,hf⟩:=fl_ofB ys _ hy hg
 exact q f k hf (by omega)
theorem sc_law_nested:FnScope ["_law_tape_here","_law_rooms","_law_purses","_law_ways","_law_pair","_law_extra","_law_room","_law_one","_law_step"] ["_law_tape_here","_law_rooms","_law_purses"] (defScope s_law_nested):=⟨rfl,rfl,rfl,by decide +kernel,rfl,by decide +kernel,by decide +kernel⟩
theorem ok_law_nested (T:Txt mg) (D:Def K mg "_law_nested" s_law_nested ["_law_tape_here","_law_rooms","_law_purses"]) (c__law_gains:Cal P w K mg base "_law_gains" 3 ["_law_tape_here","_law_purses"] (liftV gsGainsV)) (c__law_draw:Cal P w K mg base "_law_draw" 1 ["_law_tape_here","_law_many"] (liftV gsDraw)):Cal P w K mg base "_law_nested" 4 ["_law_tape_here","_law_rooms","_law_purses"] (liftN gsNestedN):=by
 refine D.cal fun f fd F=>F.ok sc_law_nested (lift_lenN ?_) (fun cdv A outer s H vs Q E hr h=>?_)
 · rintro as n P ⟨R,U,rfl,_⟩
   rfl
 refine ⟨_,(@pss_cons _ _ _ _ _ (@ps_setD _ _ 3 _ _ _ _ sc_law_nested.nd rfl (Or.inl rfl) (pes_lst pas_nil) rfl (Or.inl rfl))
  (@pss_cons _ _ _ _ _ (@ps_setD _ _ 4 _ _ _ _ sc_law_nested.nd rfl (Or.inl rfl) (pes_lst (pas_call (pes_of (pe_c c__law_gains (hr.mono (by decide)) rfl (pa_name (pv 0) (pa_name (pv 2) pa_nil)))) pas_nil)) rfl (Or.inl rfl))
  (@pss_cons _ _ _ _ _ (ps_expr (pe_bm PySem.F.plainAttrs_list PySem.F.slot_list_append PySem.F.type_list_append mt_append (pv 4) (pa_call (pe_callTy call_tuple_of rfl T.b_tuple boot_tuple (pa_comp (pe_comp (sc:=(defScope s_law_nested)) (N:=["_law_tape_here","_law_rooms","_law_purses","_law_ways","_law_pair","_law_extra","_law_room","_law_one","_law_step"]) (N':=["_law_number"]) (k:=1) (idx:=[]) rfl (by exact ⟨rfl,by decide +kernel,by decide +kernel,by decide +kernel,by decide +kernel,by decide +kernel,rfl,rfl⟩) rfl rfl (pi_tup (pe_ix ix_list (pv 4) pe_int (fun _ _=>rfl))) (fun _ _ _ _=>(pg_name (i:=0) (show (["_law_number"]:List Str).Nodup by decide +kernel) rfl (Or.inl rfl) (Or.inr rfl))) (fun _ _ _ _=>pts_nil) (fun _ _ _ _=>(pe_un un_neg (pv 0)))) pa_nil)) pa_nil)))
  (@pss_cons _ _ _ _ _ (ps_set (i:=5) sc_law_nested.nd rfl (Or.inl rfl) (pe_c c__law_draw (hr.mono (by decide)) rfl (pa_name (pv 0) (pa_name (pv 2) pa_nil))))
  (@pss_cons _ _ _ _ _ (ps_for PassesOwn.never rfl (pi_range1 rfl T.b_range (pa_name (pv 1) pa_nil)) (pg_name (i:=6) sc_law_nested.nd rfl (Or.inl rfl) (Or.inl rfl))
  (@pss_cons _ _ _ _ _ (ps_set (i:=7) sc_law_nested.nd rfl (Or.inl rfl) (pe_callTy call_list_of rfl T.b_list boot_list (pa_sub (pe_ix ix_list (pv 4) (pe_op op_mod (pv 6) pe_int) (fun _ _=>rfl)) pa_nil)))
  (@pss_cons _ _ _ _ _ (ps_asg (pe_op op_add (pe_ix ix_list (pv 7) (pv 5) (fun _ _=>rfl)) (pe_ix ix_list (@PEs.out _ _ _ (pes_lst (pas_const pes_int (pas_const pes_int (pas_const pes_int (pas_const pes_int (pas_unary (pes_of (pe_un un_neg pe_int)) pas_nil))))))) (pe_c c__law_draw (hr.mono (by decide)) rfl (pa_name (pv 0) (pa_const pe_int pa_nil))) (fun _ _=>rfl))) (pg_sub (pv 7) (pv 5) set_list (fun v=>assign_sub_name _ _ _ _ _ v)))
  (@pss_cons _ _ _ _ _ (ps_expr (pe_bm PySem.F.plainAttrs_list PySem.F.slot_list_append PySem.F.type_list_append mt_append (pv 3) (pa_tuple (@PEs.out _ _ _ (pes_tup (pas_name (pes_of (pv 6)) (pas_name (pes_of (pv 6)) (pas_call (pes_of (pe_callTy call_tuple_of rfl T.b_tuple boot_tuple (pa_name (pv 7) pa_nil))) pas_nil))))) pa_nil)))
  (@pss_cons _ _ _ _ _ (ps_set (i:=8) sc_law_nested.nd rfl (Or.inl rfl) (pe_op op_rep (@PEs.out _ _ _ (pes_lst (pas_const pes_int pas_nil))) (pv 2)))
  (@pss_cons _ _ _ _ _ (ps_asg (pe_ix ix_list (@PEs.out _ _ _ (pes_lst (pas_unary (pes_of (pe_un un_neg pe_int)) (pas_unary (pes_of (pe_un un_neg pe_int)) (pas_unary (pes_of (pe_un un_neg pe_int)) (pas_const pes_int (pas_const pes_int pas_nil))))))) (pe_c c__law_draw (hr.mono (by decide)) rfl (pa_name (pv 0) (pa_const pe_int pa_nil))) (fun _ _=>rfl)) (pg_sub (pv 8) (pe_c c__law_draw (hr.mono (by decide)) rfl (pa_name (pv 0) (pa_name (pv 2) pa_nil))) set_list (fun v=>assign_sub_call _ _ _ _ _ _ _ v)))
  (@pss_one _ _ _ (ps_expr (pe_bm PySem.F.plainAttrs_list PySem.F.slot_list_append PySem.F.type_list_append mt_append (pv 3) (pa_tuple (@PEs.out _ _ _ (pes_tup (pas_name (pes_of (pv 6)) (pas_binop (pes_of (pe_op op_mod (pe_op op_add (pv 6) pe_int) (pv 1))) (pas_call (pes_of (pe_callTy call_tuple_of rfl T.b_tuple boot_tuple (pa_name (pv 8) pa_nil))) pas_nil))))) pa_nil))))))))))
  (@pss_one _ _ _ (@ps_ret _ _ _ _ (pv 3)))))))),lift_bodyN h ?_⟩
 rintro as n P ⟨R,U,rfl,hn,hR,hU,q⟩
 have hs:sizeLine=16777216:=sizeLine_eq
 refine ⟨rfl,Nat.zero_le _,⟨[.tape,.d (.int R),.d (.int U),.own [],.jnk,.jnk,.jnk,.jnk,.jnk],.eq rfl,?_⟩⟩
 refine ⟨U,rfl,by omega,by omega,by omega,fun f m hf hm=>⟨small4 (Nat.le_of_ble_eq_true rfl),⟨[.tape,.d (.int R),.d (.int U),.own [],.own [tupF U f],.jnk,.jnk,.jnk,.jnk],.eq rfl,?_⟩⟩⟩
 refine ⟨_,rfl,⟨rfl,by rw [fl_len];omega⟩,?_⟩
 refine cmpW_mapR (fun i=>.int (-(f i))) (fun i hi n K hk=>iteT hk) ⟨show 1<sizeLine by omega,⟨[.tape,.d (.int R),.d (.int U),.own [],.own [tupF U f,tupF U fun i=>-(f i)],.jnk,.jnk,.jnk,.jnk],.eq rfl,?_⟩⟩
 refine ⟨U,rfl,by omega,by omega,small9000 (by omega),fun e e0 e1=>⟨_,.refl,?_⟩⟩
 refine ⟨R,rfl,⟨by omega,by omega⟩,?_⟩
 refine ⟨fun i env k=>∃ (ws:List Way) (x y z:Vl),env=[.tape,.d (.int R),.d (.int U),.own (ws.map wayPD),.own [tupF U f,tupF U fun i=>-(f i)],.d (.int e),x,y,z]∧ws.length=2*i∧(∀ w∈ws,WayO3 R U w)∧k≤n+13+3*i,⟨[],_,_,_,rfl,rfl,(fun w hw=>by cases hw),by omega⟩,?_,?_⟩
 · rintro i x env k hx ⟨ws,_,_,_,rfl,hl,hw,hk⟩
   obtain ⟨hi,rfl⟩:=rng_get hx
   have hi12:i<12:=by omega
   obtain ⟨g,hg,hgb⟩:∃ g:Nat→Int,atI [tupF U f,tupF U fun i=>-(f i)] ((i:Int)%2)=some (tupF U g)∧∀ j,j<U.toNat→-9≤g j∧g j≤9:=by
    have:(i:Int)%2=0∨(i:Int)%2=1:=by omega
    rcases this with h | h
    · exact ⟨f,by rw [h];rfl,hf⟩
    · exact ⟨fun i=>-(f i),by rw [h];rfl,fun j hj=>by have:=hf j hj;show -9≤-(f j)∧-(f j)≤9;omega⟩
   refine ⟨show (0:Int)<2 by decide,_,hg,⟨_,.refl,?_⟩⟩
   refine ⟨_,at_getD e0 (fl_get (by omega)),small4 (Nat.le_of_ble_eq_true rfl),5,rfl,by omega,by decide,by decide +kernel,fun r r0 r1=>?_⟩
   obtain ⟨v,hv,v0,v1⟩:∃ v:Int,atI [PyData.int 0,.int 0,.int 0,.int 1,.int (-1)] r=some (.int v)∧-1≤v∧v≤1:=by
    have:r=0∨r=1∨r=2∨r=3∨r=4:=by omega
    rcases this with rfl | rfl | rfl | rfl | rfl<;>exact ⟨_,rfl,by decide,by decide⟩
   refine ⟨_,hv,_,ixN_in e0 (by rw [fl_len];omega),?_⟩
   rw [fl_set]
   have ge:=hgb e.toNat (by omega)
   have b1:∀ j,j<U.toNat→-33≤putF g e.toNat (g e.toNat+v) j∧putF g e.toNat (g e.toNat+v) j≤33:=putF_le (fun j hj=>by have:=hgb j hj;omega) (by omega)
   generalize putF g e.toNat (g e.toNat+v)=g1 at b1
   refine ⟨_,.fz 7 _ rfl .refl,three_line,by rw [List.length_map];omega,?_⟩
   refine ⟨[.tape,.d (.int R),.d (.int U),.own ((ws++[wayFn i i U g1]).map wayPD),.own [tupF U f,tupF U fun i=>-(f i)],.d (.int e),.d (.int i),.d (.list (fl U.toNat g1)),_],.eq (by rw [List.map_append,List.map_singleton,← wayFn_pd];rfl),?_⟩
   refine ⟨small4 (Nat.le_of_ble_eq_true rfl),⟨by omega,by omega,by simp;omega⟩,?_⟩
   rw [rep0s]
   refine ⟨_,.refl,small4 (Nat.le_of_ble_eq_true rfl),5,rfl,by omega,by decide,by decide +kernel,fun r r0 r1=>?_⟩
   obtain ⟨v2,hv2,v20,v21⟩:∃ v:Int,atI [PyData.int (-1),.int (-1),.int (-1),.int 0,.int 1] r=some (.int v)∧-1≤v∧v≤1:=by
    have:r=0∨r=1∨r=2∨r=3∨r=4:=by omega
    rcases this with rfl | rfl | rfl | rfl | rfl<;>exact ⟨_,rfl,by decide,by decide⟩
   refine ⟨_,hv2,U,rfl,by omega,by omega,small9000 (by omega),fun z z0 z1=>⟨_,ixN_in z0 (by rw [fl_len];omega),?_⟩⟩
   rw [fl_set]
   have b2:∀ j,j<U.toNat→-33≤putF (fun _=>0) z.toNat v2 j∧putF (fun _=>0) z.toNat v2 j≤33:=putF_le (fun j hj=>by omega) (by omega)
   generalize putF (fun _=>0) z.toNat v2=g2 at b2
   refine ⟨_,.fz 8 _ rfl .refl,show (0:Int)<R by omega,three_line,by rw [List.length_map,List.length_append];simp;omega,?_⟩
   refine ⟨ws++[wayFn i i U g1]++[wayFn i ((i+1:Int)%R) U g2],.d (.int i),.d (.list (fl U.toNat g1)),.d (.list (fl U.toNat g2)),?_,by simp;omega,fun w hw'=>?_,by omega⟩
   · rw [List.map_append (l₂:=[wayFn i ((i+1:Int)%R) U g2]),List.map_singleton,← wayFn_pd];rfl
   · have hmod:0≤(i+1:Int)%R∧(i+1:Int)%R<R:=⟨Int.emod_nonneg _ (by omega),Int.emod_lt_of_pos _ (by omega)⟩
     rcases List.mem_append.mp hw' with hw' | hw'
     · rcases List.mem_append.mp hw' with hw' | hw'
       · exact hw w hw'
       · rw [List.mem_singleton.mp hw']
         exact wayFn_ok3 (by omega) (by omega) (by omega) b1
     · rw [List.mem_singleton.mp hw']
       exact wayFn_ok3 (by omega) hmod (by omega) b2
 · rintro env k ⟨ws,_,_,_,rfl,hl,hw,hk⟩
   rw [rngD_len] at hl hk
   exact ⟨_,.refl,q ws k hw (by omega) (by omega)⟩
theorem sc_law_book:FnScope ["_law_tape_here","_law_most","_law_rooms","_law_purses","_law_ways","_law_down","_law_k","_law_one","_law_at","_law_a","_law_b"] ["_law_tape_here","_law_most"] (defScope s_law_book):=⟨rfl,rfl,rfl,by decide +kernel,rfl,by decide +kernel,by decide +kernel⟩
theorem ok_law_book (T:Txt mg) (D:Def K mg "_law_book" s_law_book ["_law_tape_here","_law_most"]) (c__law_draw:Cal P w K mg base "_law_draw" 1 ["_law_tape_here","_law_many"] (liftV gsDraw)) (c__law_nested:Cal P w K mg base "_law_nested" 4 ["_law_tape_here","_law_rooms","_law_purses"] (liftN gsNestedN)) (c__law_gains:Cal P w K mg base "_law_gains" 3 ["_law_tape_here","_law_purses"] (liftV gsGainsV)):Cal P w K mg base "_law_book" 5 ["_law_tape_here","_law_most"] (liftV gsBookN):=by
 refine D.cal fun f fd F=>F.ok sc_law_book (lift_len ?_) (fun cdv A outer s H vs Q E hr h=>?_)
 · rintro as n P ⟨mr,mu,mw,rfl,_⟩
   rfl
 refine ⟨_,(@pss_cons _ _ _ _ _ (ps_set (i:=2) sc_law_book.nd rfl (Or.inr rfl) (pe_op op_add pe_int (pe_c c__law_draw (hr.mono (by decide)) rfl (pa_name (pv 0) (pa_sub (pe_ix ix_tup (pv 1) pe_int (fun _ _=>rfl)) pa_nil)))))
  (@pss_cons _ _ _ _ _ (ps_set (i:=3) sc_law_book.nd rfl (Or.inl rfl) (pe_op op_add pe_int (pe_c c__law_draw (hr.mono (by decide)) rfl (pa_name (pv 0) (pa_sub (pe_ix ix_tup (pv 1) pe_int (fun _ _=>rfl)) pa_nil)))))
  (@pss_cons _ _ _ _ _ (@ps_setD _ _ 4 _ _ _ _ sc_law_book.nd rfl (Or.inl rfl) (pes_lst pas_nil) rfl (Or.inl rfl))
  (@pss_cons _ _ _ _ _ (ps_if (pt_cmpR op_eq (pe_c c__law_draw (hr.mono (by decide)) rfl (pa_name (pv 0) (pa_const pe_int pa_nil))) pe_int (nomark _)) (@pss_one _ _ _ (ps_set (i:=4) sc_law_book.nd rfl (Or.inl rfl) (pe_c c__law_nested (hr.mono (by decide)) rfl (pa_name (pv 0) (pa_name (pv 2) (pa_name (pv 3) pa_nil)))))) pss_nil)
  (@pss_cons _ _ _ _ _ (ps_set (i:=5) sc_law_book.nd rfl (Or.inl rfl) (pe_c c__law_draw (hr.mono (by decide)) rfl (pa_name (pv 0) (pa_const pe_int pa_nil))))
  (@pss_cons _ _ _ _ _ (ps_for PassesOwn.never rfl (pi_range1 rfl T.b_range (pa_call (pe_c c__law_draw (hr.mono (by decide)) rfl (pa_name (pv 0) (pa_call (pe_callB (call_max2 rfl) rfl T.b_max boot_max (pa_const pe_int (pa_binop (pe_op op_sub (pe_op op_add (pe_ix ix_tup (pv 1) pe_int (fun _ _=>rfl)) pe_int) (pe_callB call_len_seq rfl T.b_len PySem.boot_len (pa_name (pv 4) pa_nil))) pa_nil))) pa_nil))) pa_nil)) (pg_name (i:=6) sc_law_book.nd rfl (Or.inl rfl) (Or.inl rfl))
  (@pss_cons _ _ _ _ _ (ps_set (i:=7) sc_law_book.nd rfl (Or.inl rfl) (pe_callTy call_list_of rfl T.b_list boot_list (pa_call (pe_c c__law_gains (hr.mono (by decide)) rfl (pa_name (pv 0) (pa_name (pv 3) pa_nil))) pa_nil)))
  (@pss_cons _ _ _ _ _ (ps_if (pt_cmpR op_eq (pv 5) pe_int (nomark _)) (@pss_cons _ _ _ _ _ (ps_set (i:=8) sc_law_book.nd rfl (Or.inl rfl) (pe_c c__law_draw (hr.mono (by decide)) rfl (pa_name (pv 0) (pa_name (pv 3) pa_nil))))
  (@pss_one _ _ _ (ps_asg (pe_callB (call_min2 rfl) rfl T.b_min boot_min (pa_sub (pe_ix ix_list (pv 7) (pv 8) (fun _ _=>rfl)) (pa_unary (pe_un un_neg pe_int) pa_nil))) (pg_sub (pv 7) (pv 8) set_list (fun v=>assign_sub_name _ _ _ _ _ v))))) pss_nil)
  (@pss_cons _ _ _ _ _ (ps_asg (pe_comp (sc:=(defScope s_law_book)) (N:=["_law_tape_here","_law_most","_law_rooms","_law_purses","_law_ways","_law_down","_law_k","_law_one","_law_at","_law_a","_law_b"]) (N':=["_law_end","_law_tape_here","_law_rooms"]) (k:=1) (idx:=[0,2]) rfl (by exact ⟨rfl,by decide +kernel,by decide +kernel,by decide +kernel,by decide +kernel,by decide +kernel,rfl,rfl⟩) rfl rfl (pi_range1 rfl T.b_range (pa_const pe_int pa_nil)) (fun _ _ _ _=>(pg_name (i:=0) (show (["_law_end","_law_tape_here","_law_rooms"]:List Str).Nodup by decide +kernel) rfl (Or.inl rfl) (Or.inr rfl))) (fun _ _ _ _=>pts_nil) (fun _ _ _ _=>(pe_c c__law_draw (hr.mono (by decide)) rfl (pa_name (pv 1) (pa_name (pv 2) pa_nil))))) (pg_pairL (K':=K) (i:=9) (j:=10) rfl sc_law_book.nd ⟨rfl,(Or.inl rfl),(Or.inl rfl)⟩ ⟨rfl,(Or.inl rfl),(Or.inl rfl)⟩ rfl))
  (@pss_one _ _ _ (ps_expr (pe_bm PySem.F.plainAttrs_list PySem.F.slot_list_append PySem.F.type_list_append mt_append (pv 4) (pa_tuple (@PEs.out _ _ _ (pes_tup (pas_name (pes_of (pv 9)) (pas_name (pes_of (pv 10)) (pas_call (pes_of (pe_callTy call_tuple_of rfl T.b_tuple boot_tuple (pa_name (pv 7) pa_nil))) pas_nil))))) pa_nil))))))))
  (@pss_one _ _ _ (@ps_ret _ _ _ _ (@PEs.out _ _ _ (pes_tup (pas_name (pes_of (pv 2)) (pas_name (pes_of (pv 3)) (pas_call (pes_of (pe_callTy call_tuple_of rfl T.b_tuple boot_tuple (pa_name (pv 4) pa_nil))) pas_nil))))))))))))),lift_body h ?_⟩
 rintro as n P ⟨mr,mu,mw,rfl,hn,hr,hu,hw,q⟩
 have hs:sizeLine=16777216:=sizeLine_eq
 refine ⟨rfl,_,rfl,mr,rfl,by omega,by omega,small9000 (by omega),fun r r0 r1=>⟨_,.refl,_,rfl,mu,rfl,by omega,by omega,small9000 (by omega),fun u u0 u1=>⟨_,.refl,Nat.zero_le _,?_⟩⟩⟩
 refine ⟨[.tape,.d (.tuple [.int mr,.int mu,.int mw]),.d (.int (1+r)),.d (.int (1+u)),.own [],.jnk,.jnk,.jnk,.jnk,.jnk,.jnk],.eq rfl,?_⟩
 generalize hR:1+r=R
 generalize hU:1+u=U
 refine vseq (fun e k=>∃ ws:List Way,e=[.tape,.d (.tuple [.int mr,.int mu,.int mw]),.d (.int R),.d (.int U),.own (ws.map wayPD),.jnk,.jnk,.jnk,.jnk,.jnk,.jnk]∧(∀ w∈ws,WayO3 R U w)∧ws.length≤24∧k≤n+63) (fun N hN=>?_) ?_
 · refine ⟨3,rfl,by omega,by decide,by decide +kernel,fun z z0 z1=>fEq_i (ite_b (fun c=>?_) (fun c=>?_))⟩
   · exact ⟨R,U,rfl,by omega,by omega,by omega,fun ws m hw hl hm=>hN _ _ ⟨ws,rfl,hw,hl,by omega⟩⟩
   · exact hN _ _ ⟨[],rfl,(fun w hw=>by cases hw),by decide,by omega⟩
 rintro _ k ⟨ws,rfl,hw0,hl0,hk⟩
 refine ⟨_,.refl,3,rfl,by omega,by decide,by decide +kernel,fun dn d0 d1=>⟨_,.refl,_,rfl,?_⟩⟩
 generalize hmm:(if mw+1-((ws.map wayPD).length:Int)>1 then mw+1-((ws.map wayPD).length:Int) else 1)=mm
 have hmm2:1≤mm∧mm≤37∧(mm=1∨mm+ws.length=mw+1):=by
  rw [List.length_map] at hmm
  split at hmm<;>omega
 refine ⟨mm,by rw [← hmm],by omega,by omega,small9000 (by omega),fun t t0 t1=>⟨t,rfl,⟨by omega,by omega⟩,?_⟩⟩
 refine ⟨fun i env k'=>∃ (vs:List Way) (a b c d e:Vl),env=[.tape,.d (.tuple [.int mr,.int mu,.int mw]),.d (.int R),.d (.int U),.own (vs.map wayPD),.d (.int dn),a,b,c,d,e]∧(∀ w∈vs,WayO3 R U w)∧vs.length=ws.length+i∧k'≤n+65+15*i,⟨ws,_,_,_,_,_,rfl,hw0,rfl,by omega⟩,?_,?_⟩
 · rintro i x env k' hx ⟨vs,xa,xb,xc,xd,xe,rfl,hw,hl,hk'⟩
   obtain ⟨hi,rfl⟩:=rng_get hx
   refine ⟨U,rfl,by omega,by omega,by omega,fun f m hf hm=>⟨_,.refl,?_⟩⟩
   refine vseq (fun e j=>∃ (g:Nat→Int) (x:Vl),e=[.tape,.d (.tuple [.int mr,.int mu,.int mw]),.d (.int R),.d (.int U),.own (vs.map wayPD),.d (.int dn),.d (.int i),.own (fl U.toNat g),x,xd,xe]∧(∀ j,j<U.toNat→-33≤g j∧g j≤33)∧j≤m+1) (fun N hN=>?_) ?_
   · refine fEq_i (ite_b (fun c=>?_) (fun c=>hN _ _ ⟨f,_,rfl,fun j hj=>by have:=hf j hj;omega,by omega⟩))
     refine ⟨U,rfl,by omega,by omega,small9000 (by omega),fun p p0 p1=>⟨_,.refl,_,at_getD p0 (fl_get (by omega)),_,ixN_in p0 (by rw [fl_len];omega),?_⟩⟩
     rw [fl_set]
     have fp:=hf p.toNat (by omega)
     exact hN _ _ ⟨_,_,rfl,putF_le (fun j hj=>by have:=hf j hj;omega) (by show -33≤(if (-1:Int)<f p.toNat then (-1:Int) else f p.toNat)∧(if (-1:Int)<f p.toNat then (-1:Int) else f p.toNat)≤33;split<;>omega),by omega⟩
   rintro _ j ⟨g,y,rfl,hg,hj⟩
   refine ⟨_,.fz 7 _ rfl .refl,2,rfl,⟨by decide,by decide⟩,⟨rfl,by rw [rngD_len];decide⟩,?_⟩
   refine cmpW_cnt 1 (m+3) (fun y=>∃ i:Int,y = .int i∧0≤i∧i≤R-1) (fun x _ k K hk h=>iteT ⟨R,rfl,by omega,by omega,small9000 (by omega),fun r r0 r1=>h _ _ ⟨r,rfl,r0,by omega⟩ (by omega)⟩) (by rw [rngD_len];show j+1*2≤m+3;omega) (fun ys k hy hgy hk=>?_)
   rw [rngD_len] at hy hk
   match ys,hy with
   | [y0,y1],_=>
    obtain ⟨a,rfl,a0,a1⟩:=hgy _ List.mem_cons_self
    obtain ⟨b,rfl,b0,b1⟩:=hgy _ (List.mem_cons_of_mem _ List.mem_cons_self)
    refine ⟨rfl,rfl,⟨_,.refl,three_line,by rw [List.length_map];omega,?_⟩⟩
    have hk2:k≤j+1*2:=hk
    refine ⟨vs++[wayFn a b U g],.d (.int i),.d (.list (fl U.toNat g)),y,.d (.int a),.d (.int b),?_,fun w hw'=>?_,by simp;omega,by omega⟩
    · rw [List.map_append,List.map_singleton,← wayFn_pd];rfl
    · rcases List.mem_append.mp hw' with hw' | hw'
      · exact hw w hw'
      · rw [List.mem_singleton.mp hw']
        exact wayFn_ok3 (by omega) (by omega) (by omega) hg
 · rintro env k' ⟨vs,_,_,_,_,_,rfl,hw,hl,hk'⟩
   rw [rngD_len] at hl hk'
   refine ⟨_,.fz 4 _ rfl .refl,three_line,q R U vs k' ⟨by omega,by omega,by omega,by omega,by omega,fun w h=>(hw w h).ok⟩ hw (by omega) (by omega) (by omega)⟩
theorem sc_common_divisor:FnScope ["numbers","divisor","number","rest"] ["numbers"] (defScope s_common_divisor):=⟨rfl,rfl,rfl,by decide +kernel,rfl,by decide +kernel,by decide +kernel⟩
theorem ok_common_divisor (T:Txt mg) (D:Def K mg "common_divisor" s_common_divisor ["numbers"]):Cal P w K mg base "common_divisor" 1 ["numbers"] (liftV gsCommon):=by
 refine D.cal fun f fd F=>F.ok sc_common_divisor (lift_len ?_) (fun cdv A outer s H vs Q E hr h=>?_)
 · rintro as n P ⟨ns,rfl,_⟩
   rfl
 refine ⟨_,(@pss_cons _ _ _ _ _ (ps_set (i:=1) sc_common_divisor.nd rfl (Or.inl rfl) pe_int)
  (@pss_cons _ _ _ _ _ (ps_for PassesOwn.never rfl (pi_list (pv 0)) (pg_name (i:=2) sc_common_divisor.nd rfl (Or.inl rfl) (Or.inl rfl))
  (@pss_cons _ _ _ _ _ (ps_set (i:=3) sc_common_divisor.nd rfl (Or.inl rfl) (pe_callB call_abs rfl T.b_abs boot_abs (pa_name (pv 2) pa_nil)))
  (@pss_one _ _ _ (ps_while PassesOwn.never (pt_cmpR op_gt (pv 3) pe_int (nomark _))
  (@pss_one _ _ _ (ps_par (i:=1) (j:=3) rfl sc_common_divisor.nd rfl rfl (by decide) rfl rfl (pa_name (pv 3) (pa_binop (pe_op op_mod (pv 1) (pv 3)) pa_nil)) rfl))))))
  (@pss_one _ _ _ (@ps_ret _ _ _ _ (pv 1))))),lift_body h ?_⟩
 rintro as n P ⟨ns,rfl,q⟩
 refine ⟨rfl,_,.refl,?_⟩
 refine ⟨fun i env n'=>n'=n∧∃ x y:Vl,env=[.d (.list (ns.map .int)),.d (.int ((gcdL (ns.take i):Nat):Int)),x,y],⟨rfl,_,_,rfl⟩,?_,?_⟩
 · rintro i x env n' hx ⟨rfl,_,_,rfl⟩
   rw [List.getElem?_map] at hx
   obtain ⟨k,hk,rfl⟩:=Option.map_eq_some_iff.mp hx
   refine ⟨_,.refl,?_⟩
   refine ⟨fun m env j=>j=n'∧∃ g:Nat,env=[.d (.list (ns.map .int)),.d (.int ((g:Nat):Int)),.d (.int k),.d (.int ((m:Nat):Int))]∧Nat.gcd g m=gcdL (ns.take (i+1)),⟨k.natAbs,rfl,gcdL (ns.take i),?_,(gcd_take hk).symm⟩,?_⟩
   · show [Vl.d (.list (ns.map .int)),_,_,Vl.d (.int (if k<0 then -k else k))]=_
     rw [show (if k<0 then -k else k)=(k.natAbs:Int) by split<;>omega]
   · rintro m _ _ ⟨rfl,g,rfl,hg⟩
     refine ite_b (fun c=>?_) (fun c=>?_)
     · have hm:0<m:=by have:=of_decide_eq_true c;omega
       refine ⟨by omega,_,_,rfl,g%m,Nat.mod_lt _ hm,rfl,m,?_,?_⟩
       · rfl
       · rw [← hg,Nat.gcd_comm m,← Nat.gcd_rec,Nat.gcd_comm]
     · have hm:m=0:=by have:=of_decide_eq_false c;omega
       subst hm
       rw [Nat.gcd_zero_right] at hg
       exact ⟨rfl,_,_,by rw [hg]⟩
 · rintro env n' ⟨rfl,_,_,rfl⟩
   rw [List.length_map,List.take_length]
   exact ⟨_,.refl,q⟩
theorem sc_without_divisor:FnScope ["numbers","divisor"] ["numbers"] (defScope s_without_divisor):=⟨rfl,rfl,rfl,by decide +kernel,rfl,by decide +kernel,by decide +kernel⟩
theorem ok_without_divisorL (T:Txt mg) (S:base.NoSeer) (tP:P.given.tree=none) (D:Def K mg "without_divisor" s_without_divisor ["numbers"]) (c_common_divisor:Cal P w K mg base "common_divisor" 1 ["numbers"] (liftV gsCommon)):Cal P w K mg base "without_divisor" 40 ["numbers"] (liftN gsNoDivL):=by
 refine D.cal fun f fd F=>F.ok sc_without_divisor (lift_lenN ?_) (fun cdv A outer s H vs Q E hr h=>?_)
 · rintro as n P ⟨ns,rfl,_⟩
   rfl
 have hy:PyRoom (cxOf CX0 P w K mg base ["numbers","divisor"] "without_divisor" (defScope s_without_divisor) f cdv A outer s H E):=py_of S tP hr (by decide) rfl rfl
 refine ⟨_,(@pss_cons _ _ _ _ _ (ps_set (i:=1) sc_without_divisor.nd rfl (Or.inr rfl) (pe_c c_common_divisor (hr.mono (by decide)) rfl (pa_name (pv 0) pa_nil)))
  (@pss_one _ _ _ (@ps_ret _ _ _ _ (pe_comp (sc:=(defScope s_without_divisor)) (N:=["numbers","divisor"]) (N':=["number","divisor"]) (k:=1) (idx:=[1]) rfl (by exact ⟨rfl,by decide +kernel,by decide +kernel,by decide +kernel,by decide +kernel,by decide +kernel,rfl,rfl⟩) rfl rfl (pi_list (pv 0)) (fun _ _ _ _=>(pg_name (i:=0) (show (["number","divisor"]:List Str).Nodup by decide +kernel) rfl (Or.inl rfl) (Or.inr rfl))) (fun _ _ _ _=>pts_nil) (fun _ _ _ _=>(pe_op (op_fdivL hy.comp) (pv 0) (pv 1))))))),lift_bodyN h ?_⟩
 rintro as n P ⟨ns,rfl,hl,h0,q⟩
 have hs:sizeLine=16777216:=sizeLine_eq
 refine ⟨rfl,ns,rfl,_,.refl,⟨rfl,by rw [List.length_map];omega⟩,?_⟩
 refine cmpW_mapG (f:=PyData.int) (fun x=>.int (x/((gcdL ns:Nat):Int))) (fun x hx n K hk=>iteT ⟨by omega,?_⟩) ?_
 · show K (some (.int (x.fdiv ((gcdL ns:Nat):Int)))) n
   rw [Int.fdiv_eq_ediv_of_nonneg x (by omega)];exact hk
 · unfold redI at q
   rw [List.map_map] at q
   exact q
theorem sc_falls_of:FnScope ["book","way","a","b","gains"] ["book","way"] (defScope s_falls_of):=⟨rfl,rfl,rfl,by decide +kernel,rfl,by decide +kernel,by decide +kernel⟩
theorem ok_falls_of (T:Txt mg) (D:Def K mg "falls_of" s_falls_of ["book","way"]):Cal P w K mg base "falls_of" 1 ["book","way"] (liftN gsFallsOf):=by
 refine D.cal fun f fd F=>F.ok sc_falls_of (lift_lenN ?_) (fun cdv A outer s H vs Q E hr h=>?_)
 · rintro as n P ⟨R,U,ws,w,rfl,_⟩
   rfl
 refine ⟨_,(@pss_cons _ _ _ _ _ (ps_asg (pv 1) (pg_trio (K':=K) (i:=2) (j:=3) (m:=4) rfl sc_falls_of.nd ⟨rfl,(Or.inr rfl),(Or.inl rfl)⟩ ⟨rfl,(Or.inr rfl),(Or.inl rfl)⟩ ⟨rfl,(Or.inl rfl),(Or.inl rfl)⟩ rfl))
  (@pss_one _ _ _ (@ps_ret _ _ _ _ (pe_op op_cat (pe_comp (sc:=(defScope s_falls_of)) (N:=["book","way","a","b","gains"]) (N':=["more"]) (k:=1) (idx:=[]) rfl (by exact ⟨rfl,by decide +kernel,by decide +kernel,by decide +kernel,by decide +kernel,by decide +kernel,rfl,rfl⟩) rfl rfl (pi_tup (pv 4)) (fun _ _ _ _=>(pg_name (i:=0) (show (["more"]:List Str).Nodup by decide +kernel) rfl (Or.inl rfl) (Or.inr rfl))) (fun _ _ _ _=>pts_nil) (fun _ _ _ _=>(pe_un un_neg (pv 0)))) (pe_comp (sc:=(defScope s_falls_of)) (N:=["book","way","a","b","gains"]) (N':=["room","a","b"]) (k:=1) (idx:=[2,3]) rfl (by exact ⟨rfl,by decide +kernel,by decide +kernel,by decide +kernel,by decide +kernel,by decide +kernel,rfl,rfl⟩) rfl rfl (pi_range1 rfl T.b_range (pa_sub (pe_ix ix_tup (pv 0) pe_int (fun _ _=>rfl)) pa_nil)) (fun _ _ _ _=>(pg_name (i:=0) (show (["room","a","b"]:List Str).Nodup by decide +kernel) rfl (Or.inl rfl) (Or.inr rfl))) (fun _ _ _ _=>pts_nil) (fun _ _ _ _=>(pe_op op_sub (pe_callTy call_int1 rfl T.b_int boot_int (pa_cmp (pe_cmpR op_eq (pv 0) (pv 1) (nomark _)) pa_nil)) (pe_callTy call_int1 rfl T.b_int boot_int (pa_cmp (pe_cmpR op_eq (pv 0) (pv 2) (nomark _)) pa_nil))))))))),lift_bodyN h ?_⟩
 rintro as n P ⟨R,U,ws,w,rfl,hB,hw,q⟩
 have hs:sizeLine=16777216:=sizeLine_eq
 have r0:=hB.r0
 have r1:=hB.r1
 have p1:=hB.p1
 have gl:=hw.len
 refine ⟨rfl,rfl,rfl,⟨_,.refl,⟨rfl,by rw [List.length_map];omega⟩,?_⟩⟩
 refine cmpW_mapG (f:=PyData.int) (fun x=>.int (-x)) (fun x hx n K hk=>iteT hk) ?_
 refine ⟨_,rfl,R,rfl,⟨by omega,by omega⟩,⟨rfl,by rw [rngD_len];omega⟩,?_⟩
 refine cmpW_mapG (f:=fun i:Nat=>PyData.int (0+((i:Nat):Int))) (fun i=>.int ((if decide (0+((i:Nat):Int)=w.a)=true then 1 else 0)-(if decide (0+((i:Nat):Int)=w.b)=true then 1 else 0))) (fun i hi n K hk=>iteT hk) ?_
 refine ⟨by rw [List.length_map,List.length_map,List.length_range];omega,?_⟩
 have e:(fallsI R w).map PyData.int=w.g.map (fun x=>PyData.int (-x))++(List.range R.toNat).map (fun i:Nat=>PyData.int ((if decide (0+((i:Nat):Int)=w.a)=true then 1 else 0)-(if decide (0+((i:Nat):Int)=w.b)=true then 1 else 0))):=by
  unfold fallsI
  rw [List.map_append,List.map_map,List.map_map]
  congr 1
  refine List.map_congr_left fun i _=>?_
  simp
 rw [e] at q
 exact q
theorem sc_cleared:FnScope ["row","by","place","fresh"] ["row","by","place"] (defScope s_cleared):=⟨rfl,rfl,rfl,by decide +kernel,rfl,by decide +kernel,by decide +kernel⟩
theorem ok_cleared (T:Txt mg) (D:Def K mg "cleared" s_cleared ["row","by","place"]) (c_without_divisor:Cal P w K mg base "without_divisor" 40 ["numbers"] (liftN gsNoDivL)):Cal P w K mg base "cleared" 41 ["row","by","place"] (liftV gsClr):=by
 refine D.cal fun f fd F=>F.ok sc_cleared (lift_len ?_) (fun cdv A outer s H vs Q E hr h=>?_)
 · rintro as n P ⟨b,p,row,by_,rfl,_⟩
   rfl
 refine ⟨_,(@pss_cons _ _ _ _ _ (ps_if (pt_cmpR op_eq (pe_ix ix_list (pv 0) (pv 2) (fun _ _=>rfl)) pe_int (nomark _)) (@pss_one _ _ _ (@ps_ret _ _ _ _ (pv 0))) pss_nil)
  (@pss_cons _ _ _ _ _ (ps_setcomp (i:=3) (sc:=(defScope s_cleared)) (N:=["row","by","place","fresh"]) (N':=["number","more","by","place","row"]) (k:=2) (idx:=[1,2,0]) rfl sc_cleared.nd rfl rfl (by exact ⟨rfl,by decide +kernel,by decide +kernel,by decide +kernel,by decide +kernel,by decide +kernel,rfl,rfl⟩) rfl rfl (pi_zip rfl T.b_zip (pa_name (pv 0) (pa_name (pv 1) pa_nil))) (fun _ _ _ _=>(pg_pair (K':=K) (i:=0) (j:=1) rfl (show (["number","more","by","place","row"]:List Str).Nodup by decide +kernel) ⟨rfl,(Or.inl rfl),(Or.inr rfl)⟩ ⟨rfl,(Or.inl rfl),(Or.inr rfl)⟩ rfl)) (fun _ _ _ _=>pts_nil) (fun _ _ _ _=>(pe_op op_sub (pe_op op_mulB (pe_ix (ix_listK (K':=K) rfl) (pv 2) (pv 3) (fun _ _=>rfl)) (pv 0)) (pe_op op_mulB (pe_ix (ix_listK (K':=K) rfl) (pv 4) (pv 3) (fun _ _=>rfl)) (pv 1)))))
  (@pss_one _ _ _ (as_retIf (@ps_ret _ _ _ _ (pe_ifExp (pt_val (pe_callB (call_anyL rfl) rfl T.b_any boot_any (pa_name (pv 3) pa_nil))) (pe_c c_without_divisor (hr.mono (by decide)) rfl (pa_name (pv 3) pa_nil)) (pv 3))))))),lift_body h ?_⟩
 rintro as n P ⟨b,p,row,by_,rfl,hl,hp,hz,⟨hb1,hb2,hb3⟩,q⟩
 have hs:sizeLine=16777216:=sizeLine_eq
 have hat:∀ {xs:List Int},p<xs.length→atI (xs.map PyData.int) ((p:Nat):Int)=some (.int (xs.getD p 0)):=fun {xs} h=>at_getD (Int.natCast_nonneg p) (int_get (by simpa using h))
 have h27:(2:Nat)^27=134217728:=by decide
 have mo:∀ {x y:Int},x.natAbs<2^b→y.natAbs<2^b→IntMulOk x y:=fun {x y} h1 h2=>mulOk_ofH h1 h2 (by omega)
 refine ⟨rfl,_,hat hp,fEq_i (ite_b (fun c=>?_) (fun c=>⟨_,.refl,?_⟩))⟩
 · have c:row.getD p 0=0:=of_decide_eq_true c
   unfold clr at q
   rw [if_pos c] at q
   exact q
 have c:¬ row.getD p 0=0:=of_decide_eq_false c
 unfold clr at q
 rw [if_neg c] at q
 refine ⟨_,_,_,_,rfl,rfl,rfl,⟨rfl,by rw [zipD_ints,List.length_map,List.length_zip];omega⟩,?_⟩
 rw [zipD_ints]
 refine cmpW_mapG (f:=fun p:Int×Int=>PyData.tuple [.int p.1,.int p.2]) (fun z:Int×Int=>PyData.int (by_.getD p 0*z.1-row.getD p 0*z.2)) (fun z hz m K hK=>⟨rfl,rfl,iteT ⟨_,hat (by omega),mo (hb2.at p) (hb1 _ (List.of_mem_zip hz).1),_,hat hp,mo (hb1.at p) (hb2 _ (List.of_mem_zip hz).2),hK⟩⟩) ?_
 have e:(row.zip by_).map (fun z:Int×Int=>PyData.int (by_.getD p 0*z.1-row.getD p 0*z.2))=(clrF by_ row p).map .int:=by
  unfold clrF
  rw [← List.map_uncurry_zip_eq_zipWith,List.map_map]
  rfl
 rw [e]
 refine ⟨_,.fz 3 _ rfl .refl,clrF by_ row p,rfl,ite_b (fun c=>?_) (fun c=>?_)⟩
 · have c:anyI (clrF by_ row p)=true:=c
   rw [if_pos c] at q
   exact ⟨_,rfl,by rw [clrF_len hl];omega,any_ne c,q⟩
 · have c:anyI (clrF by_ row p)=false:=c
   rw [if_neg (by rw [c];exact Bool.false_ne_true)] at q
   exact q
theorem sc_settled_rows:FnScope ["rows","width","settled","place","using","by"] ["rows","width"] (defScope s_settled_rows):=⟨rfl,rfl,rfl,by decide +kernel,rfl,by decide +kernel,by decide +kernel⟩
theorem ok_settled_rows (T:Txt mg) (D:Def K mg "settled_rows" s_settled_rows ["rows","width"]) (c_cleared:Cal P w K mg base "cleared" 41 ["row","by","place"] (liftV gsClr)):Cal P w K mg base "settled_rows" 42 ["rows","width"] (liftV gsSettle):=by
 refine D.cal fun f fd F=>F.ok sc_settled_rows (lift_len ?_) (fun cdv A outer s H vs Q E hr h=>?_)
 · rintro as n P ⟨rows,w,rfl,_⟩
   rfl
 refine ⟨_,(@pss_cons _ _ _ _ _ (ps_set (i:=2) sc_settled_rows.nd rfl (Or.inl rfl) pe_dnewK)
  (@pss_cons _ _ _ _ _ (ps_for PassesOwn.never rfl (pi_rangeD rfl T.b_range (pa_binop (pe_op op_sub (pv 1) pe_int) (pa_unary (pe_un un_neg pe_int) (pa_unary (pe_un un_neg pe_int) pa_nil)))) (pg_name (i:=3) sc_settled_rows.nd rfl (Or.inr rfl) (Or.inl rfl))
  (@pss_cons _ _ _ _ _ (ps_setcomp (i:=4) (sc:=(defScope s_settled_rows)) (N:=["rows","width","settled","place","using","by"]) (N':=["row","place"]) (k:=1) (idx:=[3]) rfl sc_settled_rows.nd rfl rfl (by exact ⟨rfl,by decide +kernel,by decide +kernel,by decide +kernel,by decide +kernel,by decide +kernel,rfl,rfl⟩) rfl rfl (pi_list (pv 0)) (fun _ _ _ _=>(pg_name (i:=0) (show (["row","place"]:List Str).Nodup by decide +kernel) rfl (Or.inl rfl) (Or.inr rfl))) (fun _ _ _ _=>pts_one (pt_cmpR op_ne (pe_ix (ix_listK (K':=K) rfl) (pv 0) (pv 1) (fun _ _=>rfl)) pe_int (nomark _))) (fun _ _ _ _=>(pv 0)))
  (@pss_one _ _ _ (ps_if (pt_tru (pv 4) (fun _=>rfl)) (@pss_cons _ _ _ _ _ (ps_set (i:=5) sc_settled_rows.nd rfl (Or.inr rfl) (pe_ix ix_list (pv 4) pe_int (fun _ _=>rfl)))
  (@pss_cons _ _ _ _ _ (ps_setcomp (i:=0) (sc:=(defScope s_settled_rows)) (N:=["rows","width","settled","place","using","by"]) (N':=["row","by","place"]) (k:=1) (idx:=[5,3]) rfl sc_settled_rows.nd rfl rfl (by exact ⟨rfl,by decide +kernel,by decide +kernel,by decide +kernel,by decide +kernel,by decide +kernel,rfl,rfl⟩) rfl rfl (pi_list (pv 0)) (fun _ _ _ _=>(pg_name (i:=0) (show (["row","by","place"]:List Str).Nodup by decide +kernel) rfl (Or.inl rfl) (Or.inr rfl))) (fun _ _ _ _=>pts_one (pt_cmpR (op_neD hr.units) (pv 0) (pv 1) (nomark _))) (fun _ _ _ _=>(pe_c c_cleared (hr.mono (by decide)) rfl (pa_name (pv 0) (pa_name (pv 1) (pa_name (pv 2) pa_nil))))))
  (@pss_cons _ _ _ _ _ (ps_fz (i:=2) (ps_setcompD (i:=2) (sc:=(defScope s_settled_rows)) (N:=["rows","width","settled","place","using","by"]) (N':=["other","row","by","place"]) (k:=2) (idx:=[5,3]) rfl sc_settled_rows.nd rfl rfl (by exact ⟨rfl,by decide +kernel,by decide +kernel,by decide +kernel,by decide +kernel,by decide +kernel,rfl,rfl⟩) rfl rfl (pi_items (pv 2)) (fun _ _ _ _=>(pg_pair (K':=K) (i:=0) (j:=1) rfl (show (["other","row","by","place"]:List Str).Nodup by decide +kernel) ⟨rfl,(Or.inl rfl),(Or.inr rfl)⟩ ⟨rfl,(Or.inl rfl),(Or.inr rfl)⟩ rfl)) (fun _ _ _ _=>pts_nil) (fun _ _ _ _=>(pv 0)) (fun _ _ _ _=>(pe_c c_cleared (hr.mono (by decide)) rfl (pa_name (pv 1) (pa_name (pv 2) (pa_name (pv 3) pa_nil)))))))
  (@pss_one _ _ _ (ps_dput (hu_of hr) (pv 2) (pv 3) (pv 5) rfl))))) pss_nil))))
  (@pss_one _ _ _ (ps_fz (i:=2) (@ps_ret _ _ _ _ (pv 2)))))),lift_body h ?_⟩
 rintro as n P ⟨rows,w,rfl,hw,hr0,hz,q⟩
 have hs:sizeLine=16777216:=sizeLine_eq
 have h27:(2:Nat)^27=134217728:=by decide
 refine ⟨rfl,_,.refl,((w:Nat):Int)-1,-1,rfl,⟨by omega,by omega,by decide,by decide⟩,?_⟩
 have hlen:(rngD' (((w:Nat):Int)-1) (((w:Nat):Int)-1-(-1)).toNat).length=w:=by unfold rngD';rw [List.length_map,List.length_range];omega
 refine ⟨fun i env j=>j=n∧∃ a b c:Vl,env=[.d (.list ((settleTo w rows i).1.map ringL)),.d (natD w),.dct (srK (settleTo w rows i).2),a,b,c],⟨rfl,_,_,_,rfl⟩,?_,?_⟩
 · rintro i x _ _ hx ⟨rfl,a,b,c,rfl⟩
   have hi:i<w:=by have:=(List.getElem?_eq_some_iff.mp hx).1;omega
   have ex:x=natD (w-1-i):=by
    unfold rngD' at hx
    rw [List.getElem?_map,List.getElem?_range (by omega)] at hx
    cases hx
    show PyData.int _=PyData.int _
    rw [nat_down hi]
   subst ex
   have ok:=settle_ok hr0 (i:=i) (by omega)
   have lz:=settle_len (w:=w) (rows:=rows) (i:=i)
   have bz:=bit_18 (b:=8) (i:=i) (by decide) (by omega)
   have est:settleTo w rows (i+1)=setStep (w-1-i) (settleTo w rows i):=rfl
   generalize hst:settleTo w rows i=st at ok lz est ⊢
   have hp:w-1-i<w:=by omega
   have hpi:w-1-i<w-i:=by omega
   generalize w-1-i=p at hp hpi est ⊢
   have hat:∀ {xs:List Int},xs.length=w→atI (xs.map PyData.int) ((p:Nat):Int)=some (.int (xs.getD p 0)):=fun {xs} h=>at_getD (Int.natCast_nonneg p) (int_get (by simpa [h] using hp))
   refine ⟨⟨rfl,by rw [List.length_map];omega⟩,cmpW_filtG (p:=fun r:List Int=>decide (r.getD p 0≠0)) (fun r hr K h1 h2=>⟨_,hat (ok.len r hr).1,fNe_i ?_⟩) ?_⟩
   · by_cases c:r.getD p 0=0
     · rw [decide_eq_true c]
       exact h2 (decide_eq_false (fun z=>z c))
     · rw [decide_eq_false c]
       exact h1 (decide_eq_true c)
   refine ⟨_,.fz 4 _ rfl .refl,?_⟩
   unfold setStep at est
   cases hf:st.1.filter (fun r=>decide (r.getD p 0≠0)) with
   | nil=>
    rw [hf] at est
    exact iteF ⟨rfl,_,_,_,by rw [est];rfl⟩
   | cons by_ rest=>
    rw [hf] at est
    have hm:by_∈st.1.filter (fun r=>decide (r.getD p 0≠0)):=by rw [hf];exact List.mem_cons_self
    obtain ⟨hb,hp0⟩:=List.mem_filter.mp hm
    obtain ⟨bl,bb⟩:=ok.len by_ hb
    refine iteT ⟨_,at_getD (Int.le_refl 0) rfl,⟨_,.refl,⟨rfl,by rw [List.length_map];omega⟩,?_⟩⟩
    refine cmpW_fm (h:=fun r=>ringL (clr by_ r p)) (p:=fun r:List Int=>decide (r≠by_)) (fun r hr K h1 h2=>neRing ?_) ?_
    · by_cases c:r=by_
      · rw [decide_eq_false (fun z=>z c)]
        exact iteF (h2 (decide_eq_false fun z=>z c))
      · rw [decide_eq_true c]
        exact iteT ⟨_,p,r,by_,rfl,by rw [(ok.len r hr).1,bl],by rw [(ok.len r hr).1];omega,by rw [(ok.len r hr).1];omega,⟨(ok.len r hr).2,bb,by omega⟩,h1 (decide_eq_true c)⟩
    refine ⟨_,.fz 0 _ rfl .refl,fun ep=>⟨ep,srK st.2,rfl,⟨rfl,?_⟩,?_⟩⟩
    · have:=settle_klen ok
      rw [List.length_map]
      unfold srK
      rw [List.length_map]
      omega
    refine cmpD_items (f:=fun k=>clr by_ k.2 p) (fun k hk K hK=>⟨rfl,rfl,iteT ?_⟩) (fun k hk=>by simp) ok.nd ?_
    · obtain ⟨k1,k2,k3,k4,k5⟩:=ok.kl k hk
      exact ⟨_,p,k.2,by_,rfl,by omega,by omega,by omega,⟨k4,bb,by omega⟩,hK⟩
    refine ⟨_,.refl,?_,rfl,.d (natD p),.d (.list ((by_::rest).map ringL)),.d (ringL by_),?_⟩
    · have:=settle_klen ok
      simp only [List.nil_append,List.length_map]
      omega
    · rw [est,List.nil_append,putQ_new]
      · show [_,_,_,_,_,_]=[_,_,_,_,_,_]
        unfold srK
        rw [List.map_append,List.map_map,List.map_map]
        rfl
      · intro z
        rw [List.map_map] at z
        obtain ⟨k,hk,e⟩:=List.mem_map.mp z
        have h1:=(ok.kl k hk).1
        injection e with e
        have e:((k.1:Nat):Int)=((p:Nat):Int):=e
        omega
 · rintro env _ ⟨rfl,a,b,c,rfl⟩
   rw [hlen]
   exact ⟨_,.refl,fun ep=>q ep⟩
theorem sc_row_from:FnScope ["settled","place","width","scale","at","row","told","least"] ["settled","place","width"] (defScope s_row_from):=⟨rfl,rfl,rfl,by decide +kernel,rfl,by decide +kernel,by decide +kernel⟩
theorem ok_row_from (T:Txt mg) (S:base.NoSeer) (tP:P.given.tree=none) (D:Def K mg "row_from" s_row_from ["settled","place","width"]) (c_without_divisor:Cal P w K mg base "without_divisor" 40 ["numbers"] (liftN gsNoDivL)):Cal P w K mg base "row_from" 41 ["settled","place","width"] (liftN gsRowFrom):=by
 refine D.cal fun f fd F=>F.ok sc_row_from (lift_lenN ?_) (fun cdv A outer s H vs Q E hr h=>?_)
 · rintro as n P ⟨ep,kvs,p,w,rfl,_⟩
   rfl
 have hy:PyRoom (cxOf CX0 P w K mg base ["settled","place","width","scale","at","row","told","least"] "row_from" (defScope s_row_from) f cdv A outer s H E):=py_of S tP hr (by decide) rfl rfl
 refine ⟨_,(@pss_cons _ _ _ _ _ (ps_set (i:=3) sc_row_from.nd rfl (Or.inl rfl) pe_int)
  (@pss_cons _ _ _ _ _ (ps_for PassesOwn.never rfl (pi_items (pv 0)) (pg_pair (K':=K) (i:=4) (j:=5) rfl sc_row_from.nd ⟨rfl,(Or.inl rfl),(Or.inl rfl)⟩ ⟨rfl,(Or.inl rfl),(Or.inl rfl)⟩ rfl)
  (@pss_one _ _ _ (ps_aug (i:=3) sc_row_from.nd rfl (Or.inl rfl) (pe_ix ix_list (pv 5) (pv 4) (fun _ _=>rfl)) ip_mulB)))
  (@pss_cons _ _ _ _ _ (ps_set (i:=6) sc_row_from.nd rfl (Or.inl rfl) (pe_op op_rep (@PEs.out _ _ _ (pes_lst (pas_const pes_int pas_nil))) (pv 2)))
  (@pss_cons _ _ _ _ _ (ps_asg (pv 3) (pg_sub (pv 6) (pv 1) set_list (fun v=>assign_sub_name _ _ _ _ _ v)))
  (@pss_cons _ _ _ _ _ (ps_for PassesOwn.never rfl (pi_items (pv 0)) (pg_pair (K':=K) (i:=4) (j:=5) rfl sc_row_from.nd ⟨rfl,(Or.inl rfl),(Or.inl rfl)⟩ ⟨rfl,(Or.inl rfl),(Or.inl rfl)⟩ rfl)
  (@pss_one _ _ _ (ps_asg (pe_op (op_fdivL hy.nox) (pe_op op_mulB (pe_un un_neg (pv 3)) (pe_ix ix_list (pv 5) (pv 1) (fun _ _=>rfl))) (pe_ix ix_list (pv 5) (pv 4) (fun _ _=>rfl))) (pg_sub (pv 6) (pv 4) set_list (fun v=>assign_sub_name _ _ _ _ _ v)))))
  (@pss_cons _ _ _ _ _ (ps_set (i:=7) sc_row_from.nd rfl (Or.inl rfl) (pe_c c_without_divisor (hr.mono (by decide)) rfl (pa_name (pv 6) pa_nil)))
  (@pss_one _ _ _ (as_retIf (@ps_ret _ _ _ _ (pe_ifExp (pt_cmpR op_gt (pe_ix ix_list (pv 7) (pv 1) (fun _ _=>rfl)) pe_int (nomark _)) (pv 7) (pe_comp (sc:=(defScope s_row_from)) (N:=["settled","place","width","scale","at","row","told","least"]) (N':=["number"]) (k:=1) (idx:=[]) rfl (by exact ⟨rfl,by decide +kernel,by decide +kernel,by decide +kernel,by decide +kernel,by decide +kernel,rfl,rfl⟩) rfl rfl (pi_list (pv 7)) (fun _ _ _ _=>(pg_name (i:=0) (show (["number"]:List Str).Nodup by decide +kernel) rfl (Or.inl rfl) (Or.inr rfl))) (fun _ _ _ _=>pts_nil) (fun _ _ _ _=>(pe_un un_neg (pv 0)))))))))))))),lift_bodyN h ?_⟩
 rintro as n P ⟨ep,kvs,p,w,rfl,ok,hw,hp,hn,q⟩
 have hs:sizeLine=16777216:=sizeLine_eq
 have h27:(2:Nat)^27=134217728:=by decide
 have kl:=ok.len
 have slen:((srK kvs).map itemD).length=kvs.length:=by unfold srK;rw [List.length_map,List.length_map]
 refine ⟨rfl,_,.refl,ep,srK kvs,rfl,?_⟩
 refine ⟨fun i env j=>j=n∧∃ a b:Vl,env=[.d (fzD ep (srK kvs)),.d (natD p),.d (natD w),.d (.int (scaleI (kvs.take i))),a,b,.jnk,.jnk],⟨rfl,_,_,rfl⟩,?_,?_⟩
 · rintro i x _ _ hx ⟨rfl,a,b,rfl⟩
   obtain ⟨k,hk,rfl⟩:=sr_get hx
   obtain ⟨k1,k2,k3,k4⟩:=ok.kl k (List.mem_of_getElem? hk)
   have hi:=(List.getElem?_eq_some_iff.mp hk).1
   refine ⟨rfl,rfl,_,atK (by omega),mulOk_ofH (scale_bd ok (i:=i) (by omega)) (k3.at k.1) (by omega),rfl,.d (natD k.1),.d (ringL k.2),?_⟩
   rw [take_snocH hk,scale_snoc]
   rfl
 rintro _ n1 ⟨rfl,a,b,rfl⟩
 rw [slen,List.take_length]
 have hz:=scale_bd ok (Nat.le_refl _)
 rw [List.take_length] at hz
 have er:(List.replicate ((w:Nat):Int).toNat [PyData.int 0]).flatten=(List.replicate w 0).map PyData.int:=by
  rw [rep_flat,List.map_replicate]
  rfl
 refine ⟨_,.refl,small4 (Nat.le_of_ble_eq_true rfl),⟨by omega,by omega,by rw [List.length_singleton];omega⟩,?_⟩
 rw [er]
 refine ⟨_,.refl,p,ixN_of (Int.natCast_nonneg p) (by rw [List.length_map,List.length_replicate];omega),?_⟩
 rw [← List.map_set]
 refine ⟨_,.refl,ep,srK kvs,rfl,?_⟩
 refine ⟨fun i env j=>j=n1∧∃ a b:Vl,env=[.d (fzD ep (srK kvs)),.d (natD p),.d (natD w),.d (.int (scaleI kvs)),a,b,.own ((toldI (kvs.take i) (scaleI kvs) p ((List.replicate w 0).set p (scaleI kvs))).map .int),.jnk],⟨rfl,_,_,rfl⟩,?_,?_⟩
 · rintro i x _ _ hx ⟨rfl,a,b,rfl⟩
   obtain ⟨k,hk,rfl⟩:=sr_get hx
   obtain ⟨k1,k2,k3,k4⟩:=ok.kl k (List.mem_of_getElem? hk)
   refine ⟨rfl,rfl,_,atK (by omega),mulOk_ofH (by rw [Int.natAbs_neg];exact hz) (k3.at p) (by omega),_,atK (by omega),k4,k.1,ixN_of (Int.natCast_nonneg k.1) (by rw [List.length_map,told_len,List.length_set,List.length_replicate];omega),rfl,.d (natD k.1),.d (ringL k.2),?_⟩
   rw [← List.map_set,take_snocH hk,told_snoc]
   rfl
 rintro _ _ ⟨rfl,a,b,rfl⟩
 rw [slen,List.take_length]
 refine ⟨_,.fz 6 _ rfl .refl,told0 kvs p w,rfl,by rw [told0_len];omega,told0_gcd ok hp hn,?_⟩
 refine ⟨_,.refl,_,atK (by rw [red_len,told0_len];exact hp),ite_b (fun c=>?_) (fun c=>?_)⟩
 · unfold rowFromI at q
   rw [if_pos (of_decide_eq_true c)] at q
   exact q
 · unfold rowFromI at q
   rw [if_neg (of_decide_eq_false c)] at q
   refine ⟨⟨rfl,by rw [List.length_map,red_len,told0_len];omega⟩,cmpW_mapG (f:=PyData.int) (fun x=>.int (-x)) (fun x hx n K hk=>iteT hk) ?_⟩
   rw [List.map_map] at q
   exact q
theorem sc_held:FnScope ["book","rooms","purses","ways","width","settled","rows"] ["book"] (defScope s_held):=⟨rfl,rfl,rfl,by decide +kernel,rfl,by decide +kernel,by decide +kernel⟩
theorem ok_held (T:Txt mg) (D:Def K mg "held" s_held ["book"]) (c_falls_of:Cal P w K mg base "falls_of" 1 ["book","way"] (liftN gsFallsOf)) (c_settled_rows:Cal P w K mg base "settled_rows" 42 ["rows","width"] (liftV gsSettle)) (c_row_from:Cal P w K mg base "row_from" 41 ["settled","place","width"] (liftN gsRowFrom)):Cal P w K mg base "held" 43 ["book"] (liftN gsHeld):=by
 refine D.cal fun f fd F=>F.ok sc_held (lift_lenN ?_) (fun cdv A outer s H vs Q E hr h=>?_)
 · rintro as n P ⟨R,U,ws,rfl,_⟩
   rfl
 refine ⟨_,(@pss_cons _ _ _ _ _ (ps_asg (pv 0) (pg_trio (K':=K) (i:=1) (j:=2) (m:=3) rfl sc_held.nd ⟨rfl,(Or.inl rfl),(Or.inl rfl)⟩ ⟨rfl,(Or.inr rfl),(Or.inl rfl)⟩ ⟨rfl,(Or.inl rfl),(Or.inl rfl)⟩ rfl))
  (@pss_cons _ _ _ _ _ (ps_set (i:=4) sc_held.nd rfl (Or.inr rfl) (pe_op op_add (pv 2) (pv 1)))
  (@pss_cons _ _ _ _ _ (ps_set (i:=5) sc_held.nd rfl (Or.inr rfl) (pe_c c_settled_rows (hr.mono (by decide)) rfl (pa_comp (pe_comp (sc:=(defScope s_held)) (N:=["book","rooms","purses","ways","width","settled","rows"]) (N':=["way","book"]) (k:=1) (idx:=[0]) rfl (by exact ⟨rfl,by decide +kernel,by decide +kernel,by decide +kernel,by decide +kernel,by decide +kernel,rfl,rfl⟩) rfl rfl (pi_tup (pv 3)) (fun _ _ _ _=>(pg_name (i:=0) (show (["way","book"]:List Str).Nodup by decide +kernel) rfl (Or.inl rfl) (Or.inr rfl))) (fun _ _ _ _=>pts_nil) (fun _ _ _ _=>(pe_c c_falls_of (hr.mono (by decide)) rfl (pa_name (pv 1) (pa_name (pv 0) pa_nil))))) (pa_name (pv 4) pa_nil))))
  (@pss_cons _ _ _ _ _ (ps_setcomp (i:=6) (sc:=(defScope s_held)) (N:=["book","rooms","purses","ways","width","settled","rows"]) (N':=["place","settled","width"]) (k:=1) (idx:=[5,4]) rfl sc_held.nd rfl rfl (by exact ⟨rfl,by decide +kernel,by decide +kernel,by decide +kernel,by decide +kernel,by decide +kernel,rfl,rfl⟩) rfl rfl (pi_range1 rfl T.b_range (pa_name (pv 4) pa_nil)) (fun _ _ _ _=>(pg_name (i:=0) (show (["place","settled","width"]:List Str).Nodup by decide +kernel) rfl (Or.inl rfl) (Or.inr rfl))) (fun _ _ _ _=>pts_one (pt_cmp (pc_dnotinF (pc_dnotin (hu_of hr) (pv 0) (pv 1))))) (fun _ _ _ _=>(pe_c c_row_from (hr.mono (by decide)) rfl (pa_name (pv 1) (pa_name (pv 0) (pa_name (pv 2) pa_nil))))))
  (@pss_one _ _ _ (@ps_ret _ _ _ _ (pe_comp (sc:=(defScope s_held)) (N:=["book","rooms","purses","ways","width","settled","rows"]) (N':=["row","purses"]) (k:=1) (idx:=[2]) rfl (by exact ⟨rfl,by decide +kernel,by decide +kernel,by decide +kernel,by decide +kernel,by decide +kernel,rfl,rfl⟩) rfl rfl (pi_list (pv 6)) (fun _ _ _ _=>(pg_name (i:=0) (show (["row","purses"]:List Str).Nodup by decide +kernel) rfl (Or.inl rfl) (Or.inr rfl))) (fun _ _ _ _=>pts_nil) (fun _ _ _ _=>(@PEs.out _ _ _ (pes_tup (pas_call (pes_of (pe_callTy (call_tuple_ofK (K':=K) rfl) rfl T.b_tuple boot_tuple (pa_sub (pe_slice (sl_listK (K':=K) rfl) (pv 0) po_none (po_some (pv 1))) pa_nil))) (pas_call (pes_of (pe_callTy (call_tuple_ofK (K':=K) rfl) rfl T.b_tuple boot_tuple (pa_sub (pe_slice (sl_listK (K':=K) rfl) (pv 0) (po_some (pv 1)) po_none) pa_nil))) pas_nil)))))))))))),lift_bodyN h ?_⟩
 rintro as n P ⟨R,U,ws,rfl,hB,q⟩
 have hs:sizeLine=16777216:=sizeLine_eq
 have r0:=hB.r0
 have r1:=hB.r1
 have p0:=hB.p0
 have p1:=hB.p1
 have wl:=hB.len
 have eW:U+R=((widthI R U:Nat):Int):=by unfold widthI;omega
 have ok:=set_ok hB
 have hw:widthI R U≤18:=by unfold widthI;omega
 refine ⟨rfl,rfl,rfl,⟨_,.refl,⟨_,.refl,⟨rfl,by rw [List.length_map];omega⟩,?_⟩⟩⟩
 refine cmpW_mapG (f:=wayPD) (fun w=>ringL (fallsI R w)) (fun w hw n K hk=>iteT ⟨R,U,ws,w,rfl,hB,hB.ways w hw,hk⟩) ?_
 refine ⟨ws.map (fallsI R),widthI R U,by rw [List.map_map,eW];rfl,hw,fun r hr=>?_,by rw [List.length_map];omega,fun ep=>?_⟩
 · obtain ⟨w,hw,rfl⟩:=List.mem_map.mp hr
   exact ⟨falls_len r0 (hB.ways w hw) (by omega),falls_bd (hB.ways w hw)⟩
 have e1:settleI (widthI R U) (ws.map (fallsI R))=setI R U ws:=rfl
 rw [e1]
 refine ⟨_,.refl,U+R,rfl,⟨by omega,by omega⟩,⟨rfl,by rw [rngD_len];omega⟩,?_⟩
 have e2:rngD 0 (U+R).toNat=(List.range (widthI R U)).map fun p:Nat=>PyData.int (0+((p:Nat):Int)):=rfl
 rw [e2]
 refine cmpW_fm (h:=fun p=>ringL (rowFromI (setI R U ws) p (widthI R U))) (p:=fun p=>decide (p∉(setI R U ws).map (·.1))) (fun p hp K h1 h2=>?_) ?_
 · have hp:p<widthI R U:=List.mem_range.mp hp
   refine ⟨ep,srK (setI R U ws),_,rfl,rfl,?_⟩
   rw [if_pos rfl,sr_val (Int.zero_add _)]
   by_cases c:p∈(setI R U ws).map (·.1)
   · rw [decide_eq_true c]
     exact iteF (h2 (decide_eq_false fun z=>z c))
   · rw [decide_eq_false c]
     refine iteT ⟨ep,setI R U ws,p,widthI R U,?_,ok,hw,hp,c,h1 (decide_eq_true c)⟩
     show [_,Vl.d (.int (0+((p:Nat):Int))),Vl.d (.int (U+R))]=_
     rw [Int.zero_add,eW]
 refine ⟨_,.refl,⟨rfl,?_⟩,?_⟩
 · have:=held_len hB
   unfold heldI freeI at this
   rw [List.length_map] at this ⊢
   omega
 have e3:((List.range (widthI R U)).filter fun p=>decide (p∉(setI R U ws).map (·.1))).map (fun p=>ringL (rowFromI (setI R U ws) p (widthI R U)))=(freeI (setI R U ws) (widthI R U)).map fun p=>ringL (rowFromI (setI R U ws) p (widthI R U)):=rfl
 rw [e3]
 have eU:U=((U.toNat:Nat):Int):=by omega
 refine cmpW_mapG (f:=fun p=>ringL (rowFromI (setI R U ws) p (widthI R U))) (fun p=>smPD ((rowFromI (setI R U ws) p (widthI R U)).take U.toNat) ((rowFromI (setI R U ws) p (widthI R U)).drop U.toNat)) (fun p hp n K hk=>iteT ?_) ?_
 · show _∧K (some (.tuple [.tuple (cutD ((rowFromI (setI R U ws) p (widthI R U)).map .int) none (some U)),.tuple (cutD ((rowFromI (setI R U ws) p (widthI R U)).map .int) (some U) none)])) n
   refine ⟨two_line,?_⟩
   rw [eU,cutD_take,cutD_drop,← List.map_take,← List.map_drop,← eU]
   exact hk
 · unfold heldI at q
   rw [List.map_map] at q
   exact q
theorem sc_law_whole:FnScope ["_law_thing"] ["_law_thing"] (defScope s_law_whole):=⟨rfl,rfl,rfl,by decide +kernel,rfl,by decide +kernel,by decide +kernel⟩
theorem ok_law_whole (T:Txt mg) (D:Def K mg "_law_whole" s_law_whole ["_law_thing"]):Cal P w K mg base "_law_whole" 1 ["_law_thing"] (liftV gsWhole):=by
 refine D.cal fun f fd F=>F.ok sc_law_whole (lift_len ?_) (fun cdv A outer s H vs Q E hr h=>?_)
 · rintro as n P ⟨x,rfl,_⟩
   rfl
 refine ⟨_,(@pss_one _ _ _ (@ps_ret _ _ _ _ (pe_and (pe_callB call_isD rfl T.b_isinstance boot_isinstance (pa_name (pv 0) (pa_name (pe_bltn rfl T.b_int boot_int (v:=.ty "int") rfl) pa_nil))) (pe_one (pe_not (pe_callB call_isD rfl T.b_isinstance boot_isinstance (pa_name (pv 0) (pa_name (pe_bltn rfl T.b_bool boot_bool (v:=.ty "bool") rfl) pa_nil)))))))),lift_body h ?_⟩
 rintro as n P ⟨x,rfl,q⟩
 exact ⟨rfl,rfl,rfl,q⟩
theorem sc_law_are_whole:FnScope ["_law_thing","_law_many"] ["_law_thing","_law_many"] (defScope s_law_are_whole):=⟨rfl,rfl,rfl,by decide +kernel,rfl,by decide +kernel,by decide +kernel⟩
theorem ok_law_are_whole (T:Txt mg) (D:Def K mg "_law_are_whole" s_law_are_whole ["_law_thing","_law_many"]) (c__law_whole:Cal P w K mg base "_law_whole" 1 ["_law_thing"] (liftV gsWhole)):Cal P w K mg base "_law_are_whole" 2 ["_law_thing","_law_many"] (liftV gsLAreH):=by
 refine D.cal fun f fd F=>F.ok sc_law_are_whole (lift_len ?_) (fun cdv A outer s H vs Q E hr h=>?_)
 · rintro as n P ⟨xs,rfl,_⟩
   rfl
 refine ⟨_,(@pss_cons _ _ _ _ _ (ps_if (PW.pt (pw_or (pt_not (pt_val (pe_callB call_isD rfl T.b_isinstance boot_isinstance (pa_name (pv 0) (pa_name (pe_bltn rfl T.b_tuple boot_tuple (v:=.ty "tuple") rfl) pa_nil))))) (pw_or1 (pt_cmpR op_ne (pe_callB call_len_seq rfl T.b_len PySem.boot_len (pa_name (pv 0) pa_nil)) (pv 1) (nomark _))))) (@pss_one _ _ _ (@ps_ret _ _ _ _ pe_bl)) pss_nil)
  (@pss_one _ _ _ (@ps_ret _ _ _ _ (pe_callB call_all rfl T.b_all boot_all (pa_comp (pe_comp (sc:=(defScope s_law_are_whole)) (N:=["_law_thing","_law_many"]) (N':=["_law_number"]) (k:=1) (idx:=[]) rfl (by exact ⟨rfl,by decide +kernel,by decide +kernel,by decide +kernel,by decide +kernel,by decide +kernel,rfl,rfl⟩) rfl rfl (pi_tup (pv 0)) (fun _ _ _ _=>(pg_name (i:=0) (show (["_law_number"]:List Str).Nodup by decide +kernel) rfl (Or.inl rfl) (Or.inr rfl))) (fun _ _ _ _=>pts_nil) (fun _ _ _ _=>(pe_c c__law_whole (hr.mono (by decide)) rfl (pa_name (pv 0) pa_nil)))) pa_nil))))),lift_body h ?_⟩
 rintro as n P ⟨xs,rfl,hl,q⟩
 have hs:sizeLine=16777216:=sizeLine_eq
 refine ⟨rfl,rfl,iteF ?_⟩
 show fEq true (.int ((xs.map PyData.int).length:Int)) (.int (xs.length:Int)) _
 refine fNe_i ?_
 rw [List.length_map,decide_eq_true rfl]
 refine iteF ⟨_,.refl,⟨rfl,by rw [List.length_map];omega⟩,?_⟩
 refine cmpW_mapG (f:=PyData.int) (fun x=>.bool true) (fun x hx n K hK=>iteT ⟨x,rfl,hK⟩) ?_
 refine ⟨List.replicate xs.length true,by rw [List.map_replicate];rw [List.map_const'],rfl,?_⟩
 have all1:(List.replicate xs.length true).all id=true:=List.all_eq_true.mpr fun b hb=>by rw [(List.mem_replicate.mp hb).2];rfl
 rw [all1]
 exact q
theorem sc_law_fall:FnScope ["_law_book_here","_law_total","_law_k","_law_a","_law_b","_law_gains_here","_law_found","_law_p"] ["_law_book_here","_law_total","_law_k"] (defScope s_law_fall):=⟨rfl,rfl,rfl,by decide +kernel,rfl,by decide +kernel,by decide +kernel⟩
theorem ok_law_fallS (T:Txt mg) (D:Def K mg "_law_fall" s_law_fall ["_law_book_here","_law_total","_law_k"]):Cal P w K mg base "_law_fall" 1 ["_law_book_here","_law_total","_law_k"] (liftV gsFallS):=by
 refine D.cal fun f fd F=>F.ok sc_law_fall (lift_len ?_) (fun cdv A outer s H vs Q E hr h=>?_)
 · rintro as n P ⟨R,U,ws,wt,ht,k,rfl,_⟩
   rfl
 refine ⟨_,(@pss_cons _ _ _ _ _ (ps_asg (pe_ix ix_tup (pe_ix ix_tup (pv 0) pe_int (fun _ _=>rfl)) (pv 2) (fun _ _=>rfl)) (pg_trio (K':=K) (i:=3) (j:=4) (m:=5) rfl sc_law_fall.nd ⟨rfl,(Or.inl rfl),(Or.inl rfl)⟩ ⟨rfl,(Or.inl rfl),(Or.inl rfl)⟩ ⟨rfl,(Or.inl rfl),(Or.inl rfl)⟩ rfl))
  (@pss_cons _ _ _ _ _ (ps_set (i:=6) sc_law_fall.nd rfl (Or.inl rfl) (pe_op op_sub (pe_ix ix_tup (pe_ix ix_tup (pv 1) pe_int (fun _ _=>rfl)) (pv 3) (fun _ _=>rfl)) (pe_ix ix_tup (pe_ix ix_tup (pv 1) pe_int (fun _ _=>rfl)) (pv 4) (fun _ _=>rfl))))
  (@pss_cons _ _ _ _ _ (ps_for PassesOwn.never rfl (pi_range1 rfl T.b_range (pa_sub (pe_ix ix_tup (pv 0) pe_int (fun _ _=>rfl)) pa_nil)) (pg_name (i:=7) sc_law_fall.nd rfl (Or.inl rfl) (Or.inl rfl))
  (@pss_one _ _ _ (ps_set (i:=6) sc_law_fall.nd rfl (Or.inl rfl) (pe_op op_sub (pv 6) (pe_op op_mul (pe_ix ix_tup (pe_ix ix_tup (pv 1) pe_int (fun _ _=>rfl)) (pv 7) (fun _ _=>rfl)) (pe_ix ix_tup (pv 5) (pv 7) (fun _ _=>rfl)))))))
  (@pss_one _ _ _ (@ps_ret _ _ _ _ (pv 6)))))),lift_body h ?_⟩
 rintro as n P ⟨R,U,ws,wt,ht,k,rfl,ok,sb,hk,q⟩
 have hs:sizeLine=16777216:=sizeLine_eq
 have p0:=ok.p0
 have wl:=ok.len
 have lw:=sb.lw
 have lh:=sb.lh
 have wok:=ok.ways _ (wayAt_mem' (k:=(k:Int)) (Int.natCast_nonneg k) (by omega))
 have a0:=wok.a0
 have a1:=wok.a1
 have b0:=wok.b0
 have b1:=wok.b1
 have gl:=wok.len
 have hat:∀ {x:Int},0≤x→x<R→atI (ht.map PyData.int) x=some (.int (ht.getD x.toNat 0)):=fun {x} x0 x1=>at_getD x0 (int_get (by omega))
 refine ⟨rfl,_,rfl,_,at_way (Int.natCast_nonneg k) (by omega),rfl,rfl,⟨_,.refl,_,rfl,_,hat a0 a1,_,rfl,_,hat b0 b1,⟨_,.refl,?_⟩⟩⟩
 refine ⟨_,rfl,U,rfl,⟨by omega,by have:=ok.p1;omega⟩,?_⟩
 refine ⟨fun i env j=>j=n∧∃ x:Vl,env=[.d (bookPD R U ws),.d (smPD wt ht),.d (natD k),.d (.int (wayAt ws (k:Int)).a),.d (.int (wayAt ws (k:Int)).b),.d (.tuple ((wayAt ws (k:Int)).g.map .int)),.d (.int (ht.getD (wayAt ws (k:Int)).a.toNat 0-ht.getD (wayAt ws (k:Int)).b.toNat 0-dotI wt (wayAt ws (k:Int)).g i)),x],⟨rfl,.jnk,?_⟩,?_,?_⟩
 · show [_,_,_,_,_,_,Vl.d (.int _),_]=[_,_,_,_,_,_,Vl.d (.int (_-(0:Int))),_]
   rw [Int.sub_zero]
 · rintro i x env j hx ⟨rfl,x',rfl⟩
   obtain ⟨hi,rfl⟩:=rng_get hx
   have iw:i<wt.length:=by omega
   have ig:i<(wayAt ws (k:Int)).g.length:=by omega
   refine ⟨_,rfl,_,atK iw,_,atK ig,.inr ?_,rfl,.d (.int i),?_⟩
   · have:=wok.small _ (List.getElem_mem ig)
     rw [List.getD_eq_getElem?_getD,List.getElem?_eq_getElem ig]
     show -(2^64)<(wayAt ws (k:Int)).g[i]∧(wayAt ws (k:Int)).g[i]<2^64
     constructor<;>omega
   · rw [dotI_succ,← Int.sub_sub]
     rfl
 · rintro env j ⟨rfl,x,rfl⟩
   rw [rngD_len]
   unfold fallI at q
   rw [show wt.length=U.toNat by omega] at q
   exact ⟨_,.refl,q⟩
theorem sc_law_common:FnScope ["_law_row","_law_found","_law_number","_law_one"] ["_law_row"] (defScope s_law_common):=⟨rfl,rfl,rfl,by decide +kernel,rfl,by decide +kernel,by decide +kernel⟩
theorem ok_law_commonLT (T:Txt mg) (D:Def K mg "_law_common" s_law_common ["_law_row"]):Cal P w K mg base "_law_common" 1 ["_law_row"] (liftV gsCommonLT):=by
 refine D.cal fun f fd F=>F.ok sc_law_common (lift_len ?_) (fun cdv A outer s H vs Q E hr h=>?_)
 · rintro as n P ⟨ns,dd,rfl,_⟩
   rfl
 refine ⟨_,(@pss_cons _ _ _ _ _ (ps_set (i:=1) sc_law_common.nd rfl (Or.inl rfl) pe_int)
  (@pss_cons _ _ _ _ _ (ps_for PassesOwn.never rfl (pi_LT (K':=K) rfl (pv 0)) (pg_name (i:=2) sc_law_common.nd rfl (Or.inl rfl) (Or.inl rfl))
  (@pss_cons _ _ _ _ _ (ps_set (i:=3) sc_law_common.nd rfl (Or.inl rfl) (pe_callB call_abs rfl T.b_abs boot_abs (pa_name (pv 2) pa_nil)))
  (@pss_one _ _ _ (ps_while PassesOwn.never (pt_cmpR op_gt (pv 3) pe_int (nomark _))
  (@pss_one _ _ _ (ps_par (i:=1) (j:=3) rfl sc_law_common.nd rfl rfl (by decide) rfl rfl (pa_name (pv 3) (pa_binop (pe_op op_mod (pv 1) (pv 3)) pa_nil)) rfl))))))
  (@pss_one _ _ _ (@ps_ret _ _ _ _ (pv 1))))),lift_body h ?_⟩
 rintro as n P ⟨ns,dd,rfl,hdd,q⟩
 refine ⟨rfl,_,.refl,?_⟩
 rcases hdd with rfl | rfl
 · refine .inl ?_
   refine ⟨fun i env n'=>n'=n∧∃ x y:Vl,env=[Vl.d (.list (ns.map .int)),.d (.int ((gcdL (ns.take i):Nat):Int)),x,y],⟨rfl,_,_,rfl⟩,?_,?_⟩
   · rintro i x env n' hx ⟨rfl,_,_,rfl⟩
     rw [List.getElem?_map] at hx
     obtain ⟨k,hk,rfl⟩:=Option.map_eq_some_iff.mp hx
     refine ⟨_,.refl,?_⟩
     refine ⟨fun m env j=>j=n'∧∃ g:Nat,env=[Vl.d (.list (ns.map .int)),.d (.int ((g:Nat):Int)),.d (.int k),.d (.int ((m:Nat):Int))]∧Nat.gcd g m=gcdL (ns.take (i+1)),⟨k.natAbs,rfl,gcdL (ns.take i),?_,(gcd_take hk).symm⟩,?_⟩
     · show [Vl.d (.list (ns.map .int)),_,_,Vl.d (.int (if k<0 then -k else k))]=_
       rw [show (if k<0 then -k else k)=(k.natAbs:Int) by split<;>omega]
     · rintro m _ _ ⟨rfl,g,rfl,hg⟩
       refine ite_b (fun c=>?_) (fun c=>?_)
       · have hm:0<m:=by have:=of_decide_eq_true c;omega
         refine ⟨by omega,_,_,rfl,g%m,Nat.mod_lt _ hm,rfl,m,?_,?_⟩
         · rfl
         · rw [← hg,Nat.gcd_comm m,← Nat.gcd_rec,Nat.gcd_comm]
       · have hm:m=0:=by have:=of_decide_eq_false c;omega
         subst hm
         rw [Nat.gcd_zero_right] at hg
         exact ⟨rfl,_,_,by rw [hg]⟩
   · rintro env n' ⟨rfl,_,_,rfl⟩
     rw [List.length_map,List.take_length]
     exact ⟨_,.refl,q⟩
 · refine .inr ?_
   refine ⟨fun i env n'=>n'=n∧∃ x y:Vl,env=[Vl.d (.tuple (ns.map .int)),.d (.int ((gcdL (ns.take i):Nat):Int)),x,y],⟨rfl,_,_,rfl⟩,?_,?_⟩
   · rintro i x env n' hx ⟨rfl,_,_,rfl⟩
     rw [List.getElem?_map] at hx
     obtain ⟨k,hk,rfl⟩:=Option.map_eq_some_iff.mp hx
     refine ⟨_,.refl,?_⟩
     refine ⟨fun m env j=>j=n'∧∃ g:Nat,env=[Vl.d (.tuple (ns.map .int)),.d (.int ((g:Nat):Int)),.d (.int k),.d (.int ((m:Nat):Int))]∧Nat.gcd g m=gcdL (ns.take (i+1)),⟨k.natAbs,rfl,gcdL (ns.take i),?_,(gcd_take hk).symm⟩,?_⟩
     · show [Vl.d (.tuple (ns.map .int)),_,_,Vl.d (.int (if k<0 then -k else k))]=_
       rw [show (if k<0 then -k else k)=(k.natAbs:Int) by split<;>omega]
     · rintro m _ _ ⟨rfl,g,rfl,hg⟩
       refine ite_b (fun c=>?_) (fun c=>?_)
       · have hm:0<m:=by have:=of_decide_eq_true c;omega
         refine ⟨by omega,_,_,rfl,g%m,Nat.mod_lt _ hm,rfl,m,?_,?_⟩
         · rfl
         · rw [← hg,Nat.gcd_comm m,← Nat.gcd_rec,Nat.gcd_comm]
       · have hm:m=0:=by have:=of_decide_eq_false c;omega
         subst hm
         rw [Nat.gcd_zero_right] at hg
         exact ⟨rfl,_,_,by rw [hg]⟩
   · rintro env n' ⟨rfl,_,_,rfl⟩
     rw [List.length_map,List.take_length]
     exact ⟨_,.refl,q⟩
theorem sc_law_lessened:FnScope ["_law_row","_law_divisor"] ["_law_row"] (defScope s_law_lessened):=⟨rfl,rfl,rfl,by decide +kernel,rfl,by decide +kernel,by decide +kernel⟩
theorem ok_law_lessened (T:Txt mg) (S:base.NoSeer) (tP:P.given.tree=none) (D:Def K mg "_law_lessened" s_law_lessened ["_law_row"]) (c__law_common:Cal P w K mg base "_law_common" 1 ["_law_row"] (liftV gsCommonLT)):Cal P w K mg base "_law_lessened" 40 ["_law_row"] (liftV gsLessH):=by
 refine D.cal fun f fd F=>F.ok sc_law_lessened (lift_len ?_) (fun cdv A outer s H vs Q E hr h=>?_)
 · rintro as n P ⟨ns,rfl,_⟩
   rfl
 have hy:PyRoom (cxOf CX0 P w K mg base ["_law_row","_law_divisor"] "_law_lessened" (defScope s_law_lessened) f cdv A outer s H E):=py_of S tP hr (by decide) rfl rfl
 refine ⟨_,(@pss_cons _ _ _ _ _ (ps_set (i:=1) sc_law_lessened.nd rfl (Or.inr rfl) (pe_callB (call_max2 rfl) rfl T.b_max boot_max (pa_const pe_int (pa_call (pe_c c__law_common (hr.mono (by decide)) rfl (pa_name (pv 0) pa_nil)) pa_nil))))
  (@pss_one _ _ _ (@ps_ret _ _ _ _ (pe_comp (sc:=(defScope s_law_lessened)) (N:=["_law_row","_law_divisor"]) (N':=["_law_number","_law_divisor"]) (k:=1) (idx:=[1]) rfl (by exact ⟨rfl,by decide +kernel,by decide +kernel,by decide +kernel,by decide +kernel,by decide +kernel,rfl,rfl⟩) rfl rfl (pi_list (pv 0)) (fun _ _ _ _=>(pg_name (i:=0) (show (["_law_number","_law_divisor"]:List Str).Nodup by decide +kernel) rfl (Or.inl rfl) (Or.inr rfl))) (fun _ _ _ _=>pts_nil) (fun _ _ _ _=>(pe_op (op_fdivL hy.comp) (pv 0) (pv 1))))))),lift_body h ?_⟩
 rintro as n P ⟨ns,rfl,hl,q⟩
 have hs:sizeLine=16777216:=sizeLine_eq
 refine ⟨rfl,ns,_,rfl,.inl rfl,_,.refl,⟨rfl,by rw [List.length_map];omega⟩,?_⟩
 have em:(if ((gcdL ns:Nat):Int)>1 then ((gcdL ns:Nat):Int) else 1)=max 1 ((gcdL ns:Nat):Int):=by split<;>omega
 refine cmpW_mapG (f:=PyData.int) (fun x=>.int (x.fdiv (max 1 ((gcdL ns:Nat):Int)))) (fun x hx n K hk=>iteT ⟨by show (if ((gcdL ns:Nat):Int)>1 then ((gcdL ns:Nat):Int) else 1)≠0;rw [em];omega,?_⟩) ?_
 · rw [← em] at hk
   exact hk
 · unfold lesI ringL at q
   rw [List.map_map] at q
   exact q
theorem sc_law_rows_of:FnScope ["_law_book_here","_law_found","_law_a","_law_b","_law_gains_here","_law_row"] ["_law_book_here"] (defScope s_law_rows_of):=⟨rfl,rfl,rfl,by decide +kernel,rfl,by decide +kernel,by decide +kernel⟩
theorem ok_law_rows_of (T:Txt mg) (D:Def K mg "_law_rows_of" s_law_rows_of ["_law_book_here"]):Cal P w K mg base "_law_rows_of" 1 ["_law_book_here"] (liftV gsRowsOf):=by
 refine D.cal fun f fd F=>F.ok sc_law_rows_of (lift_len ?_) (fun cdv A outer s H vs Q E hr h=>?_)
 · rintro as n P ⟨R,U,ws,rfl,_⟩
   rfl
 refine ⟨_,(@pss_cons _ _ _ _ _ (@ps_setD _ _ 1 _ _ _ _ sc_law_rows_of.nd rfl (Or.inl rfl) (pes_lst pas_nil) rfl (Or.inl rfl))
  (@pss_cons _ _ _ _ _ (ps_for PassesOwn.never rfl (pi_tup (pe_ix ix_tup (pv 0) pe_int (fun _ _=>rfl))) (pg_trio (K':=K) (i:=2) (j:=3) (m:=4) rfl sc_law_rows_of.nd ⟨rfl,(Or.inl rfl),(Or.inl rfl)⟩ ⟨rfl,(Or.inl rfl),(Or.inl rfl)⟩ ⟨rfl,(Or.inl rfl),(Or.inl rfl)⟩ rfl)
  (@pss_cons _ _ _ _ _ (ps_set (i:=5) sc_law_rows_of.nd rfl (Or.inl rfl) (pe_op op_cat (pe_comp (sc:=(defScope s_law_rows_of)) (N:=["_law_book_here","_law_found","_law_a","_law_b","_law_gains_here","_law_row"]) (N':=["_law_number"]) (k:=1) (idx:=[]) rfl (by exact ⟨rfl,by decide +kernel,by decide +kernel,by decide +kernel,by decide +kernel,by decide +kernel,rfl,rfl⟩) rfl rfl (pi_tup (pv 4)) (fun _ _ _ _=>(pg_name (i:=0) (show (["_law_number"]:List Str).Nodup by decide +kernel) rfl (Or.inl rfl) (Or.inr rfl))) (fun _ _ _ _=>pts_nil) (fun _ _ _ _=>(pe_un un_neg (pv 0)))) (pe_op op_rep (@PEs.out _ _ _ (pes_lst (pas_const pes_int pas_nil))) (pe_ix ix_tup (pv 0) pe_int (fun _ _=>rfl)))))
  (@pss_cons _ _ _ _ _ (ps_asg (pe_op op_add (pe_ix ix_list (pv 5) (pe_op op_add (pe_ix ix_tup (pv 0) pe_int (fun _ _=>rfl)) (pv 2)) (fun _ _=>rfl)) pe_int) (pg_sub (pv 5) (pe_op op_add (pe_ix ix_tup (pv 0) pe_int (fun _ _=>rfl)) (pv 2)) set_list ))
  (@pss_cons _ _ _ _ _ (ps_asg (pe_op op_sub (pe_ix ix_list (pv 5) (pe_op op_add (pe_ix ix_tup (pv 0) pe_int (fun _ _=>rfl)) (pv 3)) (fun _ _=>rfl)) pe_int) (pg_sub (pv 5) (pe_op op_add (pe_ix ix_tup (pv 0) pe_int (fun _ _=>rfl)) (pv 3)) set_list ))
  (@pss_one _ _ _ (ps_expr (pe_bm PySem.F.plainAttrs_list PySem.F.slot_list_append PySem.F.type_list_append mt_append (pv 1) (pa_name (pv 5) pa_nil))))))))
  (@pss_one _ _ _ (@ps_ret _ _ _ _ (pv 1))))),lift_body h ?_⟩
 rintro as n P ⟨R,U,ws,rfl,ok,q⟩
 have hs:sizeLine=16777216:=sizeLine_eq
 have r0:=ok.r0
 have r1:=ok.r1
 have p0:=ok.p0
 have p1:=ok.p1
 have wl:=ok.len
 refine ⟨rfl,Nat.zero_le _,_,.refl,_,rfl,?_⟩
 refine ⟨fun i env k=>k=n∧∃ a b c d:Vl,env=[.d (bookPD R U ws),.own (((ws.take i).map (fallsI R)).map ringL),a,b,c,d],⟨rfl,_,_,_,_,rfl⟩,?_,?_⟩
 · rintro i x env k hx ⟨rfl,a,b,c,d,rfl⟩
   rw [List.getElem?_map] at hx
   obtain ⟨w,hw,rfl⟩:=Option.map_eq_some_iff.mp hx
   have wok:=ok.ways w (List.mem_of_getElem? hw)
   have a0:=wok.a0
   have a1:=wok.a1
   have b0:=wok.b0
   have b1:=wok.b1
   have gl:=wok.len
   refine ⟨rfl,rfl,⟨rfl,by rw [List.length_map];omega⟩,?_⟩
   refine cmpW_mapG (f:=PyData.int) (fun x=>.int (-x)) (fun x _ m K hK=>iteT hK) ?_
   refine ⟨small4 (Nat.le_of_ble_eq_true rfl),_,rfl,⟨by omega,by omega,by rw [List.length_singleton];omega⟩,?_⟩
   have e1:w.g.map (fun x=>PyData.int (-x))++(List.replicate R.toNat [PyData.int 0]).flatten=(rowHL R w).map .int:=by
    unfold rowHL
    rw [List.map_append,List.map_map,rep_flat,List.map_replicate]
    rfl
   have hl:(rowHL R w).length=U.toNat+R.toNat:=by unfold rowHL;rw [List.length_append,List.length_map,List.length_replicate];omega
   refine ⟨by rw [List.length_map,rep_flat,List.length_replicate];omega,[.d (bookPD R U ws),.own (((ws.take i).map (fallsI R)).map ringL),.d (.int w.a),.d (.int w.b),.d (.tuple (w.g.map .int)),.own ((rowHL R w).map .int)],.eq (by rw [← e1];rfl),_,rfl,_,at_ls (by omega) (by omega),_,rfl,_,ixN_in (by omega) (by rw [List.length_map];omega),?_⟩
   rw [← List.map_set]
   have hf:=rowHL_falls (w:=w) r0 (by omega) wok
   generalize hr1:(rowHL R w).set (U+w.a).toNat ((rowHL R w).getD (U+w.a).toNat 0+1)=r1 at hf
   have hl1:r1.length=U.toNat+R.toNat:=by rw [← hr1,List.length_set];exact hl
   refine ⟨[.d (bookPD R U ws),.own (((ws.take i).map (fallsI R)).map ringL),.d (.int w.a),.d (.int w.b),.d (.tuple (w.g.map .int)),.own (r1.map .int)],.eq (by rw [← hr1];rfl),_,rfl,_,at_ls (by omega) (by omega),_,rfl,_,ixN_in (by omega) (by rw [List.length_map];omega),?_⟩
   rw [← List.map_set]
   refine ⟨_,.fz 5 _ rfl .refl,by rw [List.length_map,List.length_map,List.length_take];omega,rfl,.d (.int w.a),.d (.int w.b),.d (.tuple (w.g.map .int)),.d (ringL (fallsI R w)),?_⟩
   · show [_,Vl.own (_++[PyData.list ((r1.set (U+w.b).toNat (r1.getD (U+w.b).toNat 0-1)).map .int)]),_,_,_,Vl.d (PyData.list ((r1.set (U+w.b).toNat (r1.getD (U+w.b).toNat 0-1)).map .int))]=_
     rw [hf,List.take_add_one,hw,List.map_append,List.map_append]
     rfl
 · rintro env k ⟨rfl,a,b,c,d,rfl⟩
   rw [List.length_map,List.take_length]
   exact ⟨_,.refl,q⟩
theorem sc_law_apart:FnScope ["_law_rows","_law_left","_law_many","_law_place","_law_some","_law_first"] ["_law_rows"] (defScope s_law_apart):=⟨rfl,rfl,rfl,by decide +kernel,rfl,by decide +kernel,by decide +kernel⟩
theorem ok_law_apart (T:Txt mg) (D:Def K mg "_law_apart" s_law_apart ["_law_rows"]) (c__law_lessened:Cal P w K mg base "_law_lessened" 40 ["_law_row"] (liftV gsLessH)):Cal P w K mg base "_law_apart" 41 ["_law_rows"] (liftV gsApart):=by
 refine D.cal fun f fd F=>F.ok sc_law_apart (lift_len ?_) (fun cdv A outer s H vs Q E hr h=>?_)
 · rintro as n P ⟨w,rows,rfl,_⟩
   rfl
 refine ⟨_,(@pss_cons _ _ _ _ _ (ps_setcomp (i:=1) (sc:=(defScope s_law_apart)) (N:=["_law_rows","_law_left","_law_many","_law_place","_law_some","_law_first"]) (N':=["_law_row"]) (k:=1) (idx:=[]) rfl sc_law_apart.nd rfl rfl (by exact ⟨rfl,by decide +kernel,by decide +kernel,by decide +kernel,by decide +kernel,by decide +kernel,rfl,rfl⟩) rfl rfl (pi_list (pv 0)) (fun _ _ _ _=>(pg_name (i:=0) (show (["_law_row"]:List Str).Nodup by decide +kernel) rfl (Or.inl rfl) (Or.inr rfl))) (fun _ _ _ _=>pts_nil) (fun _ _ _ _=>(pe_callTy (call_list_ofK (K':=K) rfl) rfl T.b_list boot_list (pa_name (pv 0) pa_nil))))
  (@pss_cons _ _ _ _ _ (ps_set (i:=2) sc_law_apart.nd rfl (Or.inl rfl) pe_int)
  (@pss_cons _ _ _ _ _ (ps_for PassesOwn.never rfl (pi_range1 rfl T.b_range (pa_if (pe_ifExp (pt_cmpR (op_neD hr.units) (pv 1) (@PEs.out _ _ _ (pes_lst pas_nil)) (nomark _)) (pe_callB call_len_seq rfl T.b_len PySem.boot_len (pa_sub (pe_ix ix_list (pv 1) pe_int (fun _ _=>rfl)) pa_nil)) pe_int) pa_nil)) (pg_name (i:=3) sc_law_apart.nd rfl (Or.inr rfl) (Or.inl rfl))
  (@pss_cons _ _ _ _ _ (ps_setcomp (i:=4) (sc:=(defScope s_law_apart)) (N:=["_law_rows","_law_left","_law_many","_law_place","_law_some","_law_first"]) (N':=["_law_row","_law_place"]) (k:=1) (idx:=[3]) rfl sc_law_apart.nd rfl rfl (by exact ⟨rfl,by decide +kernel,by decide +kernel,by decide +kernel,by decide +kernel,by decide +kernel,rfl,rfl⟩) rfl rfl (pi_list (pv 1)) (fun _ _ _ _=>(pg_name (i:=0) (show (["_law_row","_law_place"]:List Str).Nodup by decide +kernel) rfl (Or.inl rfl) (Or.inr rfl))) (fun _ _ _ _=>pts_one (pt_cmpR op_ne (pe_ix (ix_listK (K':=K) rfl) (pv 0) (pv 1) (fun _ _=>rfl)) pe_int (nomark _))) (fun _ _ _ _=>(pv 0)))
  (@pss_one _ _ _ (ps_if (pt_cmpR (op_neD hr.units) (pv 4) (@PEs.out _ _ _ (pes_lst pas_nil)) (nomark _)) (@pss_cons _ _ _ _ _ (ps_set (i:=5) sc_law_apart.nd rfl (Or.inr rfl) (pe_ix ix_list (pv 4) pe_int (fun _ _=>rfl)))
  (@pss_cons _ _ _ _ _ (ps_expr (pe_bm PySem.F.plainAttrs_list PySem.F.slot_list_remove PySem.F.type_list_remove (mt_removeD hr.units) (pv 1) (pa_name (pv 5) pa_nil)))
  (@pss_cons _ _ _ _ _ (ps_set (i:=2) sc_law_apart.nd rfl (Or.inl rfl) (pe_op op_add (pv 2) pe_int))
  (@pss_one _ _ _ (ps_setcompC (i:=1) (sc:=(defScope s_law_apart)) (N:=["_law_rows","_law_left","_law_many","_law_place","_law_some","_law_first"]) (N':=["_law_row","_law_first","_law_place"]) (k:=1) (idx:=[5,3]) rfl sc_law_apart.nd rfl rfl (by exact ⟨rfl,by decide +kernel,by decide +kernel,by decide +kernel,by decide +kernel,by decide +kernel,rfl,rfl⟩) rfl rfl (pi_list (pv 1)) (fun _ _ _ _=>(pg_name (i:=0) (show (["_law_row","_law_first","_law_place"]:List Str).Nodup by decide +kernel) rfl (Or.inr rfl) (Or.inl rfl))) (fun _ _ _ _=>pts_nil) (fun _ _ _ _=>(pe_c c__law_lessened (hr.mono (by decide)) rfl (pa_comp (pe_comp (sc:=relS _ (defScope s_law_apart)) (N:=["_law_row","_law_first","_law_place"]) (N':=["_law_at","_law_row","_law_first","_law_place"]) (k:=1) (idx:=[0,1,2]) rfl (by exact ⟨rfl,by decide +kernel,by decide +kernel,by decide +kernel,by decide +kernel,by decide +kernel,rfl,rfl⟩) (hscC rfl) rfl (by exact (pi_range1 rfl T.b_range (pa_call (pe_callB (call_len_seqK (K':=K) rfl) rfl T.b_len PySem.boot_len (pa_name (pv 0) pa_nil)) pa_nil))) (fun _ _ _ _=>(pg_name (i:=0) (show (["_law_at","_law_row","_law_first","_law_place"]:List Str).Nodup by decide +kernel) rfl (Or.inl rfl) (Or.inr rfl))) (fun _ _ _ _=>pts_nil) (fun _ _ _ _=>(pe_op op_sub (pe_op op_mulB (pe_ix (ix_listK (K':=K) rfl) (pv 1) (pv 0) (fun _ _=>rfl)) (pe_ix (ix_listK (K':=K) rfl) (pv 2) (pv 3) (fun _ _=>rfl))) (pe_op op_mulB (pe_ix (ix_listK (K':=K) rfl) (pv 2) (pv 0) (fun _ _=>rfl)) (pe_ix (ix_listK (K':=K) rfl) (pv 1) (pv 3) (fun _ _=>rfl)))))) pa_nil)))))))) pss_nil))))
  (@pss_one _ _ _ (@ps_ret _ _ _ _ (pv 2)))))),lift_body h ?_⟩
 rintro as n P ⟨w,rows,rfl,hw,hrw,hl,q⟩
 have hs:sizeLine=16777216:=sizeLine_eq
 refine ⟨rfl,⟨rfl,by rw [List.length_map];omega⟩,?_⟩
 refine cmpW_mapG (f:=ringL) ringL (fun x hx n K hk=>iteT hk) ?_
 have hat:∀ {xs:List Int} {p:Nat},p<xs.length→atI (xs.map PyData.int) ((p:Nat):Int)=some (.int (xs.getD p 0)):=fun {xs p} h=>at_getD (Int.natCast_nonneg p) (int_get (by simpa using h))
 refine ⟨_,.refl,_,.refl,Nat.zero_le _,neNilR (fun hnil=>iteF ?_) (fun hne=>iteT ?_)⟩
 · subst hnil
   rw [ap_nil] at q
   refine ⟨0,rfl,⟨by omega,by omega⟩,fun i env k=>k=n∧env=[.d (.list []),.own [],.d (.int 0),.jnk,.jnk,.jnk],⟨rfl,rfl⟩,fun i x env k hx=>(by simp [rngD] at hx),?_⟩
   rintro env k ⟨rfl,rfl⟩
   exact ⟨_,.refl,q⟩
 obtain ⟨r1,rs,rfl⟩:∃ r1 rs,rows=r1::rs:=by
  cases rows with
  | nil=>exact absurd rfl hne
  | cons r1 rs=>exact ⟨r1,rs,rfl⟩
 have hr1:=(hrw r1 List.mem_cons_self).1
 have A:=ap_all fun r hr=>(hrw r hr).1
 have B:=ap_bd fun r hr=>(hrw r hr).2
 have Ln:=ap_len (rows:=r1::rs)
 generalize hrows:r1::rs=rows at *
 have hat0:∀ {xs:List Int} {p:Nat},p<xs.length→atI (xs.map PyData.int) (0+((p:Nat):Int))=some (.int (xs.getD p 0)):=fun {xs p} h=>by rw [Int.zero_add];exact hat h
 refine ⟨ringL r1,?_,((w:Nat):Int),?_,⟨by omega,by omega⟩,?_⟩
 · rw [← hrows];exact at_getD (by decide) rfl
 · show [PyData.int (((r1.map PyData.int).length:Nat):Int)]=_
   rw [List.length_map,hr1]
 refine ⟨fun i env k=>k=n∧∃ a b c:Vl,env=[.d (.list (rows.map ringL)),.own ((apTo rows i).1.map ringL),.d (.int (((apTo rows i).2.length:Nat):Int)),a,b,c],⟨rfl,_,_,_,rfl⟩,?_,?_⟩
 · rintro i x env k hx ⟨rfl,a,b,c,rfl⟩
   obtain ⟨hi,rfl⟩:=rng_get hx
   have Ai:=A i
   have Bi:=B i
   have Li:=Ln i
   have est:apTo rows (i+1)=apStep i (apTo rows i):=rfl
   generalize apTo rows i=st at *
   have b18:=bit_18 (b:=8) (i:=i) (by omega) (by omega)
   have h27:(2:Nat)^27=134217728:=by decide
   have mo:∀ {x y:Int},x.natAbs<2^bitN 8 i→y.natAbs<2^bitN 8 i→IntMulOk x y:=fun {x y} h1 h2=>mulOk_ofH h1 h2 (by omega)
   refine ⟨⟨rfl,by rw [List.length_map];omega⟩,?_⟩
   refine cmpW_filtG (p:=fun r=>decide (r.getD i 0≠0)) (fun r hr K h1 h2=>⟨_,hat (by rw [Ai.len r hr];omega),fNe_i (ite_b (fun c=>h1 (decide_eq_true (by simpa using c))) (fun c=>h2 (decide_eq_false (by simpa using c))))⟩) ?_
   refine ⟨_,.refl,Nat.zero_le _,?_⟩
   unfold apStep at est
   cases hf:st.1.filter (fun r=>decide (r.getD i 0≠0)) with
   | nil=>
    rw [hf] at est
    exact neNilR (l:=[]) (fun _=>iteF ⟨rfl,_,_,_,by rw [est];rfl⟩) (fun z=>absurd rfl z)
   | cons by_ rest=>
    have hm:by_∈st.1.filter (fun r=>decide (r.getD i 0≠0)):=by rw [hf];exact List.mem_cons_self
    have hb:=(List.mem_filter.mp hm).1
    have bl:=Ai.len by_ hb
    obtain ⟨j,fj,ej⟩:=first_rlE hb
    rw [hf] at est
    refine neNilR (l:=by_::rest) (fun z=>absurd z (by simp)) (fun _=>iteT ⟨ringL by_,at_getD (by decide) rfl,_,.refl,j,inok_l,fj,_,.refl,_,.refl,?_⟩)
    rw [← erase_map,ej]
    refine ⟨⟨rfl,by rw [List.length_map,List.length_erase_of_mem hb];omega⟩,?_⟩
    refine cmpW_mapG (f:=ringL) (fun r=>ringL (lesI (offH by_ r i))) (fun r hr m K hK=>iteT ?_) ?_
    · have hr0:=List.mem_of_mem_erase hr
      have rl:=Ai.len r hr0
      refine ⟨((w:Nat):Int),?_,⟨by omega,by omega⟩,⟨rfl,by rw [rngD_len];omega⟩,?_⟩
      · show [PyData.int (((r.map PyData.int).length:Nat):Int)]=_
        rw [List.length_map,rl]
      have e2:rngD 0 ((w:Nat):Int).toNat=(List.range w).map fun k:Nat=>PyData.int (0+((k:Nat):Int)):=rfl
      rw [e2]
      refine cmpW_mapG (f:=fun k:Nat=>PyData.int (0+((k:Nat):Int))) (fun k:Nat=>.int (r.getD k 0*by_.getD i 0-by_.getD k 0*r.getD i 0)) (fun k hk m K hK=>?_) ?_
      · have hk:=List.mem_range.mp hk
        exact iteT ⟨_,hat0 (by omega),_,hat (by omega),mo ((Bi r hr0).at k) ((Bi by_ hb).at i),_,hat0 (by omega),_,hat (by omega),mo ((Bi by_ hb).at k) ((Bi r hr0).at i),hK⟩
      · have e3:(List.range w).map (fun k:Nat=>PyData.int (r.getD k 0*by_.getD i 0-by_.getD k 0*r.getD i 0))=(offH by_ r i).map .int:=by
         rw [← off_rng (by rw [rl,bl]),List.map_map,rl]
         rfl
        rw [e3]
        refine ⟨_,rfl,?_,hK⟩
        unfold offH
        rw [List.length_zipWith,rl,bl]
        omega
    · refine ⟨rfl,.d (.int ((i:Nat):Int)),.own ((by_::rest).map ringL),.d (ringL by_),?_⟩
      rw [est]
      show [_,Vl.own ((st.1.erase by_).map fun r=>ringL (lesI (offH by_ r i))),Vl.d (.int (((st.2.length:Nat):Int)+1)),_,_,_]=[_,Vl.own (((st.1.erase by_).map fun r=>lesI (offH by_ r i)).map ringL),Vl.d (.int ((((i,by_)::st.2).length:Nat):Int)),_,_,_]
      rw [List.map_map,List.length_cons,Int.natCast_add]
      rfl
 · rintro env k ⟨rfl,a,b,c,rfl⟩
   rw [rngD_len]
   exact ⟨_,.refl,q⟩
theorem sc_law_right:FnScope ["_law_book_here","_law_list","_law_firsts","_law_rows","_law_total","_law_row","_law_k","_law_here"] ["_law_book_here","_law_list"] (defScope s_law_right):=⟨rfl,rfl,rfl,by decide +kernel,rfl,by decide +kernel,by decide +kernel⟩
theorem ok_law_right (T:Txt mg) (D:Def K mg "_law_right" s_law_right ["_law_book_here","_law_list"]) (c__law_are_whole:Cal P w K mg base "_law_are_whole" 2 ["_law_thing","_law_many"] (liftV gsLAreH)) (c__law_fall:Cal P w K mg base "_law_fall" 1 ["_law_book_here","_law_total","_law_k"] (liftV gsFallS)) (c__law_common:Cal P w K mg base "_law_common" 1 ["_law_row"] (liftV gsCommonLT)) (c__law_apart:Cal P w K mg base "_law_apart" 41 ["_law_rows"] (liftV gsApart)) (c__law_rows_of:Cal P w K mg base "_law_rows_of" 1 ["_law_book_here"] (liftV gsRowsOf)):Cal P w K mg base "_law_right" 45 ["_law_book_here","_law_list"] (liftV gsRight75):=by
 refine D.cal fun f fd F=>F.ok sc_law_right (lift_len ?_) (fun cdv A outer s H vs Q E hr h=>?_)
 · rintro as n P ⟨R,U,ws,rfl,_⟩
   rfl
 refine ⟨_,(@pss_cons _ _ _ _ _ (ps_if (pt_not (pt_val (pe_callB call_isD rfl T.b_isinstance boot_isinstance (pa_name (pv 1) (pa_name (pe_bltn rfl T.b_list boot_list (v:=.ty "list") rfl) pa_nil))))) (@pss_one _ _ _ (@ps_ret _ _ _ _ pe_bl)) pss_nil)
  (@pss_cons _ _ _ _ _ (@ps_setD _ _ 2 _ _ _ _ sc_law_right.nd rfl (Or.inr rfl) (pes_lst pas_nil) rfl (Or.inl rfl))
  (@pss_cons _ _ _ _ _ (@ps_setD _ _ 3 _ _ _ _ sc_law_right.nd rfl (Or.inl rfl) (pes_lst pas_nil) rfl (Or.inl rfl))
  (@pss_cons _ _ _ _ _ (ps_for PassesOwn.never rfl (pi_list (pv 1)) (pg_name (i:=4) sc_law_right.nd rfl (Or.inr rfl) (Or.inl rfl))
  (@pss_cons _ _ _ _ _ (ps_if (PW.pt (pw_or (pt_not (pt_val (pe_callB call_isD rfl T.b_isinstance boot_isinstance (pa_name (pv 4) (pa_name (pe_bltn rfl T.b_tuple boot_tuple (v:=.ty "tuple") rfl) pa_nil))))) (pw_or1 (pt_cmpR op_ne (pe_callB call_len_seq rfl T.b_len PySem.boot_len (pa_name (pv 4) pa_nil)) pe_int (nomark _))))) (@pss_one _ _ _ (@ps_ret _ _ _ _ pe_bl)) pss_nil)
  (@pss_cons _ _ _ _ _ (ps_if (PW.pt (pw_or (pt_not (pt_val (pe_c c__law_are_whole (hr.mono (by decide)) rfl (pa_sub (pe_ix ix_tup (pv 4) pe_int (fun _ _=>rfl)) (pa_sub (pe_ix ix_tup (pv 0) pe_int (fun _ _=>rfl)) pa_nil))))) (pw_or1 (pt_not (pt_val (pe_c c__law_are_whole (hr.mono (by decide)) rfl (pa_sub (pe_ix ix_tup (pv 4) pe_int (fun _ _=>rfl)) (pa_sub (pe_ix ix_tup (pv 0) pe_int (fun _ _=>rfl)) pa_nil)))))))) (@pss_one _ _ _ (@ps_ret _ _ _ _ pe_bl)) pss_nil)
  (@pss_cons _ _ _ _ _ (ps_if (pt_cmpR (op_neD hr.units) (pe_comp (sc:=(defScope s_law_right)) (N:=["_law_book_here","_law_list","_law_firsts","_law_rows","_law_total","_law_row","_law_k","_law_here"]) (N':=["_law_k","_law_book_here","_law_total"]) (k:=1) (idx:=[0,4]) rfl (by exact ⟨rfl,by decide +kernel,by decide +kernel,by decide +kernel,by decide +kernel,by decide +kernel,rfl,rfl⟩) rfl rfl (pi_range1 rfl T.b_range (pa_call (pe_callB call_len_seq rfl T.b_len PySem.boot_len (pa_sub (pe_ix ix_tup (pv 0) pe_int (fun _ _=>rfl)) pa_nil)) pa_nil)) (fun _ _ _ _=>(pg_name (i:=0) (show (["_law_k","_law_book_here","_law_total"]:List Str).Nodup by decide +kernel) rfl (Or.inl rfl) (Or.inr rfl))) (fun _ _ _ _=>pts_one (pt_cmpR op_ne (pe_c c__law_fall (hr.mono (by decide)) rfl (pa_name (pv 1) (pa_name (pv 2) (pa_name (pv 0) pa_nil)))) pe_int (nomark _))) (fun _ _ _ _=>(pv 0))) (@PEs.out _ _ _ (pes_lst pas_nil)) (nomark _)) (@pss_one _ _ _ (@ps_ret _ _ _ _ pe_bl)) pss_nil)
  (@pss_cons _ _ _ _ _ (ps_set (i:=5) sc_law_right.nd rfl (Or.inr rfl) (pe_op op_catD (pe_ix ix_tup (pv 4) pe_int (fun _ _=>rfl)) (pe_ix ix_tup (pv 4) pe_int (fun _ _=>rfl))))
  (@pss_cons _ _ _ _ _ (ps_if (pt_cmpR op_ne (pe_c c__law_common (hr.mono (by decide)) rfl (pa_name (pv 5) pa_nil)) pe_int (nomark _)) (@pss_one _ _ _ (@ps_ret _ _ _ _ pe_bl)) pss_nil)
  (@pss_cons _ _ _ _ _ (ps_expr (pe_bm PySem.F.plainAttrs_list PySem.F.slot_list_append PySem.F.type_list_append mt_append (pv 2) (pa_sub (pe_ix ix_list (pe_comp (sc:=(defScope s_law_right)) (N:=["_law_book_here","_law_list","_law_firsts","_law_rows","_law_total","_law_row","_law_k","_law_here"]) (N':=["_law_at","_law_row"]) (k:=1) (idx:=[5]) rfl (by exact ⟨rfl,by decide +kernel,by decide +kernel,by decide +kernel,by decide +kernel,by decide +kernel,rfl,rfl⟩) rfl rfl (pi_range1 rfl T.b_range (pa_call (pe_callB call_len_seq rfl T.b_len PySem.boot_len (pa_name (pv 5) pa_nil)) pa_nil)) (fun _ _ _ _=>(pg_name (i:=0) (show (["_law_at","_law_row"]:List Str).Nodup by decide +kernel) rfl (Or.inl rfl) (Or.inr rfl))) (fun _ _ _ _=>pts_one (pt_cmpR op_ne (pe_ix (ix_tupK (K':=K) rfl) (pv 1) (pv 0) (fun _ _=>rfl)) pe_int (nomark _))) (fun _ _ _ _=>(pv 0))) pe_int (fun _ _=>rfl)) pa_nil)))
  (@pss_one _ _ _ (ps_expr (pe_bm PySem.F.plainAttrs_list PySem.F.slot_list_append PySem.F.type_list_append mt_append (pv 3) (pa_name (pv 5) pa_nil)))))))))))
  (@pss_cons _ _ _ _ _ (ps_if (pt_cmpR (op_neD hr.units) (pv 2) (pe_sortSet rfl rfl T.b_sorted boot_sorted rfl T.b_set boot_set (pa_name (pv 2) pa_nil)) (nomark _)) (@pss_one _ _ _ (@ps_ret _ _ _ _ pe_bl)) pss_nil)
  (@pss_cons _ _ _ _ _ (ps_for PassesOwn.never rfl (pi_range1 rfl T.b_range (pa_call (pe_callB call_len_seq rfl T.b_len PySem.boot_len (pa_name (pv 3) pa_nil)) pa_nil)) (pg_name (i:=6) sc_law_right.nd rfl (Or.inr rfl) (Or.inl rfl))
  (@pss_cons _ _ _ _ _ (ps_setcomp (i:=7) (sc:=(defScope s_law_right)) (N:=["_law_book_here","_law_list","_law_firsts","_law_rows","_law_total","_law_row","_law_k","_law_here"]) (N':=["_law_row","_law_firsts","_law_k"]) (k:=1) (idx:=[2,6]) rfl sc_law_right.nd rfl rfl (by exact ⟨rfl,by decide +kernel,by decide +kernel,by decide +kernel,by decide +kernel,by decide +kernel,rfl,rfl⟩) rfl rfl (pi_list (pv 3)) (fun _ _ _ _=>(pg_name (i:=0) (show (["_law_row","_law_firsts","_law_k"]:List Str).Nodup by decide +kernel) rfl (Or.inl rfl) (Or.inr rfl))) (fun _ _ _ _=>pts_nil) (fun _ _ _ _=>(pe_ix (ix_tupK (K':=K) rfl) (pv 0) (pe_ix (ix_listK (K':=K) rfl) (pv 1) (pv 2) (fun _ _=>rfl)) (fun _ _=>rfl))))
  (@pss_one _ _ _ (ps_if (PW.pt (pw_or (pt_cmpR op_lt (pe_ix ix_list (pv 7) (pv 6) (fun _ _=>rfl)) pe_int (nomark _)) (pw_or1 (pt_cmpR (op_neD hr.units) (pe_comp (sc:=(defScope s_law_right)) (N:=["_law_book_here","_law_list","_law_firsts","_law_rows","_law_total","_law_row","_law_k","_law_here"]) (N':=["_law_one"]) (k:=1) (idx:=[]) rfl (by exact ⟨rfl,by decide +kernel,by decide +kernel,by decide +kernel,by decide +kernel,by decide +kernel,rfl,rfl⟩) rfl rfl (pi_list (pv 7)) (fun _ _ _ _=>(pg_name (i:=0) (show (["_law_one"]:List Str).Nodup by decide +kernel) rfl (Or.inl rfl) (Or.inr rfl))) (fun _ _ _ _=>pts_one (pt_cmpR op_ne (pv 0) pe_int (nomark _))) (fun _ _ _ _=>(pv 0))) (@PEs.out _ _ _ (pes_lst (pas_sub (pes_of (pe_ix ix_list (pv 7) (pv 6) (fun _ _=>rfl))) pas_nil))) (nomark _))))) (@pss_one _ _ _ (@ps_ret _ _ _ _ pe_bl)) pss_nil))))
  (@pss_one _ _ _ (@ps_ret _ _ _ _ (pe_cmpR op_eq (pe_callB call_len_seq rfl T.b_len PySem.boot_len (pa_name (pv 3) pa_nil)) (pe_op op_sub (pe_op op_add (pe_ix ix_tup (pv 0) pe_int (fun _ _=>rfl)) (pe_ix ix_tup (pv 0) pe_int (fun _ _=>rfl))) (pe_c c__law_apart (hr.mono (by decide)) rfl (pa_call (pe_c c__law_rows_of (hr.mono (by decide)) rfl (pa_name (pv 0) pa_nil)) pa_nil))) (nomark _)))))))))),lift_body h ?_⟩
 rintro as n P ⟨R,U,ws,rfl,ok,q⟩
 have hs:sizeLine=16777216:=sizeLine_eq
 have hB:=ok.h
 have r0:=ok.r0
 have r1:=hB.r1
 have p0:=ok.p0
 have p1:=hB.p1
 have wl:=ok.len
 have hw:widthI R U=(U+R).toNat:=rfl
 have sok:=set_ok hB
 have rows_ok:=rows_okH hB
 have hln:=held_len hB
 have fl:(freeI (setI R U ws) (widthI R U)).length=(heldI R U ws).length:=by unfold heldI;rw [List.length_map]
 have fm:∀ p∈freeI (setI R U ws) (widthI R U),p<widthI R U∧p∉(setI R U ws).map (·.1):=fun p hp=>by
  unfold freeI at hp
  obtain ⟨h1,h2⟩:=List.mem_filter.mp hp
  exact ⟨List.mem_range.mp h1,of_decide_eq_true h2⟩
 obtain ⟨rw_,hrw⟩:∃ rw_:Nat→List Int,rw_=fun p=>rowFromI (setI R U ws) p (widthI R U):=⟨_,rfl⟩
 have rlen:∀ p,(rw_ p).length=widthI R U:=fun p=>by rw [hrw];exact rowFromI_len _ _ _
 have eh:heldI R U ws=(freeI (setI R U ws) (widthI R U)).map fun p=>((rw_ p).take U.toNat,(rw_ p).drop U.toNat):=by rw [hrw];rfl
 have hfree:=free_rise (setI R U ws) (widthI R U)
 have hrank:=held_rank hB
 have hsum:=held_sum hB
 have hfall:=@held_fall R U ws hB
 have hgcd:∀ p∈freeI (setI R U ws) (widthI R U),gcdL (rw_ p)=1:=fun p hp=>by rw [hrw];exact from_gcd sok (fm p hp).1 (fm p hp).2
 have hpos:∀ p∈freeI (setI R U ws) (widthI R U),0<(rw_ p).getD p 0:=fun p hp=>by rw [hrw];exact from_pos sok (fm p hp).1 (fm p hp).2
 have hleft:∀ p∈freeI (setI R U ws) (widthI R U),∀ q,q<p→(rw_ p).getD q 0=0:=fun p hp q hq=>by rw [hrw];exact from_left rows_ok sok (fm p hp).1 (fm p hp).2 hq
 have hother:∀ p∈freeI (setI R U ws) (widthI R U),∀ q∈freeI (setI R U ws) (widthI R U),q≠p→(rw_ p).getD q 0=0:=fun p hp q hq hne=>by rw [hrw];exact from_zero sok (fm p hp).1 (fm p hp).2 (told_free sok (fm p hp).1 (fm q hq).2 hne)
 have hlt:∀ p∈freeI (setI R U ws) (widthI R U),p<widthI R U:=fun p hp=>(fm p hp).1
 rw [eh] at hsum hfall ⊢
 clear hrw eh
 generalize freeI (setI R U ws) (widthI R U)=fs at *
 refine ⟨rfl,rfl,_,.refl,Nat.zero_le _,_,.refl,Nat.zero_le _,_,.refl,?_⟩
 refine ⟨fun i env k=>k=n∧∃ a b c d:Vl,env=[.d (bookPD R U ws),.d (.list (sumsD (fs.map fun p=>((rw_ p).take U.toNat,(rw_ p).drop U.toNat)))),.own ((fs.take i).map natD),.own ((fs.take i).map fun p=>PyData.tuple ((rw_ p).map .int)),a,b,c,d],⟨rfl,_,_,_,_,rfl⟩,?_,?_⟩
 · rintro i x env k hx ⟨rfl,a,b,c,d,rfl⟩
   unfold sumsD at hx
   rw [List.map_map,List.getElem?_map] at hx
   obtain ⟨p,hp,rfl⟩:=Option.map_eq_some_iff.mp hx
   have hpm:=List.mem_of_getElem? hp
   have hps:((rw_ p).take U.toNat,(rw_ p).drop U.toNat)∈fs.map fun p=>((rw_ p).take U.toNat,(rw_ p).drop U.toNat):=List.mem_map.mpr ⟨p,hpm,rfl⟩
   have lw:=(hsum _ hps).lw
   have lh:=(hsum _ hps).lh
   have tk:((rw_ p).take U.toNat).map PyData.int++((rw_ p).drop U.toNat).map PyData.int=(rw_ p).map .int:=by rw [← List.map_append,List.take_append_drop]
   have sl:=hsum _ hps
   have lw:(((rw_ p).take U.toNat).length:Int)=U:=sl.lw
   have lh:(((rw_ p).drop U.toNat).length:Int)=R:=sl.lh
   have fll:∀ j:Nat,j<ws.length→fallI ws ((rw_ p).take U.toNat) ((rw_ p).drop U.toNat) ((j:Nat):Int)=0:=fun j hj=>hfall hps (Int.natCast_nonneg j) (by omega)
   have rl:=rlen p
   have hi:=(List.getElem?_eq_some_iff.mp hp).1
   refine ⟨rfl,iteF ?_⟩
   show fEq true (.int ((2:Nat):Int)) (.int 2) _
   refine fNe_i ?_
   refine iteF ⟨_,.refl,_,rfl,_,rfl,(rw_ p).take U.toNat,?_,by omega,?_⟩
   · rw [lw]
   refine iteF ⟨_,rfl,_,rfl,(rw_ p).drop U.toNat,by rw [lh],by omega,iteF ⟨_,.refl,?_⟩⟩
   refine ⟨_,rfl,((ws.length:Nat):Int),?_,⟨by omega,by omega⟩,⟨rfl,by rw [rngD_len];omega⟩,?_⟩
   · show [PyData.int (((ws.map wayPD).length:Nat):Int)]=_
     rw [List.length_map]
   have e2:∀ m:Nat,rngD 0 ((m:Nat):Int).toNat=(List.range m).map fun k:Nat=>PyData.int (0+((k:Nat):Int)):=fun m=>rfl
   rw [e2]
   refine cmpW_filtG (g:=fun k:Nat=>PyData.int (0+((k:Nat):Int))) (p:=fun _=>false) (fun j hj K h1 h2=>⟨R,U,ws,(rw_ p).take U.toNat,(rw_ p).drop U.toNat,j,?_,ok,sl,List.mem_range.mp hj,fNe_i ?_⟩) ?_
   · show [_,_,Vl.d (.int (0+((j:Nat):Int)))]=_
     rw [Int.zero_add]
     rfl
   · rw [fll j (List.mem_range.mp hj)]
     exact iteF (h2 rfl)
   rw [filt_none]
   refine ⟨Nat.zero_le _,neNilR (l:=[]) (fun _=>iteF ⟨_,.refl,_,rfl,_,rfl,?_,?_⟩) (fun z=>absurd rfl z)⟩
   · show (((rw_ p).take U.toNat).map PyData.int).length+(((rw_ p).drop U.toNat).map PyData.int).length≤sizeLine
     rw [List.length_map,List.length_map];omega
   refine ⟨[.d (bookPD R U ws),.d (.list (sumsD (fs.map fun p=>((rw_ p).take U.toNat,(rw_ p).drop U.toNat)))),.own ((fs.take i).map natD),.own ((fs.take i).map fun p=>PyData.tuple ((rw_ p).map .int)),.d (smPD ((rw_ p).take U.toNat) ((rw_ p).drop U.toNat)),.d (.tuple ((rw_ p).map .int)),c,d],.eq (by rw [← tk];rfl),rw_ p,_,rfl,.inr rfl,fNe_i ?_⟩
   rw [hgcd p hpm]
   refine iteF ⟨_,.refl,((widthI R U:Nat):Int),?_,⟨by omega,by omega⟩,⟨rfl,by rw [rngD_len];omega⟩,?_⟩
   · show [PyData.int ((((rw_ p).map PyData.int).length:Nat):Int)]=_
     rw [List.length_map,rl]
   rw [e2]
   refine cmpW_filtG (g:=fun k:Nat=>PyData.int (0+((k:Nat):Int))) (p:=fun j=>decide ((rw_ p).getD j 0≠0)) (fun j hj K h1 h2=>⟨.int ((rw_ p).getD j 0),?_,fNe_i (ite_b (fun c=>h1 (decide_eq_true (by simpa using c))) (fun c=>h2 (decide_eq_false (by simpa using c))))⟩) ?_
   · rw [Int.zero_add]
     exact at_getD (Int.natCast_nonneg j) (int_get (by rw [Int.toNat_natCast,rl];exact List.mem_range.mp hj))
   have pp:=hpos p hpm
   obtain ⟨rest,er⟩:=first_nz (f:=fun j=>decide ((rw_ p).getD j 0≠0)) (hlt p hpm) (decide_eq_true (by omega)) (fun q hq=>decide_eq_false (by rw [hleft p hpm q hq];simp))
   rw [er]
   refine ⟨natD p,?_,by rw [List.length_map,List.length_take];omega,_,.refl,by rw [List.length_map,List.length_take];omega,rfl,.d (smPD ((rw_ p).take U.toNat) ((rw_ p).drop U.toNat)),.d (.tuple ((rw_ p).map .int)),c,d,?_⟩
   · show atI (PyData.int (0+((p:Nat):Int))::_) 0=_
     rw [Int.zero_add]
     exact at_getD (by decide) rfl
   · rw [List.take_add_one,hp,List.map_append,List.map_append]
     rfl
 · rintro env k ⟨rfl,a,b,c,d,rfl⟩
   have efl:(sumsD (fs.map fun p=>((rw_ p).take U.toNat,(rw_ p).drop U.toNat))).length=fs.length:=by unfold sumsD;rw [List.length_map,List.length_map]
   rw [efl,List.take_length]
   have en:fs.map natD=(fs.map fun p:Nat=>((p:Nat):Int)).map PyData.int:=by rw [List.map_map];rfl
   have rise:(fs.map fun p:Nat=>((p:Nat):Int)).Pairwise (· < ·):=List.pairwise_map.mpr (hfree.imp fun {a b} h=>by omega)
   have hnd:fs.Nodup:=hfree.imp fun {a b} h=>Nat.ne_of_lt h
   refine ⟨_,.fz 2 _ rfl .refl,fs.map fun p:Nat=>((p:Nat):Int),by rw [en],by rw [List.length_map];omega,fun ns' hm hr=>?_⟩
   have e9:=rising_one hr rise hm
   subst e9
   rw [en]
   refine neRing ?_
   rw [decide_eq_false (fun z=>z rfl)]
   rw [← en]
   refine iteF ⟨_,.refl,((fs.length:Nat):Int),?_,⟨by omega,by omega⟩,?_⟩
   · show [PyData.int (((fs.map fun p=>PyData.tuple ((rw_ p).map .int)).length:Nat):Int)]=_
     rw [List.length_map]
   refine ⟨fun i env j=>j=k∧∃ a b c d:Vl,env=[.d (bookPD R U ws),.d (.list (sumsD (fs.map fun p=>((rw_ p).take U.toNat,(rw_ p).drop U.toNat)))),.d (.list (fs.map natD)),.own (fs.map fun p=>PyData.tuple ((rw_ p).map .int)),a,b,c,d],⟨rfl,_,_,_,_,rfl⟩,?_,?_⟩
   · rintro i x env j hx ⟨rfl,a,b,c,d,rfl⟩
     obtain ⟨hi,rfl⟩:=rng_get hx
     have hi:i<fs.length:=by omega
     obtain ⟨p,hp⟩:∃ p,fs[i]? = some p:=⟨_,List.getElem?_eq_getElem hi⟩
     have hpm:=List.mem_of_getElem? hp
     have pp:=hpos p hpm
     have atp:atI (fs.map natD) ((i:Nat):Int)=some (natD p):=at_getD (Int.natCast_nonneg i) (by rw [Int.toNat_natCast,List.getElem?_map,hp];rfl)
     have ath:atI (fs.map fun q=>PyData.int ((rw_ q).getD p 0)) ((i:Nat):Int)=some (.int ((rw_ p).getD p 0)):=at_getD (Int.natCast_nonneg i) (by rw [Int.toNat_natCast,List.getElem?_map,hp];rfl)
     refine ⟨⟨rfl,by rw [List.length_map];omega⟩,?_⟩
     refine cmpW_mapG (f:=fun q=>PyData.tuple ((rw_ q).map .int)) (fun q=>PyData.int ((rw_ q).getD p 0)) (fun q hq m K hK=>iteT ⟨_,atp,_,at_getD (Int.natCast_nonneg p) (int_get (by rw [Int.toNat_natCast,rlen];exact hlt p hpm)),hK⟩) ?_
     refine ⟨_,.refl,_,ath,ite_b (fun c=>absurd (of_decide_eq_true c) (by omega)) (fun _=>⟨⟨rfl,by rw [List.length_map];omega⟩,?_⟩)⟩
     refine cmpW_filtG (g:=fun q=>PyData.int ((rw_ q).getD p 0)) (p:=fun q=>decide ((rw_ q).getD p 0≠0)) (fun q hq K h1 h2=>fNe_i (ite_b (fun c=>h1 (decide_eq_true (by simpa using c))) (fun c=>h2 (decide_eq_false (by simpa using c))))) ?_
     rw [filt_one hnd hpm (decide_eq_true (by omega)) fun q hq hne=>decide_eq_false (by rw [hother q hq p hpm (fun z=>hne z.symm)];simp)]
     refine ⟨_,ath,small4 (Nat.le_of_ble_eq_true rfl),?_⟩
     refine neRing (a:=[(rw_ p).getD p 0]) (b:=[(rw_ p).getD p 0]) ?_
     rw [decide_eq_false (fun z=>z rfl)]
     exact iteF ⟨rfl,_,_,_,_,rfl⟩
   · rintro env j ⟨rfl,a,b,c,d,rfl⟩
     refine ⟨_,.refl,_,rfl,_,rfl,R,U,ws,rfl,hB,widthI R U,ws.map (fallsI R),rfl,by omega,rows_ok,by rw [List.length_map];omega,fEq_i ?_⟩
     rw [decide_eq_true]
     · exact q
     · rw [List.length_map];exact hrank
theorem sc_law:FnScope ["_law_script","_law_tape_here","_law_some","_law_book_here","_law_ways","_law_times","_law_one","_law_again","_law_list"] ["_law_script"] (defScope s_law):=⟨rfl,rfl,rfl,by decide +kernel,rfl,by decide +kernel,by decide +kernel⟩
theorem ok_law {f:Addr}{fd:FuncData}(T:Txt mg) (F:Fun K "law" "law" s_law f fd) (c__law_tape:Cal P w K mg base "_law_tape" 1 ["_law_script"] (spTape K)) (c__law_draw:Cal P w K mg base "_law_draw" 1 ["_law_tape_here","_law_many"] (liftV gsDraw)) (c__law_book:Cal P w K mg base "_law_book" 5 ["_law_tape_here","_law_most"] (liftV gsBookN)) (c_held:Cal P w K mg base "held" 43 ["book"] (liftN gsHeld)) (c__law_right:Cal P w K mg base "_law_right" 45 ["_law_book_here","_law_list"] (liftV gsRight75)):FnOk P w K mg base CX0 60 f fd ["_law_script"] (spLaw K):=by
 refine F.ok sc_law (fun vs H Q E h=>?_) (fun cdv A outer s H vs Q E hr h=>?_)
 · obtain ⟨a,ns,rfl,_⟩:=h
   rfl
 refine ⟨_,(@pss_cons _ _ _ _ _ (ps_set (i:=1) sc_law.nd rfl (Or.inl rfl) (pe_c c__law_tape (hr.mono (by decide)) rfl (pa_name (pv 0) pa_nil)))
  (@pss_cons _ _ _ _ _ (@ps_setD _ _ 2 _ _ _ _ sc_law.nd rfl (Or.inl rfl) (pes_lst (pas_tuple (pes_tup (pas_const pes_int (pas_const pes_int (pas_const pes_int pas_nil)))) (pas_tuple (pes_tup (pas_const pes_int (pas_const pes_int (pas_const pes_int pas_nil)))) (pas_tuple (pes_tup (pas_const pes_int (pas_const pes_int (pas_const pes_int pas_nil)))) (pas_tuple (pes_tup (pas_const pes_int (pas_const pes_int (pas_const pes_int pas_nil)))) (pas_tuple (pes_tup (pas_const pes_int (pas_const pes_int (pas_const pes_int pas_nil)))) (pas_tuple (pes_tup (pas_const pes_int (pas_const pes_int (pas_const pes_int pas_nil)))) (pas_tuple (pes_tup (pas_const pes_int (pas_const pes_int (pas_const pes_int pas_nil)))) (pas_tuple (pes_tup (pas_const pes_int (pas_const pes_int (pas_const pes_int pas_nil)))) pas_nil))))))))) rfl (Or.inl rfl))
  (@pss_cons _ _ _ _ _ (ps_set (i:=3) sc_law.nd rfl (Or.inl rfl) (pe_c c__law_book (hr.mono (by decide)) rfl (pa_name (pv 1) (pa_sub (pe_ix ix_list (pv 2) (pe_c c__law_draw (hr.mono (by decide)) rfl (pa_name (pv 1) (pa_const pe_int pa_nil))) (fun _ _=>rfl)) pa_nil))))
  (@pss_cons _ _ _ _ _ (ps_set (i:=4) sc_law.nd rfl (Or.inl rfl) (pe_ix ix_tup (pv 3) pe_int (fun _ _=>rfl)))
  (@pss_cons _ _ _ _ _ (ps_if (pt_cmpR op_gt (pe_callB call_len_seq rfl T.b_len PySem.boot_len (pa_name (pv 4) pa_nil)) pe_int (nomark _)) (@pss_cons _ _ _ _ _ (ps_set (i:=5) sc_law.nd rfl (Or.inr rfl) (pe_op op_sub (pe_c c__law_draw (hr.mono (by decide)) rfl (pa_name (pv 1) (pa_const pe_int pa_nil))) pe_int))
  (@pss_one _ _ _ (ps_set (i:=4) sc_law.nd rfl (Or.inl rfl) (pe_op op_catD (pe_slice sl_tupW (pv 4) po_none (po_some (pe_un un_neg pe_int))) (@PEs.out _ _ _ (pes_tup (pas_tuple (pes_tup (pas_sub (pes_of (pe_ix ix_tup (pe_ix ix_tup (pv 4) pe_int (fun _ _=>rfl)) pe_int (fun _ _=>rfl))) (pas_sub (pes_of (pe_ix ix_tup (pe_ix ix_tup (pv 4) pe_int (fun _ _=>rfl)) pe_int (fun _ _=>rfl))) (pas_call (pes_of (pe_callTy call_tuple_of rfl T.b_tuple boot_tuple (pa_comp (pe_comp (sc:=(defScope s_law)) (N:=["_law_script","_law_tape_here","_law_some","_law_book_here","_law_ways","_law_times","_law_one","_law_again","_law_list"]) (N':=["_law_one","_law_times"]) (k:=1) (idx:=[5]) rfl (by exact ⟨rfl,by decide +kernel,by decide +kernel,by decide +kernel,by decide +kernel,by decide +kernel,rfl,rfl⟩) rfl rfl (pi_tup (pe_ix ix_tup (pe_ix ix_tup (pv 4) pe_int (fun _ _=>rfl)) pe_int (fun _ _=>rfl))) (fun _ _ _ _=>(pg_name (i:=0) (show (["_law_one","_law_times"]:List Str).Nodup by decide +kernel) rfl (Or.inl rfl) (Or.inr rfl))) (fun _ _ _ _=>pts_nil) (fun _ _ _ _=>(pe_op op_mul (pv 1) (pv 0)))) pa_nil))) pas_nil)))) pas_nil))))))) pss_nil)
  (@pss_cons _ _ _ _ _ (ps_for PassesOwn.never rfl (pi_list (@PEs.out _ _ _ (pes_lst (pas_name (pes_of (pv 3)) (pas_binop (pes_of (pe_op op_catD (pe_slice sl_tupW (pv 3) po_none (po_some pe_int)) (@PEs.out _ _ _ (pes_tup (pas_name (pes_of (pv 4)) pas_nil))))) pas_nil))))) (pg_name (i:=6) sc_law.nd rfl (Or.inl rfl) (Or.inl rfl))
  (@pss_one _ _ _ (ps_for PassesOwn.never rfl (pi_range1 rfl T.b_range (pa_const pe_int pa_nil)) (pg_name (i:=7) sc_law.nd rfl (Or.inl rfl) (Or.inl rfl))
  (@pss_cons _ _ _ _ _ (ps_set (i:=8) sc_law.nd rfl (Or.inl rfl) (pe_c c_held (hr.mono (by decide)) rfl (pa_name (pv 6) pa_nil)))
  (@pss_cons _ _ _ _ _ (ps_if (pt_not (pt_val (pe_c c__law_right (hr.mono (by decide)) rfl (pa_name (pv 6) (pa_name (pv 8) pa_nil))))) (@pss_one _ _ _ (@ps_ret _ _ _ _ pe_bl)) pss_nil)
  (@pss_one _ _ _ (ps_expr (pe_bm PySem.F.plainAttrs_list PySem.F.slot_list_append PySem.F.type_list_append mt_append (pv 8) (pa_const pe_non pa_nil)))))))))
  (@pss_one _ _ _ (@ps_ret _ _ _ _ pe_bl)))))))),law_startT (by decide) h ?_⟩
 have hs:sizeLine=16777216:=sizeLine_eq
 show gSeq _ _ endsL [.jnk,.tape,.jnk,.jnk,.jnk,.jnk,.jnk,.jnk,.jnk] 0
 refine ⟨three_line,three_line,three_line,three_line,three_line,three_line,three_line,three_line,small4 (Nat.le_of_ble_eq_true rfl),_,.refl,8,rfl,by omega,by decide,by decide +kernel,fun r r0 r1=>?_⟩
 obtain ⟨mr,mu,mw,e1,⟨a1,a2⟩,⟨b1,b2⟩,⟨c1,c2⟩⟩:∃ mr mu mw:Int,atI [PyData.tuple [.int 4,.int 3,.int 10],.tuple [.int 4,.int 3,.int 4],.tuple [.int 4,.int 3,.int 2],.tuple [.int 4,.int 6,.int 10],.tuple [.int 4,.int 6,.int 4],.tuple [.int 4,.int 6,.int 2],.tuple [.int 8,.int 6,.int 16],.tuple [.int 8,.int 6,.int 6]] r=some (.tuple [.int mr,.int mu,.int mw])∧(1≤mr∧mr≤12)∧(1≤mu∧mu≤6)∧(0≤mw∧mw≤36):=by
  have:r=0∨r=1∨r=2∨r=3∨r=4∨r=5∨r=6∨r=7:=by omega
  rcases this with rfl | rfl | rfl | rfl | rfl | rfl | rfl | rfl<;>exact ⟨_,_,_,rfl,by decide,by decide,by decide⟩
 refine ⟨_,e1,mr,mu,mw,rfl,by omega,⟨a1,a2⟩,⟨b1,b2⟩,⟨c1,c2⟩,fun R U ws m ok o3 _ _ hm=>⟨_,.refl,_,rfl,_,.refl,?_⟩⟩
 have wl:=ok.len
 generalize hS:Vl.own [PyData.tuple [.int 4,.int 3,.int 10],.tuple [.int 4,.int 3,.int 4],.tuple [.int 4,.int 3,.int 2],.tuple [.int 4,.int 6,.int 10],.tuple [.int 4,.int 6,.int 4],.tuple [.int 4,.int 6,.int 2],.tuple [.int 8,.int 6,.int 16],.tuple [.int 8,.int 6,.int 6]]=S
 show gSeq _ _ endsL [.jnk,.tape,S,.d (bookPD R U ws),.d (.tuple (ws.map wayPD)),.jnk,.jnk,.jnk,.jnk] m
 refine vseq (fun e j=>∃ (vs:List Way) (x:Vl),e=[.jnk,.tape,S,.d (bookPD R U ws),.d (.tuple (vs.map wayPD)),x,.jnk,.jnk,.jnk]∧BookOk R U vs) (fun N hN=>?_) ?_
 · refine ite_b (fun c=>?_) (fun c=>hN _ _ ⟨ws,_,rfl,ok⟩)
   have c:1<ws.length:=by
    have:(1:Int)<(((ws.map wayPD).length:Nat):Int):=of_decide_eq_true c
    rw [List.length_map] at this
    omega
   refine ⟨7,rfl,by omega,by decide,by decide +kernel,fun t t0 t1=>⟨_,.refl,?_⟩⟩
   have w0m:=wayAt_mem' (ws:=ws) (k:=0) (by decide) (by omega)
   have wo:=ok.ways _ w0m
   have w3:=(o3 _ w0m).lo
   have at0:atI (ws.map wayPD) 0=some (wayPD (wayAt ws 0)):=at_way (by decide) (by omega)
   have gl:=wo.len
   have p1:=ok.p1
   refine ⟨_,at0,_,rfl,_,at0,_,rfl,_,at0,_,rfl,⟨rfl,by rw [List.length_map];omega⟩,?_⟩
   refine cmpW_mapG (f:=PyData.int) (fun z=>.int ((t-3)*z)) (fun z hz m K hK=>iteT ⟨.inl ⟨by omega,by omega⟩,hK⟩) ?_
   refine ⟨three_line,small4 (Nat.le_of_ble_eq_true rfl),?_,hN _ _ ⟨ws.take (ws.length-1)++[⟨(wayAt ws 0).a,(wayAt ws 0).b,(wayAt ws 0).g.map fun z=>(t-3)*z⟩],.d (.int (t-3)),?_,?_⟩⟩
   · have:=(cut_sub (xs:=ws.map wayPD) (lo:=none) (hi:=some (-1))).2
     rw [List.length_map] at this
     show (cutD (ws.map wayPD) none (some (-1))).length+1≤sizeLine
     omega
   · have ec:cutD (ws.map wayPD) none (some (-1))=(ws.take (ws.length-1)).map wayPD:=by
      have:=cut_front (xs:=ws.map wayPD) (s:=1) (by decide) (by rw [List.length_map];omega)
      rw [List.length_map,← List.map_take] at this
      exact this
     rw [List.map_append,← ec]
     show [_,_,_,_,Vl.d (PyData.tuple (_++[PyData.tuple [_,_,PyData.tuple _]])),_,_,_,_]=[_,_,_,_,Vl.d (PyData.tuple (_++[PyData.tuple [_,_,PyData.tuple _]])),_,_,_,_]
     rw [List.map_map]
     rfl
   · refine ⟨ok.r0,ok.r1,ok.p0,ok.p1,by rw [List.length_append,List.length_take,List.length_singleton];omega,fun w hw=>?_⟩
     rcases List.mem_append.mp hw with hw | hw
     · exact ok.ways w (List.mem_of_mem_take hw)
     · rw [List.mem_singleton.mp hw]
       refine ⟨wo.a0,wo.a1,wo.b0,wo.b1,by rw [List.length_map];exact gl,fun z hz=>?_⟩
       obtain ⟨y,hy,rfl⟩:=List.mem_map.mp hz
       have:=w3 y hy
       have h3:t-3 = -3∨t-3 = -2∨t-3 = -1∨t-3=0∨t-3=1∨t-3=2∨t-3=3:=by omega
       rcases h3 with h | h | h | h | h | h | h<;>rw [h]<;>omega
 rintro _ j ⟨vs,x,rfl,okv⟩
 have e2:∀ z:PyData,cutD [PyData.int R,.int U,z] none (some 2)=[PyData.int R,.int U]:=fun z=>cutD_take _ 2
 refine ⟨_,.refl,?_⟩
 show gSeq (gFor _ _ _) _ _ _ _
 refine ⟨small4 (Nat.le_of_ble_eq_true rfl),by rw [e2];show 2+1≤sizeLine;omega,small4 (Nat.le_of_ble_eq_true rfl),?_⟩
 refine ⟨fun i env k=>∃ a b c:Vl,env=[.jnk,.tape,S,.d (bookPD R U ws),.d (.tuple (vs.map wayPD)),x,a,b,c],⟨_,_,_,rfl⟩,?_,?_⟩
 · rintro i y env k hy ⟨a,b,c,rfl⟩
   obtain ⟨us,oku,rfl⟩:∃ us,BookOk R U us∧y=bookPD R U us:=by
    rw [e2] at hy
    match i with
    | 0=>cases hy;exact ⟨ws,ok,rfl⟩
    | 1=>cases hy;exact ⟨vs,okv,rfl⟩
   have hl:=held_len oku.h
   refine ⟨2,rfl,⟨by decide,by decide⟩,fun i env k=>∃ a b:Vl,env=[.jnk,.tape,S,.d (bookPD R U ws),.d (.tuple (vs.map wayPD)),x,.d (bookPD R U us),a,b],⟨_,_,rfl⟩,?_,?_⟩
   · rintro i y env k hy ⟨a,b,rfl⟩
     refine ⟨R,U,us,rfl,oku.h,_,.refl,R,U,us,rfl,oku,?_⟩
     exact ⟨_,.refl,by rw [List.length_map];omega,_,_,rfl⟩
   · rintro env k ⟨a,b,rfl⟩
     exact ⟨_,_,_,rfl⟩
 · rintro env k ⟨a,b,c,rfl⟩
   exact ⟨_,.refl,rfl⟩
end
theorem all_mk {l:PySem.W.OpenLaw}{w:World}{K:PySem.W.Frag}{h:Heap}{mg:Str→Option Value}{fa f4:Addr}(X:K.In h) (G:h.Ns mainGlobals mg) (hfa:mg "law" = some (.ref fa)) (T:Txt mg) (tP:l.prog.given.tree=none)
 (D_law_tape:Def K mg "_law_tape" s_law_tape ["_law_script"]) (D_law_draw:Def K mg "_law_draw" s_law_draw ["_law_tape_here","_law_many"]) (D_law_gain:Def K mg "_law_gain" s_law_gain ["_law_tape_here"]) (D_law_gains:Def K mg "_law_gains" s_law_gains ["_law_tape_here","_law_purses"]) (D_law_nested:Def K mg "_law_nested" s_law_nested ["_law_tape_here","_law_rooms","_law_purses"]) (D_law_book:Def K mg "_law_book" s_law_book ["_law_tape_here","_law_most"]) (D_common_divisor:Def K mg "common_divisor" s_common_divisor ["numbers"]) (D_without_divisor:Def K mg "without_divisor" s_without_divisor ["numbers"]) (D_falls_of:Def K mg "falls_of" s_falls_of ["book","way"]) (D_cleared:Def K mg "cleared" s_cleared ["row","by","place"]) (D_settled_rows:Def K mg "settled_rows" s_settled_rows ["rows","width"]) (D_row_from:Def K mg "row_from" s_row_from ["settled","place","width"]) (D_held:Def K mg "held" s_held ["book"]) (D_law_whole:Def K mg "_law_whole" s_law_whole ["_law_thing"]) (D_law_are_whole:Def K mg "_law_are_whole" s_law_are_whole ["_law_thing","_law_many"]) (D_law_fall:Def K mg "_law_fall" s_law_fall ["_law_book_here","_law_total","_law_k"]) (D_law_common:Def K mg "_law_common" s_law_common ["_law_row"]) (D_law_lessened:Def K mg "_law_lessened" s_law_lessened ["_law_row"]) (D_law_rows_of:Def K mg "_law_rows_of" s_law_rows_of ["_law_book_here"]) (D_law_apart:Def K mg "_law_apart" s_law_apart ["_law_rows"]) (D_law_right:Def K mg "_law_right" s_law_right ["_law_book_here","_law_list"])
 {od4 an4:Option Addr} {sl4:Array (Option Value)} {oc4 kV4 dc4 pm4 cd4 ct4:Value} (a4:PySem.W.nsIn K mainGlobals "law" = some (some (.ref f4)))
 (l4:K.lookup f4=some ⟨oc4,od4,.func (PySem.W.fnOf "law" "law" (defArgs s_law) (defBody s_law) (defScope s_law) .none kV4 dc4 pm4 an4 cd4 ct4),sl4⟩) (c4:PySem.W.codeIn K cd4 "law" = true) (k4:PySem.W.keepIn K (.ref f4)=true) :
 ∃ fd:FuncData,(∀ (s:Shared) (v:Value),BindsTo s fd ⟨[v],[]⟩ [("_law_script",v)])∧∀ base:Heap,K.In base→base.Ns mainGlobals mg→base.NoSeer→FnOk l.prog w K mg base CX0 60 fa fd ["_law_script"] (spLaw K):=by
 have e:=hfa.symm.trans (PySem.W.mg_of X G a4)
 cases e
 have F4:=fun_mk (st:=s_law) l4 c4 k4
 refine ⟨PySem.W.fnOf "law" "law" (defArgs s_law) (defBody s_law) (defScope s_law) .none kV4 dc4 pm4 an4 cd4 ct4,fun s v=>.of_eq rfl,fun base _ _ hS=>?_⟩
 have c_law_tape:Cal l.prog w K mg base "_law_tape" 1 ["_law_script"] (spTape K):=ok_law_tape T D_law_tape
 have h_law_draw:Cal l.prog w K mg base "_law_draw" 1 ["_law_tape_here","_law_many"] spDraw:=ok_law_draw T D_law_draw
 have c_law_draw:Cal l.prog w K mg base "_law_draw" 1 ["_law_tape_here","_law_many"] (liftV gsDraw):=h_law_draw.imp imp_draw
 have c_law_gain:Cal l.prog w K mg base "_law_gain" 2 ["_law_tape_here"] (liftV gsGainV):=ok_law_gain T D_law_gain c_law_draw
 have c_law_gains:Cal l.prog w K mg base "_law_gains" 3 ["_law_tape_here","_law_purses"] (liftV gsGainsV):=ok_law_gains T D_law_gains c_law_gain
 have c_law_nested:Cal l.prog w K mg base "_law_nested" 4 ["_law_tape_here","_law_rooms","_law_purses"] (liftN gsNestedN):=ok_law_nested T D_law_nested c_law_gains c_law_draw
 have c_law_book:Cal l.prog w K mg base "_law_book" 5 ["_law_tape_here","_law_most"] (liftV gsBookN):=ok_law_book T D_law_book c_law_draw c_law_nested c_law_gains
 have c_common_divisor:Cal l.prog w K mg base "common_divisor" 1 ["numbers"] (liftV gsCommon):=ok_common_divisor T D_common_divisor
 have c_without_divisor:Cal l.prog w K mg base "without_divisor" 40 ["numbers"] (liftN gsNoDivL):=ok_without_divisorL T hS tP D_without_divisor c_common_divisor
 have c_falls_of:Cal l.prog w K mg base "falls_of" 1 ["book","way"] (liftN gsFallsOf):=ok_falls_of T D_falls_of
 have c_cleared:Cal l.prog w K mg base "cleared" 41 ["row","by","place"] (liftV gsClr):=ok_cleared T D_cleared c_without_divisor
 have c_settled_rows:Cal l.prog w K mg base "settled_rows" 42 ["rows","width"] (liftV gsSettle):=ok_settled_rows T D_settled_rows c_cleared
 have c_row_from:Cal l.prog w K mg base "row_from" 41 ["settled","place","width"] (liftN gsRowFrom):=ok_row_from T hS tP D_row_from c_without_divisor
 have c_held:Cal l.prog w K mg base "held" 43 ["book"] (liftN gsHeld):=ok_held T D_held c_falls_of c_settled_rows c_row_from
 have c_law_whole:Cal l.prog w K mg base "_law_whole" 1 ["_law_thing"] (liftV gsWhole):=ok_law_whole T D_law_whole
 have c_law_are_whole:Cal l.prog w K mg base "_law_are_whole" 2 ["_law_thing","_law_many"] (liftV gsLAreH):=ok_law_are_whole T D_law_are_whole c_law_whole
 have c_law_fall:Cal l.prog w K mg base "_law_fall" 1 ["_law_book_here","_law_total","_law_k"] (liftV gsFallS):=ok_law_fallS T D_law_fall
 have c_law_common:Cal l.prog w K mg base "_law_common" 1 ["_law_row"] (liftV gsCommonLT):=ok_law_commonLT T D_law_common
 have c_law_lessened:Cal l.prog w K mg base "_law_lessened" 40 ["_law_row"] (liftV gsLessH):=ok_law_lessened T hS tP D_law_lessened c_law_common
 have c_law_rows_of:Cal l.prog w K mg base "_law_rows_of" 1 ["_law_book_here"] (liftV gsRowsOf):=ok_law_rows_of T D_law_rows_of
 have c_law_apart:Cal l.prog w K mg base "_law_apart" 41 ["_law_rows"] (liftV gsApart):=ok_law_apart T D_law_apart c_law_lessened
 have c_law_right:Cal l.prog w K mg base "_law_right" 45 ["_law_book_here","_law_list"] (liftV gsRight75):=ok_law_right T D_law_right c_law_are_whole c_law_fall c_law_common c_law_apart c_law_rows_of
 exact ok_law T F4 c_law_tape c_law_draw c_law_book c_held c_law_right
theorem walk {l:PySem.W.OpenLaw}{q:Program}{loose:List Str}{XP:(Str→Option Value)→Heap→Prop}{YP:World→Heap→Prop}{d:DefRec}{K:Params→PySem.W.Frag}(hn:l.most=some 63) (hdf:d.params.defaults=[])
 (hY:∀ (w:World) (h:Heap),YP w h→(K w.params).In h) (hi:importsNone q=true)
 (F:∀ (w:World) (mg:Str→Option Value) (fa:Addr) (h:Heap),(K w.params).In h→h.Ns mainGlobals mg→mg d.name=some (.ref fa) →
  ∃ fd:FuncData,(∀ (s:Shared) (u:Value),BindsTo s fd ⟨[u],[]⟩ [("_law_script",u)])∧∀ base:Heap,(K w.params).In base→base.Ns mainGlobals mg→base.NoSeer→FnOk l.prog w (K w.params) mg base CX0 60 fa fd ["_law_script"] (spLaw (K w.params))) :
 PySem.W.WalkO q loose XP YP l.row.toRowW d [] (fun f vs=>PySem.call f vs):=
 L2.walk_ofS (n:=63) (k:=60) (x:="_law_script") (CX:=fun _=>CX0) (sp:=fun w=>spLaw (K w.params)) hn (by decide) hdf ⟨rfl,by decide,by decide,rfl⟩ hi hY F (fun _ _ a ns hl _ hS=>⟨a,ns,rfl,hS,hl,fun _=>rfl⟩) fun _ _ _ _ _ z=>z
end My
theorem PySem.W.Fast.tw14689443714253490959 : True := trivial
theorem PySem.W.Fast.tw5252709971453095501 : True := trivial
theorem PySem.W.Fast.tw17810033204021230487 : True := trivial
theorem PySem.W.Fast.tw7171383258677203445 : True := trivial
theorem PySem.W.Fast.tw9736422290246144723 : True := trivial
theorem PySem.W.Fast.tw11720397160490801655 : True := trivial
theorem PySem.W.Fast.tw1630533041082599402 : True := trivial
theorem PySem.W.Fast.tw11705651504861849336 : True := trivial
theorem PySem.W.Fast.tw3528775845912623725 : True := trivial
theorem PySem.W.Fast.tw7003834277076019886 : True := trivial
theorem PySem.W.Fast.tw6366276998625512384 : True := trivial
theorem PySem.W.Fast.tw17402399506962262099 : True := trivial
theorem PySem.W.Fast.tw2533002253011142444 : True := trivial
theorem PySem.W.Fast.tw3131442235544801075 : True := trivial
theorem PySem.W.Fast.tw1182997837957280937 : True := trivial
theorem PySem.W.Fast.tw3987503257099605079 : True := trivial
theorem PySem.W.Fast.tw4464050945686544936 : True := trivial
theorem PySem.W.Fast.tw13296451043256977081 : True := trivial
theorem PySem.W.Fast.tw17779651081015741509 : True := trivial
theorem PySem.W.Fast.tw8209455062843306968 : True := trivial
open PySem PySem.W PyProof.Rows
set_option maxRecDepth 100000 in
set_option maxHeartbeats 0 in
theorem PySem.Challenge.cw_fallsum_k75_held_sums_holds : PySem.Challenge.rw_fallsum_k75_held_sums.Holds := by
  w_on; o_law; k_head; (case hw => w_witness2)
  k_fill
  refine My.walk (l := PySem.Challenge.rw_fallsum_k75_held_sums) rfl rfl (fun w h Y => PySem.W.kIn_of Y) ?hi ?F
  (case hi => (first | rfl | decide +kernel | kernel_rfl))
  case F =>
    intro w mg fa h KX G hmg
    refine' My.all_mk KX G hmg ⟨PySem.W.mg_none_of KX G ?z_isinstance, PySem.W.mg_none_of KX G ?z_int, PySem.W.mg_none_of KX G ?z_bool, PySem.W.mg_none_of KX G ?z_str, PySem.W.mg_none_of KX G ?z_tuple, PySem.W.mg_none_of KX G ?z_len, PySem.W.mg_none_of KX G ?z_all, PySem.W.mg_none_of KX G ?z_sum, PySem.W.mg_none_of KX G ?z_range, PySem.W.mg_none_of KX G ?z_list, PySem.W.mg_none_of KX G ?z_zip, PySem.W.mg_none_of KX G ?z_enumerate, PySem.W.mg_none_of KX G ?z_min, PySem.W.mg_none_of KX G ?z_max, PySem.W.mg_none_of KX G ?z_abs, PySem.W.mg_none_of KX G ?z_any, PySem.W.mg_none_of KX G ?z_sorted, PySem.W.mg_none_of KX G ?z_set⟩ rfl
      (L2.def_mk KX G ?a_law_tape ?l_law_tape ?c_law_tape ?k_law_tape (fun _ _ _ _ _ _ us hl => match us, hl with | [_], _ => rfl))
      (L2.def_mk KX G ?a_law_draw ?l_law_draw ?c_law_draw ?k_law_draw (fun _ _ _ _ _ _ us hl => match us, hl with | [_, _], _ => rfl))
      (L2.def_mk KX G ?a_law_gain ?l_law_gain ?c_law_gain ?k_law_gain (fun _ _ _ _ _ _ us hl => match us, hl with | [_], _ => rfl))
      (L2.def_mk KX G ?a_law_gains ?l_law_gains ?c_law_gains ?k_law_gains (fun _ _ _ _ _ _ us hl => match us, hl with | [_, _], _ => rfl))
      (L2.def_mk KX G ?a_law_nested ?l_law_nested ?c_law_nested ?k_law_nested (fun _ _ _ _ _ _ us hl => match us, hl with | [_, _, _], _ => rfl))
      (L2.def_mk KX G ?a_law_book ?l_law_book ?c_law_book ?k_law_book (fun _ _ _ _ _ _ us hl => match us, hl with | [_, _], _ => rfl))
      (L2.def_mk KX G ?a_common_divisor ?l_common_divisor ?c_common_divisor ?k_common_divisor (fun _ _ _ _ _ _ us hl => match us, hl with | [_], _ => rfl))
      (L2.def_mk KX G ?a_without_divisor ?l_without_divisor ?c_without_divisor ?k_without_divisor (fun _ _ _ _ _ _ us hl => match us, hl with | [_], _ => rfl))
      (L2.def_mk KX G ?a_falls_of ?l_falls_of ?c_falls_of ?k_falls_of (fun _ _ _ _ _ _ us hl => match us, hl with | [_, _], _ => rfl))
      (L2.def_mk KX G ?a_cleared ?l_cleared ?c_cleared ?k_cleared (fun _ _ _ _ _ _ us hl => match us, hl with | [_, _, _], _ => rfl))
      (L2.def_mk KX G ?a_settled_rows ?l_settled_rows ?c_settled_rows ?k_settled_rows (fun _ _ _ _ _ _ us hl => match us, hl with | [_, _], _ => rfl))
      (L2.def_mk KX G ?a_row_from ?l_row_from ?c_row_from ?k_row_from (fun _ _ _ _ _ _ us hl => match us, hl with | [_, _, _], _ => rfl))
      (L2.def_mk KX G ?a_held ?l_held ?c_held ?k_held (fun _ _ _ _ _ _ us hl => match us, hl with | [_], _ => rfl))
      (L2.def_mk KX G ?a_law_whole ?l_law_whole ?c_law_whole ?k_law_whole (fun _ _ _ _ _ _ us hl => match us, hl with | [_], _ => rfl))
      (L2.def_mk KX G ?a_law_are_whole ?l_law_are_whole ?c_law_are_whole ?k_law_are_whole (fun _ _ _ _ _ _ us hl => match us, hl with | [_, _], _ => rfl))
      (L2.def_mk KX G ?a_law_fall ?l_law_fall ?c_law_fall ?k_law_fall (fun _ _ _ _ _ _ us hl => match us, hl with | [_, _, _], _ => rfl))
      (L2.def_mk KX G ?a_law_common ?l_law_common ?c_law_common ?k_law_common (fun _ _ _ _ _ _ us hl => match us, hl with | [_], _ => rfl))
      (L2.def_mk KX G ?a_law_lessened ?l_law_lessened ?c_law_lessened ?k_law_lessened (fun _ _ _ _ _ _ us hl => match us, hl with | [_], _ => rfl))
      (L2.def_mk KX G ?a_law_rows_of ?l_law_rows_of ?c_law_rows_of ?k_law_rows_of (fun _ _ _ _ _ _ us hl => match us, hl with | [_], _ => rfl))
      (L2.def_mk KX G ?a_law_apart ?l_law_apart ?c_law_apart ?k_law_apart (fun _ _ _ _ _ _ us hl => match us, hl with | [_], _ => rfl))
      (L2.def_mk KX G ?a_law_right ?l_law_right ?c_law_right ?k_law_right (fun _ _ _ _ _ _ us hl => match us, hl with | [_, _], _ => rfl))
      ?a4 ?l4 ?c4 ?k4
    (case z_isinstance => k_is)
    (case z_int => k_is)
    (case z_bool => k_is)
    (case z_str => k_is)
    (case z_tuple => k_is)
    (case z_len => k_is)
    (case z_all => k_is)
    (case z_sum => k_is)
    (case z_range => k_is)
    (case z_list => k_is)
    (case z_zip => k_is)
    (case z_enumerate => k_is)
    (case z_min => k_is)
    (case z_max => k_is)
    (case z_abs => k_is)
    (case z_any => k_is)
    (case z_sorted => k_is)
    (case z_set => k_is)
    (case a_law_tape => k_is)
    (case l_law_tape => k_is)
    (case c_law_tape => k_is)
    (case k_law_tape => k_is)
    (case a_law_draw => k_is)
    (case l_law_draw => k_is)
    (case c_law_draw => k_is)
    (case k_law_draw => k_is)
    (case a_law_gain => k_is)
    (case l_law_gain => k_is)
    (case c_law_gain => k_is)
    (case k_law_gain => k_is)
    (case a_law_gains => k_is)
    (case l_law_gains => k_is)
    (case c_law_gains => k_is)
    (case k_law_gains => k_is)
    (case a_law_nested => k_is)
    (case l_law_nested => k_is)
    (case c_law_nested => k_is)
    (case k_law_nested => k_is)
    (case a_law_book => k_is)
    (case l_law_book => k_is)
    (case c_law_book => k_is)
    (case k_law_book => k_is)
    (case a_common_divisor => k_is)
    (case l_common_divisor => k_is)
    (case c_common_divisor => k_is)
    (case k_common_divisor => k_is)
    (case a_without_divisor => k_is)
    (case l_without_divisor => k_is)
    (case c_without_divisor => k_is)
    (case k_without_divisor => k_is)
    (case a_falls_of => k_is)
    (case l_falls_of => k_is)
    (case c_falls_of => k_is)
    (case k_falls_of => k_is)
    (case a_cleared => k_is)
    (case l_cleared => k_is)
    (case c_cleared => k_is)
    (case k_cleared => k_is)
    (case a_settled_rows => k_is)
    (case l_settled_rows => k_is)
    (case c_settled_rows => k_is)
    (case k_settled_rows => k_is)
    (case a_row_from => k_is)
    (case l_row_from => k_is)
    (case c_row_from => k_is)
    (case k_row_from => k_is)
    (case a_held => k_is)
    (case l_held => k_is)
    (case c_held => k_is)
    (case k_held => k_is)
    (case a_law_whole => k_is)
    (case l_law_whole => k_is)
    (case c_law_whole => k_is)
    (case k_law_whole => k_is)
    (case a_law_are_whole => k_is)
    (case l_law_are_whole => k_is)
    (case c_law_are_whole => k_is)
    (case k_law_are_whole => k_is)
    (case a_law_fall => k_is)
    (case l_law_fall => k_is)
    (case c_law_fall => k_is)
    (case k_law_fall => k_is)
    (case a_law_common => k_is)
    (case l_law_common => k_is)
    (case c_law_common => k_is)
    (case k_law_common => k_is)
    (case a_law_lessened => k_is)
    (case l_law_lessened => k_is)
    (case c_law_lessened => k_is)
    (case k_law_lessened => k_is)
    (case a_law_rows_of => k_is)
    (case l_law_rows_of => k_is)
    (case c_law_rows_of => k_is)
    (case k_law_rows_of => k_is)
    (case a_law_apart => k_is)
    (case l_law_apart => k_is)
    (case c_law_apart => k_is)
    (case k_law_apart => k_is)
    (case a_law_right => k_is)
    (case l_law_right => k_is)
    (case c_law_right => k_is)
    (case k_law_right => k_is)
    (case a4 => k_is)
    (case l4 => k_is)
    (case c4 => k_is)
    (case k4 => k_is)
