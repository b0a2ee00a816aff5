import PyProof.Rows.All
import Wide.All
import OpenK.AllK
import Wide.FinOn
import Lean
import PyProof.EqAt
import PyProof.EqKinds
import PyProof.TupleCall
import KE.KTryMore
import OpenK.KOwn
import PyProof.Rows.CatchOwn
import PyProof.StrLawsTight
import PyProof.StrLawsJoin
import PyProof.ExcInit
import PyProof.ExcClass2
import PyProof.InstStore
import PyProof.AttrMissSeq
import PySem.Challenge.RW_fallsum_k65_whole_walks_are_rows
set_option Elab.async false
set_option linter.all false
set_option maxRecDepth 100000
namespace L2
open PySem PySem.Spec PyProof.Rows
noncomputable abbrev Key:=Sum Int Str
noncomputable def keyIs:Key→Value→Bool
 | .inl k,v=>Value.isInt k v
 | .inr x,v=>Value.isStrOf x v
noncomputable def keyH (w:World):Key→Int
 | .inl k=>hashInt k
 | .inr x=>hashStr w x
theorem keyIs_shape:∀ {k:Key}{v:Value},keyIs k v=true→(∃ i t,k=Sum.inl i∧v=Value.int i t)∨(∃ x t,k=Sum.inr x∧v=Value.str x t)
 | .inl i,v,h=>by
  obtain ⟨t,e⟩:=Value.isInt_shape (k:=i) (v:=v) h
  exact .inl ⟨i,t,rfl,e⟩
 | .inr x,v,h=>by
  obtain ⟨t,e⟩:=Value.isStrOf_shape (x:=x) (v:=v) h
  exact .inr ⟨x,t,rfl,e⟩
theorem keyIs_int (i:Int) (t:Tok):keyIs (.inl i) (.int i t)=true:=by simp [keyIs,Value.isInt]
theorem keyIs_str (x:Str) (t:Tok):keyIs (.inr x) (.str x t)=true:=by simp [keyIs,Value.isStrOf]
theorem key_ll (a b:Int):decide ((Sum.inl a:Key)=Sum.inl b)=(a==b):=by
 by_cases e:a=b
 · subst e;simp
 · have h:¬ (Sum.inl a:Key)=Sum.inl b:=fun q=>e (Sum.inl.inj q)
   rw [decide_eq_false h]
   exact (beq_eq_false_iff_ne.mpr e).symm
theorem key_rr (a b:Str):decide ((Sum.inr a:Key)=Sum.inr b)=decide (a=b):=by
 by_cases e:a=b
 · subst e;simp
 · have h:¬ (Sum.inr a:Key)=Sum.inr b:=fun q=>e (Sum.inr.inj q)
   rw [decide_eq_false h,decide_eq_false e]
theorem key_lr (a:Int) (b:Str):decide ((Sum.inl a:Key)=Sum.inr b)=false:=decide_eq_false (fun q=>nomatch q)
theorem key_rl (a:Str) (b:Int):decide ((Sum.inr a:Key)=Sum.inl b)=false:=decide_eq_false (fun q=>nomatch q)
noncomputable def mixKind (prog:Program) (w:World):PySem.KeyKind prog w Key where
 is:=keyIs
 hash:=keyH w
 inj:=fun v a b ha hb=>by
  rcases keyIs_shape ha with ⟨i,t,rfl,rfl⟩ | ⟨x,t,rfl,rfl⟩
  · rcases keyIs_shape hb with ⟨j,u,rfl,e⟩ | ⟨y,u,rfl,e⟩
    · injection e with e1 _;rw [e1]
    · exact nomatch e
  · rcases keyIs_shape hb with ⟨j,u,rfl,e⟩ | ⟨y,u,rfl,e⟩
    · exact nomatch e
    · injection e with e1 _;rw [e1]
 byValue:=fun k v h=>by
  rcases keyIs_shape h with ⟨i,t,rfl,rfl⟩ | ⟨x,t,rfl,rfl⟩<;>rfl
 pyHash:=fun hv h=>by
  rcases keyIs_shape hv with ⟨i,t,rfl,rfl⟩ | ⟨x,t,rfl,rfl⟩
  · exact wpAny_pyHash_int h
  · exact wpAny_pyHash_str h
 eqBool:=fun hu hv h=>by
  rcases keyIs_shape hu with ⟨i,t,rfl,rfl⟩ | ⟨x,t,rfl,rfl⟩
  · rcases keyIs_shape hv with ⟨j,u,rfl,rfl⟩ | ⟨y,u,rfl,rfl⟩
    · rw [key_ll] at h;exact wpAny_eqBool_int h
    · rw [key_lr] at h;exact SeqAt.EqAt.int_str i t y u _ _ _ _ h
  · rcases keyIs_shape hv with ⟨j,u,rfl,rfl⟩ | ⟨y,u,rfl,rfl⟩
    · rw [key_rl] at h;exact SeqAt.EqAt.str_int x t j u _ _ _ _ h
    · rw [key_rr] at h;exact wpAny_eqBool_str h
 «strs»:=fun k x t v h=>by
  rcases keyIs_shape h with ⟨i,u,rfl,e⟩ | ⟨y,u,rfl,e⟩
  · exact nomatch e
  · injection e with e1 _
    subst e1
    cases v<;>rfl
theorem mixKind_int (prog:Program) (w:World) (i:Int) (t:Tok):(mixKind prog w).is (.inl i) (.int i t)=true:=keyIs_int i t
theorem mixKind_str (prog:Program) (w:World) (x:Str) (t:Tok):(mixKind prog w).is (.inr x) (.str x t)=true:=keyIs_str x t
inductive V where
 | non | bl (b:Bool) | int (i:Int) | str (x:Str) | byt (b:Array UInt8) | flt (b:UInt64) | ref (a:Addr) | ty (n:String)
 deriving DecidableEq
noncomputable def RelV:V→Value→Prop
 | .non,u=>u=Value.none
 | .bl b,u=>u=Value.bool b
 | .int i,u=>∃ t,u=Value.int i t
 | .str x,u=>∃ t,u=Value.str x t
 | .byt b,u=>∃ t,u=Value.bytes b t
 | .flt b,u=>∃ t,u=Value.float b t
 | .ref a,u=>u=Value.ref a
 | .ty n,u=>u=Value.type n
noncomputable abbrev Vals:List V→List Value→Prop:=Paired RelV
theorem Vals.length {xs:List V}{us:List Value}(r:Vals xs us):xs.length=us.length:=Paired.length r
theorem Vals.get:∀ {xs:List V}{us:List Value}{i:Nat}{x:V},Vals xs us→xs[i]? = some x→∃ u,us[i]? = some u∧RelV x u
 | _,_,_,_,.nil,e=>by simp at e
 | _,_,0,_,.cons r _,e=>by simp at e;subst e;exact ⟨_,rfl,r⟩
 | _,_,i+1,x,.cons _ t,e=>by
  obtain ⟨u,h1,h2⟩:=Vals.get (i:=i) (x:=x) t (by simpa using e)
  exact ⟨u,by simpa using h1,h2⟩
theorem Vals.append:∀ {xs ys:List V}{us ws:List Value},Vals xs us→Vals ys ws→Vals (xs++ys) (us++ws)
 | _,_,_,_,.nil,s=>s
 | _,_,_,_,.cons r t,s=>.cons r (Vals.append t s)
theorem Vals.take:∀ {xs:List V}{us:List Value}(n:Nat),Vals xs us→Vals (xs.take n) (us.take n)
 | _,_,0,_=>.nil
 | _,_,_+1,.nil=>.nil
 | _,_,n+1,.cons r t=>.cons r (Vals.take n t)
theorem Vals.drop:∀ {xs:List V}{us:List Value}(n:Nat),Vals xs us→Vals (xs.drop n) (us.drop n)
 | _,_,0,r=>r
 | _,_,_+1,.nil=>.nil
 | _,_,n+1,.cons _ t=>Vals.drop n t
noncomputable def RelO:Option V→Option Value→Prop
 | some v,some u=>RelV v u
 | none,none=>True
 | _,_=>False
noncomputable def KV {κ:Type}:List (κ×V)→List (κ×Value)→Prop:=Paired fun (p:κ×V) (q:κ×Value)=>p.1=q.1∧RelV p.2 q.2
noncomputable def kV:Key→V
 | .inl i=>.int i
 | .inr x=>.str x
inductive HO where
 /-- a list -/
 | lst (xs:List V)
 /-- a tuple (never changes) -/
 | tup (xs:List V)
 /-- a dict whose keys are ints and texts;one whose keys are tuples of ints and texts (the empty one is both) -/
 | dK (kvs:List (Key×V)) | dT (kvs:List (List Key×V))
 /-- a set of ints: its members,its size -/
 | set (S:Int→Bool) (n:Nat)
 /-- an instance of the class at C,its dict at dx,its attributes -/
 | ins (C dx:Addr) (fs:List (Str×V))
 /-- the dict of the instance at x -/
 | own (x:Addr)
 /-- the dict of an exception -/
 | xd (fs:List (Str×V))
 /-- a bound method,f of x -/
 | met (f x:Addr)
 /-- a range object lo,lo+1,.. below hi -/
 | rng (lo hi:Int)
 /-- a thing that is known to the object (the script;a dict while a loop walks it): read,never written while it is so -/
 | frz (o:Obj) (u:HO)
 /-- a code object's table -/
 | tbl (ps:Array Value)
 /-- any other thing,by what is true of its one object (a def of one's own: SetO a S n:=HO.ext fun h=>..) -/
 | ext (φ:Heap→Prop)
noncomputable abbrev Hp:=Addr→Option HO
noncomputable def upd (H:Hp) (a:Addr) (o:HO):Hp:=fun b=>if b=a then some o else H b
theorem upd_same {H:Hp}{a:Addr}{o:HO}:upd H a o a=some o:=by unfold upd;rw [if_pos rfl]
theorem upd_ne {H:Hp}{a b:Addr}{o:HO}(h:b≠a):upd H a o b=H b:=by unfold upd;rw [if_neg h]
theorem ne_of {H:Hp}{a b:Addr}{o u:HO}(h:H a=some o) (h':H b=some u) (d:o≠u):a≠b:=by
 intro e;subst e;rw [h] at h';exact d (Option.some.inj h')
theorem ne_of_none {H:Hp}{a b:Addr}{o:HO}(h:H a=some o) (h':H b=none):a≠b:=by
 intro e;subst e;rw [h] at h';cases h'
section
variable (P:Program) (w:World)
noncomputable def ObjOk (H:Hp) (h:Heap) (a:Addr):HO→Prop
 | .lst xs=>xs.length≤sizeLine∧∃ (its:List Value) (n:Nat),Vals xs its∧h.get? a=some { cls:=.type "list",data:=.seq its.toArray n }
 | .tup xs=>xs.length≤sizeLine∧∃ its:List Value,Vals xs its∧IsTup h a its.toArray
 | .dK kvs=>kvs.length≤sizeLine∧(a==sysModules)=false∧∃ vs,KV kvs vs∧h.DictOf (mixKind P w) a vs
 | .dT kvs=>kvs.length≤sizeLine∧(a==sysModules)=false∧∃ xs:List (List Key×Addr×Value),
  Paired (fun (p:List Key×V) (q:List Key×Addr×Value)=>p.1=q.1∧H q.2.1=some (.tup (p.1.map kV))∧RelV p.2 q.2.2) kvs xs ∧
  ∃ o es ep,h.get? a=some o∧o.ExactDict∧o.data = .dict es ep∧es.toList=xs.map (entryOfKey (tupleKind (mixKind P w)))∧(xs.map (·.1)).Nodup
 | .set S n=>h.SetOf (intKind P w) a S n
 | .ins C dx fs=>H dx=some (.own a)∧fs.length≤1000∧dx≠a∧h.get? a=some (PySem.W.instObj C dx) ∧
  ∃ mA,h.Ns1 dx mA∧(∀ f,RelO (fs.lookup f) (mA f))∧PySem.Within mA (fs.map (·.1))
 | .own _=>∃ o,h.get? a=some o
 | .xd fs=>∃ mA,h.Ns1 a mA∧∀ f,RelO (fs.lookup f) (mA f)
 | .rng lo hi=>∃ t u v,h.get? a=some { cls:=.type "range",data:=.fields #[.int lo t,.int hi u,.int 1 v] }
 | .frz o u=>h.get? a=some o∧ObjOk H h a u
 | .tbl ps=>h.get? a=some { cls:=.none,data:=.fields ps }
 | .met f x=>h.get? a=some (PySem.W.methodObj (.ref f) (.ref x))
 | .ext φ=>φ h∧(∃ o,h.get? a=some o)∧∀ h1 h2:Heap,φ h1→(∀ o,h1.get? a=some o→h2.get? a=some o)→φ h2
noncomputable def HOk (H:Hp) (h:Heap):Prop:=∀ a o,H a=some o→ObjOk P w H h a o
end
section
variable {P:Program}{w:World}{H H':Hp}{h h':Heap}{a:Addr}{o:HO}
theorem ObjOk.lt (x:ObjOk P w H h a o):a<h.objs.size:=by
 cases o with
 | lst xs=>obtain ⟨_,_,_,_,e⟩:=x;exact Heap.lt_size e
 | tup xs=>obtain ⟨_,_,_,p⟩:=x;exact p.lt
 | dK kvs=>obtain ⟨_,_,_,_,o,_,_,e,_⟩:=x;exact Heap.lt_size e
 | dT kvs=>obtain ⟨_,_,_,_,o,_,_,e,_⟩:=x;exact Heap.lt_size e
 | set S n=>obtain ⟨o,_,_,_,e,_⟩:=x;exact Heap.lt_size e
 | ins C dx fs=>obtain ⟨_,_,_,e,_⟩:=x;exact Heap.lt_size e
 | own y=>obtain ⟨_,e⟩:=x;exact Heap.lt_size e
 | xd fs=>obtain ⟨_,⟨_,_,_,e,_⟩,_⟩:=x;exact Heap.lt_size e
 | rng lo hi=>obtain ⟨_,_,_,e⟩:=x;exact Heap.lt_size e
 | frz ob u=>obtain ⟨e,_⟩:=x;exact Heap.lt_size e
 | tbl ps=>exact Heap.lt_size (show h.get? a=some _ from x)
 | met f y=>exact Heap.lt_size (show h.get? a=some _ from x)
 | ext φ=>obtain ⟨_,⟨_,e⟩,_⟩:=x;exact Heap.lt_size e
theorem Paired.mapP {α β:Type}{F G:α→β→Prop}:∀ {l₁:List α}{l₂:List β},Paired F l₁ l₂→(∀ a b,F a b→G a b)→Paired G l₁ l₂
 | _,_,.nil,_=>.nil
 | _,_,.cons r t,f=>.cons (f _ _ r) (Paired.mapP t f)
theorem ObjOk.stay (x:ObjOk P w H h a o) (k:∀ b u,(b=a∨H b=some (.own a))→h.get? b=some u→h'.get? b=some u)
 (ho:∀ b,H b=some (.own a)→H' b=some (.own a)) (ht:∀ b xs,H b=some (.tup xs)→H' b=some (.tup xs)):ObjOk P w H' h' a o:=by
 induction o with
 | lst xs=>obtain ⟨z,its,n,r,e⟩:=x;exact ⟨z,its,n,r,k _ _ (.inl rfl) e⟩
 | tup xs=>obtain ⟨z,its,r,ob,e,c⟩:=x;exact ⟨z,its,r,ob,k _ _ (.inl rfl) e,c⟩
 | dK kvs=>obtain ⟨z,y,vs,r,ob,es,ep,e,c⟩:=x;exact ⟨z,y,vs,r,ob,es,ep,k _ _ (.inl rfl) e,c⟩
 | dT kvs=>
  obtain ⟨z,y,xs,r,ob,es,ep,e,c⟩:=x
  exact ⟨z,y,xs,Paired.mapP r fun p q z=>⟨z.1,ht _ _ z.2.1,z.2.2⟩,ob,es,ep,k _ _ (.inl rfl) e,c⟩
 | set S n=>obtain ⟨ob,es,ep,t,e,c⟩:=x;exact ⟨ob,es,ep,t,k _ _ (.inl rfl) e,c⟩
 | ins C dx fs=>
  obtain ⟨d,z,ne,e,mA,⟨od,es,ep,e2,c⟩,r⟩:=x
  exact ⟨ho _ d,z,ne,k _ _ (.inl rfl) e,mA,⟨od,es,ep,k _ _ (.inr d) e2,c⟩,r⟩
 | own y=>obtain ⟨ob,e⟩:=x;exact ⟨ob,k _ _ (.inl rfl) e⟩
 | xd fs=>obtain ⟨mA,⟨od,es,ep,e,c⟩,r⟩:=x;exact ⟨mA,⟨od,es,ep,k _ _ (.inl rfl) e,c⟩,r⟩
 | rng lo hi=>obtain ⟨t,u,v,e⟩:=x;exact ⟨t,u,v,k _ _ (.inl rfl) e⟩
 | frz ob u ih=>obtain ⟨e,q⟩:=x;exact ⟨k _ _ (.inl rfl) e,ih q⟩
 | tbl ps=>
  have e:h.get? a=some { cls:=.none,data:=.fields ps }:=x
  show h'.get? a=some { cls:=.none,data:=.fields ps }
  exact k a _ (.inl rfl) e
 | met f y=>
  have e:h.get? a=some (PySem.W.methodObj (.ref f) (.ref y)):=x
  show h'.get? a=some (PySem.W.methodObj (.ref f) (.ref y))
  exact k a _ (.inl rfl) e
 | ext φ=>obtain ⟨p,⟨o,e⟩,st⟩:=x;exact ⟨st _ _ p fun o q=>k _ _ (.inl rfl) q,⟨o,k _ _ (.inl rfl) e⟩,st⟩
theorem HOk.lt (x:HOk P w H h) (e:H a=some o):a<h.objs.size:=(x a o e).lt
theorem HOk.fresh (x:HOk P w H h) (e:h.objs.size≤a):H a=none:=by
 cases q:H a with
 | none=>rfl
 | some u=>exact absurd (Nat.lt_of_lt_of_le (x.lt q) e) (Nat.lt_irrefl _)
theorem HOk.kept (x:HOk P w H h) (k:∀ b u,h.get? b=some u→h'.get? b=some u):HOk P w H h':=fun a o e=>
 (x a o e).stay (fun b u _ q=>k b u q) (fun _ q=>q) fun _ _ q=>q
theorem HOk.laid (x:HOk P w H h) (k:∀ b u,h.get? b=some u→h'.get? b=some u) (hp:h.objs.size≤a) (new:ObjOk P w (upd H a o) h' a o):HOk P w (upd H a o) h':=fun b u e=>by
 have hn:=x.fresh hp
 by_cases hb:b=a
 · subst hb;rw [upd_same] at e;cases e;exact new
 · rw [upd_ne hb] at e
   exact (x b u e).stay (fun c v _ q=>k c v q) (fun c q=>by rw [upd_ne (ne_of_none q hn)];exact q) fun c xs q=>by rw [upd_ne (ne_of_none q hn)];exact q
end
noncomputable def Rd (H:Hp) (a:Addr) (u:HO):Prop:=H a=some u∨∃ o,H a=some (.frz o u)
theorem Rd.ok {P:Program}{w:World}{H:Hp}{h:Heap}{a:Addr}{u:HO}(r:Rd H a u) (x:HOk P w H h):ObjOk P w H h a u:=by
 rcases r with r | ⟨o,r⟩
 · exact x a u r
 · obtain ⟨_,q⟩:=x a _ r
   exact q
noncomputable def Mut:Option HO→Prop
 | some (.lst _)=>True
 | some (.dK _)=>True
 | some (.dT _)=>True
 | some (.set _ _)=>True
 | some (.ins _ _ _)=>True
 | some (.ext _)=>True
 | _=>False
section
variable {P:Program}{w:World}{H:Hp}{h h':Heap}{x e:Addr}{o':HO}
theorem HOk.write (ok:HOk P w H h) (mu:Mut (H x)) (he:e=x∨H e=some (.own x)) (k:∀ b u,b≠e→h.get? b=some u→h'.get? b=some u) (heo:∃ u,h'.get? e=some u)
 (new:ObjOk P w (upd H x o') h' x o'):HOk P w (upd H x o') h':=fun b u q=>by
 have nown:∀ c y,H c=some (.own y)→c≠x:=fun c y r z=>by subst z;rw [r] at mu;exact mu
 have ntup:∀ c xs,H c=some (.tup xs)→c≠x:=fun c xs r z=>by subst z;rw [r] at mu;exact mu
 by_cases hb:b=x
 · subst hb;rw [upd_same] at q;cases q;exact new
 · rw [upd_ne hb] at q
   by_cases hbe:b=e
   · have q':H b=some (.own x):=by
      rcases he with z | z
      · exact absurd (hbe.trans z) hb
      · rw [hbe];exact z
     rw [q] at q';cases q'
     obtain ⟨v,hv⟩:=heo
     exact ⟨v,by rw [hbe];exact hv⟩
   · refine (ok b u q).stay (fun c v hc r=>k c v ?_ r) (fun c r=>by rw [upd_ne (nown c b r)];exact r) fun c xs r=>by rw [upd_ne (ntup c xs r)];exact r
     rcases hc with rfl | hc
     · exact hbe
     · rintro rfl
       rcases he with z | z
       · exact nown c b hc z
       · rw [hc] at z;cases z;exact hb rfl
end
structure Un (fs ex:List Addr) (H H':Hp) (h h':Heap):Prop where
 keep:∀ b o,h.get? b=some o→H b=none→b∉fs→b∉ex→h'.get? b=some o
 slot:∀ b o,h.get? b=some o→H b=none→b∈fs→b∉ex→∃ sl,h'.get? b=some { o with slots:=sl }
 free:∀ b o,h.get? b=some o→H b=none→b∉ex→H' b=none
 there:∀ b o,h.get? b=some o→b∉ex→∃ o',h'.get? b=some o'
 tups:∀ b xs,H b=some (.tup xs)→H' b=some (.tup xs)
 frzs:∀ b o u,H b=some (.frz o u)→H' b=some (.frz o u)
 tbls:∀ b ps,H b=some (.tbl ps)→∃ more,H' b=some (.tbl (ps++more))
section
variable {fs fs' ex ex':List Addr}{H H1 H2:Hp}{h h1 h2 h':Heap}{a x e:Addr}{o:HO}
theorem Un.any (u:Un fs ex H H1 h h1) {b:Addr}{ob:Obj}(q:h.get? b=some ob) (n:H b=none) (hx:b∉ex):∃ sl,h1.get? b=some { ob with slots:=sl }:=by
 by_cases hb:b∈fs
 · exact u.slot b ob q n hb hx
 · exact ⟨ob.slots,u.keep b ob q n hb hx⟩
theorem Un.kept (k:∀ b u,h.get? b=some u→h'.get? b=some u):Un fs ex H H h h':=
 ⟨fun b ob q _ _ _=>k b ob q,fun b ob q _ _ _=>⟨ob.slots,k b ob q⟩,fun _ _ _ n _=>n,fun b ob q _=>⟨ob,k b ob q⟩,fun _ _ q=>q,fun _ _ _ q=>q,fun _ ps q=>⟨#[],by rw [q];simp⟩⟩
theorem Un.refl:Un fs ex H H h h:=Un.kept fun _ _ q=>q
theorem Un.laid (k:∀ b u,h.get? b=some u→h'.get? b=some u) (hp:h.objs.size≤a) (hn:H a=none):Un fs ex H (upd H a o) h h' where
 keep:=fun b u q _ _ _=>k b u q
 slot:=fun b u q _ _ _=>⟨u.slots,k b u q⟩
 free:=fun b u q n _=>by rw [upd_ne (Nat.ne_of_lt (Nat.lt_of_lt_of_le (Heap.lt_size q) hp))];exact n
 there:=fun b u q _=>⟨u,k b u q⟩
 tups:=fun b xs q=>by rw [upd_ne (ne_of_none q hn)];exact q
 frzs:=fun b u xs q=>by rw [upd_ne (ne_of_none q hn)];exact q
 tbls:=fun b ps q=>⟨#[],by rw [upd_ne (ne_of_none q hn),q];simp⟩
theorem Un.write (mu:Mut (H x)) (he:e=x∨H e=some (.own x)) (k:∀ b u,b≠e→h.get? b=some u→h'.get? b=some u) (heo:∃ u,h'.get? e=some u):Un fs ex H (upd H x o) h h':=by
 have hx:∀ b,H b=none→b≠x:=fun b n z=>by subst z;rw [n] at mu;exact mu
 have hb:∀ b,H b=none→b≠e:=fun b n z=>by
  subst z
  rcases he with r | r
  · exact hx b n r
  · rw [n] at r;cases r
 have hm:∀ b u,H b=some u→¬ Mut (some u)→b≠x:=fun b u q nm z=>by subst z;rw [q] at mu;exact nm mu
 refine ⟨fun b u q n _ _=>k b u (hb b n) q,fun b u q n _ _=>⟨u.slots,k b u (hb b n) q⟩,fun b u q n _=>by rw [upd_ne (hx b n)];exact n,fun b u q _=>?_,
  fun b xs q=>by rw [upd_ne (hm b _ q fun z=>z)];exact q,fun b u xs q=>by rw [upd_ne (hm b _ q fun z=>z)];exact q,fun b ps q=>⟨#[],by rw [upd_ne (hm b _ q fun z=>z),q];simp⟩⟩
 by_cases hbe:b=e
 · subst hbe;exact heo
 · exact ⟨u,k b u hbe q⟩
end
noncomputable def trk (h:Heap) (H:Hp):List Addr:=(List.range h.objs.size).filter fun a=>(H a).isSome
noncomputable def hidT (h:Heap) (H:Hp):Heap:=PySem.W.hideAll h (trk h H)
theorem hidT_size (h:Heap) (H:Hp):(hidT h H).objs.size=h.objs.size:=PySem.W.hideAll_size _ _
theorem hidT_get {h:Heap}{H:Hp}{b:Addr}{o:Obj}(e:h.get? b=some o) (n:H b=none):(hidT h H).get? b=some o:=
 PySem.W.hideAll_get _ e fun hm=>by
  have q:(H b).isSome=true:=(List.mem_filter.mp hm).2
  rw [n] at q;simp at q
theorem of_hidT {h:Heap}{H:Hp}{b:Addr}{o:Obj}(e:(hidT h H).get? b=some o):h.get? b=some o∧H b=none:=by
 have e':h.get? b=some o:=PySem.W.of_hideAll (trk h H) e
 refine ⟨e',?_⟩
 cases q:H b with
 | none=>rfl
 | some x=>
  have hm:b∈trk h H:=List.mem_filter.mpr ⟨List.mem_range.mpr (Heap.lt_size e'),by simp [q]⟩
  have z:(hidT h H).get? b=none:=PySem.W.hideAll_none (trk h H) hm
  rw [z] at e;cases e
noncomputable def allNews (g h:Heap) (L:Addr):List (Addr×Obj):=(List.range h.objs.size).filterMap fun a=>if a=L∨(g.get? a).isSome=true then none else (h.get? a).map fun o=>(a,o)
noncomputable def rest (g h:Heap) (L d:Addr):List (Addr×Obj):=(allNews g h L).filter fun p=>decide (p.1≠d)
structure Mod (K:PySem.W.Frag) (mg:Str→Option Value) (base:Heap):Prop where
 kin:K.In base
 glob:base.Ns mainGlobals mg
 blt:∃ mb,base.Ns builtinsNs mb∧∀ x:Str,x≠"__name__"→mb x=bootBuiltins x
 nolimit:base.NoLimit
structure Cx where
 prog:Program
 w:World
 K:PySem.W.Frag
 mg:Str→Option Value
 base:Heap
 A:Around
 N:List Str
 s₀:Shared
 H₀:Hp
 env:Env
 outer:List Env
 stack:List Env
 ex:List Addr
 fn:Str→Bool
 calm:Bool
 pn:List (Addr×Obj)
 xe:Value→Shared→Prop
noncomputable def frs (l:List Env):List Addr:=l.filterMap (·.frame)
noncomputable abbrev Cx.fs (X:Cx):List Addr:=frs X.outer
noncomputable def Vis (sc:Scope) (x:Str):Prop:=sc.names.lookup x=some .local ∨ sc.names.lookup x=some .cell∨sc.names.lookup x=some .free
noncomputable def Loc (sc:Scope) (x:Str):Prop:=sc.names.lookup x=some .local ∨ sc.names.lookup x=some .cell
noncomputable def Look (env:Env) (h:Heap) (m:Str→Option Value) (x:Str) (u:Value):Prop:=
 (env.kindOf x=some .local ∧ m x=some u)∨((env.kindOf x=some .cell∨env.kindOf x=some .free)∧∃ c,env.cells.lookup x=some c∧h.IsCell c (some u))
structure Cx.Ok (X:Cx):Prop where
 mod:Mod X.K X.mg X.base
 kind:X.env.scope.kind = .function
 glob:X.env.globals=mainGlobals
 blt:X.env.builtins=builtinsNs
 above:X.s₀.heap.objs.size≤X.env.locals
 inj:∀ x y c,X.env.cells.lookup x=some c→X.env.cells.lookup y=some c→x=y
 has:∀ x,(X.env.kindOf x=some .cell∨X.env.kindOf x=some .free)→∃ c,X.env.cells.lookup x=some c
 cab:∀ x c,X.fn x=true→X.env.cells.lookup x=some c→X.s₀.heap.objs.size≤c
 hd:X.calm=true→X.A.handled=none
 frames:X.A.frames=some X.stack
 stk:X.stack=X.outer∨(X.stack=X.env::X.outer∧X.env.frame=some X.env.locals)
 exf:∀ b∈X.ex,b≠X.env.locals∧∀ x c,X.env.cells.lookup x=some c→c≠b
 bs:∀ b o,X.base.get? b=some o→X.s₀.heap.get? b=some o∧X.H₀ b=none
 bsz:X.base.objs.size≤X.s₀.heap.objs.size
 noex:∀ b o,X.base.get? b=some o→b∉X.ex
 exfs:∀ b∈X.ex,b∉X.fs
 funs:X.s₀.heap.FunFrames X.base X.outer
 frf:∀ b∈X.fs,X.H₀ b=none
structure Inv (X:Cx) (pins:List (Addr×Obj)) (σ:List (Option V)) (H:Hp) (s:Shared):Prop where
 ok:X.Ok
 os:s.os=X.s₀.os
 bare:AllBare s.gens
 base:Un X.fs X.ex X.H₀ H X.s₀.heap s.heap
 loc:∃ m,s.heap.Ns X.env.locals m∧∀ (i:Nat) (x:Str) (v:V),X.N[i]? = some x→σ[i]? = some (some v)→Vis X.env.scope x→∃ u,RelV v u∧Look X.env s.heap m x u
 cell:∀ x c,X.env.cells.lookup x=some c→∃ v,s.heap.IsCell c v
 free:H X.env.locals=none
 freeC:∀ x c,X.env.cells.lookup x=some c→H c=none
 pin:∀ p∈X.pn++pins,s.heap.get? p.1=some p.2∧H p.1=none∧p.1≠X.env.locals∧p.1∉X.fs∧∀ v,p.2.data≠.cell v
 hok:HOk X.prog X.w H s.heap
 len:σ.length=X.N.length
section
variable {X:Cx}{pins:List (Addr×Obj)}{σ:List (Option V)}{H H':Hp}{s:Shared}{h':Heap}
theorem Cx.Ok.nofr (ok:X.Ok) {b:Addr}{o:Obj}(e:X.base.get? b=some o):b∉X.fs:=fun hb=>by
 have:=(ok.funs.mem hb).1
 rw [e] at this;cases this
theorem Inv.bs (I:Inv X pins σ H s):∀ b o,X.base.get? b=some o→s.heap.get? b=some o∧H b=none:=fun b o e=>
 ⟨I.base.keep b o (I.ok.bs b o e).1 (I.ok.bs b o e).2 (I.ok.nofr e) (I.ok.noex b o e),I.base.free b o (I.ok.bs b o e).1 (I.ok.bs b o e).2 (I.ok.noex b o e)⟩
theorem Inv.bk (I:Inv X pins σ H s):∀ b o,X.base.get? b=some o→s.heap.get? b=some o:=fun b o e=>(I.bs b o e).1
theorem Inv.mod (I:Inv X pins σ H s):Mod X.K X.mg X.base:=I.ok.mod
theorem Inv.kIn (I:Inv X pins σ H s):X.K.In s.heap:=I.ok.mod.kin.keeps I.bk
theorem Inv.lt (I:Inv X pins σ H s):X.env.locals<s.heap.objs.size:=let ⟨_,hn,_⟩:=I.loc;hn.lt
theorem Inv.sz (I:Inv X pins σ H s):X.s₀.heap.objs.size≤s.heap.objs.size:=Nat.le_trans I.ok.above (Nat.le_of_lt I.lt)
theorem Inv.nofs (I:Inv X pins σ H s) {a:Addr}(h:s.heap.objs.size≤a):a∉X.fs:=fun hb=>by
 obtain ⟨_,o,ho,_⟩:=I.ok.funs.mem hb
 exact absurd (Nat.lt_of_lt_of_le (Heap.lt_size ho) (Nat.le_trans I.sz h)) (Nat.lt_irrefl _)
theorem Inv.cne (I:Inv X pins σ H s):∀ x c,X.env.cells.lookup x=some c→c≠X.env.locals:=fun x c e z=>by
 obtain ⟨v,o,ho,hd⟩:=I.cell x c e
 obtain ⟨m,⟨o',es,ep,ho',hd',_⟩,_⟩:=I.loc
 rw [z,ho'] at ho;cases ho;rw [hd'] at hd;cases hd
theorem Inv.funs (I:Inv X pins σ H s):s.heap.FunFrames X.base X.outer:=by
 have all:∀ (l:List Env),(∀ b∈frs l,b∈X.fs)→X.s₀.heap.FunFrames X.base l→s.heap.FunFrames X.base l:=by
  intro l
  induction l with
  | nil=>intro _ _;trivial
  | cons env r ih=>
   intro hs hl
   obtain ⟨hk,⟨L,o,hf,hn,ho,hd⟩,hr⟩:=hl
   have hL:L∈X.fs:=hs L (by unfold frs;rw [List.filterMap_cons,hf];exact List.mem_cons_self)
   obtain ⟨sl,e⟩:=I.base.slot L o ho (I.ok.frf L hL) hL fun z=>I.ok.exfs L z hL
   exact ⟨hk,⟨L,_,hf,hn,e,hd⟩,ih (fun b hb=>hs b (by unfold frs;rw [List.filterMap_cons,hf];exact List.mem_cons_of_mem _ hb)) hr⟩
 exact all X.outer (fun _ hb=>hb) I.ok.funs
theorem Inv.stack (I:Inv X pins σ H s):s.heap.FunFrames X.base X.stack:=by
 rcases I.ok.stk with e | ⟨e,hf⟩
 · rw [e];exact I.funs
 · rw [e]
   obtain ⟨m,hn,_⟩:=I.loc
   refine .cons (by rw [I.ok.kind];decide) hf hn ?_ I.funs
   exact Heap.get?_none_of_le (Nat.le_trans I.ok.bsz I.ok.above)
theorem Inv.stkSub (I:Inv X pins σ H s):∀ b∈frs X.stack,b∈X.env.locals::X.fs:=fun b hb=>by
 rcases I.ok.stk with e | ⟨e,hf⟩
 · rw [e] at hb;exact List.mem_cons_of_mem _ hb
 · rw [e] at hb
   unfold frs at hb
   rw [List.filterMap_cons,hf] at hb
   exact hb
theorem Inv.stkFree (I:Inv X pins σ H s):∀ b∈frs X.stack,H b=none:=fun b hb=>by
 rcases List.mem_cons.mp (I.stkSub b hb) with e | hb
 · rw [e];exact I.free
 · obtain ⟨_,o,ho,_⟩:=I.ok.funs.mem hb
   exact I.base.free b o ho (I.ok.frf b hb) fun z=>I.ok.exfs b z hb
theorem Inv.step {g':Array GenState}{t':Nat}{d':Drawn}{ch:List Addr}(I:Inv X pins σ H s)
 (hch:∀ b∈ch,(b∈X.ex∨X.s₀.heap.objs.size≤b)∧b≠X.env.locals∧(∀ x c,X.env.cells.lookup x=some c→c≠b)∧∀ p∈X.pn++pins,p.1≠b)
 (keep:∀ b o,b≠X.env.locals→b∉X.fs→b∉ch→s.heap.get? b=some o→H b=none→h'.get? b=some o)
 (slot:∀ b o,b≠X.env.locals→b∈X.fs→b∉ch→s.heap.get? b=some o→H b=none→∃ sl,h'.get? b=some { o with slots:=sl }) (free:∀ b o,b∉ch→s.heap.get? b=some o→H b=none→H' b=none)
 (there:∀ b o,b∉ch→s.heap.get? b=some o→∃ o',h'.get? b=some o')
 (tups:∀ b xs,H b=some (.tup xs)→H' b=some (.tup xs)) (frzs:∀ b o u,H b=some (.frz o u)→H' b=some (.frz o u)) (tbls:∀ b ps,H b=some (.tbl ps)→∃ more,H' b=some (.tbl (ps++more)))
 (ns:∀ m,s.heap.Ns X.env.locals m→h'.Ns X.env.locals m) (hok:HOk X.prog X.w H' h') (hg:AllBare g') :
 Inv X pins σ H' { s with heap:=h',gens:=g',drawn:=d',toks:=t' }:=by
 have neL:∀ b o,X.s₀.heap.get? b=some o→b≠X.env.locals:=fun b o e=>Nat.ne_of_lt (Nat.lt_of_lt_of_le (Heap.lt_size e) I.ok.above)
 have neC:∀ b o,X.s₀.heap.get? b=some o→b∉X.ex→b∉ch:=fun b o e hx hb=>by
  rcases (hch b hb).1 with z | z
  · exact hx z
  · exact absurd (Nat.lt_of_lt_of_le (Heap.lt_size e) z) (Nat.lt_irrefl _)
 have cellK:∀ x c,X.env.cells.lookup x=some c→∀ v,s.heap.IsCell c v→h'.IsCell c v:=fun x c e v ⟨o,ho,hd⟩=>by
  have nch:c∉ch:=fun z=>(hch c z).2.2.1 x c e rfl
  by_cases hc:c∈X.fs
  · obtain ⟨sl,q⟩:=slot c o (I.cne x c e) hc nch ho (I.freeC x c e)
    exact ⟨_,q,hd⟩
  · exact ⟨o,keep c o (I.cne x c e) hc nch ho (I.freeC x c e),hd⟩
 refine ⟨I.ok,I.os,hg,⟨fun b o e n hb hx=>?_,fun b o e n hb hx=>?_,fun b o e n hx=>?_,fun b o e hx=>?_,fun b xs e=>tups b xs (I.base.tups b xs e),fun b o xs e=>frzs b o xs (I.base.frzs b o xs e),fun b ps e=>?_⟩,?_,fun x c e=>?_,?_,fun x c e=>?_,fun p hp=>?_,hok,I.len⟩
 · exact keep b o (neL b o e) hb (neC b o e hx) (I.base.keep b o e n hb hx) (I.base.free b o e n hx)
 · obtain ⟨sl,e1⟩:=I.base.slot b o e n hb hx
   obtain ⟨sl',e2⟩:=slot b _ (neL b o e) hb (neC b o e hx) e1 (I.base.free b o e n hx)
   exact ⟨sl',e2⟩
 · obtain ⟨o',e1⟩:=I.base.there b o e hx
   exact free b o' (neC b o e hx) e1 (I.base.free b o e n hx)
 · obtain ⟨o',e1⟩:=I.base.there b o e hx
   exact there b o' (neC b o e hx) e1
 · obtain ⟨m1,e1⟩:=I.base.tbls b ps e
   obtain ⟨m2,e2⟩:=tbls b _ e1
   exact ⟨m1++m2,by rw [e2,Array.append_assoc]⟩
 · obtain ⟨m,hn,hl⟩:=I.loc
   refine ⟨m,ns m hn,fun i x v e1 e2 e3=>?_⟩
   obtain ⟨u,r,l⟩:=hl i x v e1 e2 e3
   refine ⟨u,r,?_⟩
   rcases l with l | ⟨k,c,e,z⟩
   · exact .inl l
   · exact .inr ⟨k,c,e,cellK x c e _ z⟩
 · obtain ⟨v,z⟩:=I.cell x c e
   exact ⟨v,cellK x c e v z⟩
 · obtain ⟨m,⟨o,_,_,ho,_⟩,_⟩:=I.loc
   exact free _ o (fun z=>(hch _ z).2.1 rfl) ho I.free
 · obtain ⟨v,o,ho,hd⟩:=I.cell x c e
   exact free c o (fun z=>(hch c z).2.2.1 x c e rfl) ho (I.freeC x c e)
 · obtain ⟨e,n,ne,nf,d⟩:=I.pin p hp
   have nch:p.1∉ch:=fun z=>(hch p.1 z).2.2.2 p hp rfl
   exact ⟨keep p.1 p.2 ne nf nch e n,free p.1 p.2 nch e n,ne,nf,d⟩
theorem Inv.un {t':Nat}(I:Inv X pins σ H s) (u:Un X.fs [] H H' s.heap h') (hok:HOk X.prog X.w H' h'):Inv X pins σ H' { s with heap:=h',toks:=t' }:=by
 obtain ⟨m,⟨o,es,ep,ho,r⟩,_⟩:=id I.loc
 obtain ⟨sl,hL⟩:=u.any ho I.free (by simp)
 exact I.step (g':=s.gens) (d':=s.drawn) (ch:=[]) (fun _ z=>nomatch z) (fun b o _ hb _ e n=>u.keep b o e n hb (by simp)) (fun b o _ hb _ e n=>u.slot b o e n hb (by simp)) (fun b o _ e n=>u.free b o e n (by simp)) (fun b o _ e=>u.there b o e (by simp)) u.tups u.frzs u.tbls (fun m' hm=>by
  obtain ⟨o',es',ep',ho',r'⟩:=hm
  rw [ho] at ho';cases ho'
  exact ⟨_,es',ep',hL,r'⟩) hok I.bare
theorem Inv.call {g':Array GenState}{t':Nat}{d':Drawn}{ch:List Addr}(I:Inv X pins σ H s) (u:Un (frs X.stack) ch H H' s.heap h') (hok:HOk X.prog X.w H' h') (hg:AllBare g')
 (hch:∀ b∈ch,(b∈X.ex∨X.s₀.heap.objs.size≤b)∧b≠X.env.locals∧(∀ x c,X.env.cells.lookup x=some c→c≠b)∧∀ p∈X.pn++pins,p.1≠b) :
 Inv X pins σ H' { s with heap:=h',gens:=g',drawn:=d',toks:=t' }:=by
 obtain ⟨m,⟨o,es,ep,ho,r⟩,_⟩:=id I.loc
 obtain ⟨sl,hL⟩:=u.any ho I.free fun z=>(hch _ z).2.1 rfl
 exact I.step (ch:=ch) hch (fun b o hL hb hc e n=>u.keep b o e n (fun z=>(List.mem_cons.mp (I.stkSub b z)).elim hL hb) hc) (fun b o _ _ hc e n=>u.any e n hc) (fun b o hc e n=>u.free b o e n hc) (fun b o hc e=>u.there b o e hc) u.tups u.frzs u.tbls (fun m' hm=>by
  obtain ⟨o',es',ep',ho',r'⟩:=hm
  rw [ho] at ho';cases ho'
  exact ⟨_,es',ep',hL,r'⟩) hok hg
theorem Inv.turned {t':Nat}{it:Addr}(I:Inv X pins σ H s) (k:∀ b o,b≠it→s.heap.get? b=some o→h'.get? b=some o) (hn:H it=none) (hL:it≠X.env.locals)
 (h1:it∈X.ex∨X.s₀.heap.objs.size≤it) (h2:∀ x c,X.env.cells.lookup x=some c→c≠it) (h3:∀ p∈X.pn++pins,p.1≠it):Inv X pins σ H { s with heap:=h',toks:=t' }:=by
 have nit:∀ b u,H b=some u→b≠it:=fun b u e z=>by rw [z,hn] at e;cases e
 refine I.step (g':=s.gens) (d':=s.drawn) (ch:=[it]) (fun b hb=>?_) (fun b o _ _ hc e _=>k b o (fun z=>hc (by simp [z])) e) (fun b o _ _ hc e _=>⟨o.slots,k b o (fun z=>hc (by simp [z])) e⟩) (fun _ _ _ _ n=>n)
  (fun b o hc e=>⟨o,k b o (fun z=>hc (by simp [z])) e⟩) (fun _ _ e=>e) (fun _ _ _ e=>e) (fun b ps e=>⟨#[],by rw [e];simp⟩) (fun m hm=>?_) (fun b u e=>?_) I.bare
 · have e:b=it:=by simpa using hb
   subst e
   exact ⟨h1,hL,h2,h3⟩
 · obtain ⟨o,es,ep,ho,r⟩:=hm
   exact ⟨o,es,ep,k _ o (Ne.symm hL) ho,r⟩
 · refine (I.hok b u e).stay (fun c v hc q=>k c v ?_ q) (fun _ q=>q) fun _ _ q=>q
   rcases hc with z | z
   · rw [z];exact nit b u e
   · exact nit c _ z
theorem Inv.tok (I:Inv X pins σ H s) (t:Nat):Inv X pins σ H { s with toks:=t }:=I.un (h':=s.heap) (t':=t) Un.refl I.hok
theorem Inv.kept {t':Nat}(I:Inv X pins σ H s) (k:∀ b u,s.heap.get? b=some u→h'.get? b=some u):Inv X pins σ H { s with heap:=h',toks:=t' }:=I.un (Un.kept k) (I.hok.kept k)
theorem Inv.laid {a:Addr}{o:HO}{t':Nat}(I:Inv X pins σ H s) (k:∀ b u,s.heap.get? b=some u→h'.get? b=some u) (hp:s.heap.objs.size≤a) (new:ObjOk X.prog X.w (upd H a o) h' a o) :
 Inv X pins σ (upd H a o) { s with heap:=h',toks:=t' }:=I.un (Un.laid k hp (I.hok.fresh hp)) (I.hok.laid k hp new)
theorem Inv.write {x e:Addr}{o:HO}{t':Nat}(I:Inv X pins σ H s) (mu:Mut (H x)) (he:e=x∨H e=some (.own x)) (k:∀ b u,b≠e→s.heap.get? b=some u→h'.get? b=some u) (heo:∃ u,h'.get? e=some u)
 (new:ObjOk X.prog X.w (upd H x o) h' x o):Inv X pins σ (upd H x o) { s with heap:=h',toks:=t' }:=I.un (Un.write mu he k heo) (I.hok.write mu he k heo new)
theorem Inv.pins_of {pins':List (Addr×Obj)}(I:Inv X pins σ H s) (h:∀ p∈pins',s.heap.get? p.1=some p.2∧H p.1=none∧p.1≠X.env.locals∧p.1∉X.fs∧∀ v,p.2.data≠.cell v):Inv X pins' σ H s:=
 ⟨I.ok,I.os,I.bare,I.base,I.loc,I.cell,I.free,I.freeC,fun p hp=>(List.mem_append.mp hp).elim (fun z=>I.pin p (List.mem_append_left _ z)) (h p),I.hok,I.len⟩
theorem nodup_ix {N:List Str}(hN:N.Nodup) {i j:Nat}{x:Str}(a:N[i]? = some x) (b:N[j]? = some x):i=j:=by
 obtain ⟨h1,e1⟩:=List.getElem?_eq_some_iff.mp a
 obtain ⟨h2,e2⟩:=List.getElem?_eq_some_iff.mp b
 exact (List.getElem_inj hN).mp (e1.trans e2.symm)
theorem store_ok2 {M:Model}{A:Around}{E:Value→Shared→Prop}{i:Nat}{x:Str}{v:V}{u:Value}{Q:Unit→Shared→Prop}(I:Inv X pins σ H s) (hN:X.N.Nodup) (hi:X.N[i]? = some x) (hx:Loc X.env.scope x) (r:RelV v u)
 (h:∀ s',Inv X pins (σ.set i (some v)) H s'→(∃ a,Heap.SameBut a s.heap s'.heap∧(a=X.env.locals∨X.env.cells.lookup x=some a))→Q () s') (hf:X.fn x=true∨X.env.scope.names.lookup x=some .local := by first | exact .inl rfl | exact .inr rfl | assumption):wpAny M A (storeName X.env x u) Q E s:=by
 obtain ⟨m,hn,hl⟩:=id I.loc
 have hcls:(X.env.scope.kind == .class||(X.env.scope.kind == .module&&X.env.locals != X.env.globals))=false:=by rw [I.ok.kind];rfl
 have hiσ:i < σ.length:=by rw [I.len];exact (List.getElem?_eq_some_iff.mp hi).1
 have cne:=I.cne
 have tracked:∀ {a:Addr} {h':Heap},(∃ o,s.heap.get? a=some o∧H a=none)→Heap.SameBut a s.heap h'→HOk X.prog X.w H h':=fun {a h'} ha hs b ob e=>by
  obtain ⟨_,_,hfree⟩:=ha
  refine (I.hok b ob e).stay (fun c w' hc q=>(hs.2 c ?_).trans q) (fun _ q=>q) fun _ _ q=>q
  rintro rfl
  rcases hc with rfl | hc
  · rw [hfree] at e;cases e
  · rw [hfree] at hc;cases hc
 rcases hx with hk | hk
 · refine wpAny_storeName_local hk hn (fun h' hn' hs=>?_) hcls
   obtain ⟨oL,_,_,hoL,_⟩:=id hn
   refine h _ ⟨I.ok,I.os,I.bare,⟨fun b o e n hb hx=>?_,fun b o e n hb hx=>?_,I.base.free,fun b o e hx=>?_,I.base.tups,I.base.frzs,I.base.tbls⟩,⟨_,hn',fun j y v' e1 e2 e3=>?_⟩,fun y c e=>?_,I.free,I.freeC,fun p hp=>?_,tracked ⟨oL,hoL,I.free⟩ hs,by simpa using I.len⟩ ⟨_,hs,.inl rfl⟩
   · exact (hs.2 b (Nat.ne_of_lt (Nat.lt_of_lt_of_le (Heap.lt_size e) I.ok.above))).trans (I.base.keep b o e n hb hx)
   · obtain ⟨sl,e1⟩:=I.base.slot b o e n hb hx
     exact ⟨sl,(hs.2 b (Nat.ne_of_lt (Nat.lt_of_lt_of_le (Heap.lt_size e) I.ok.above))).trans e1⟩
   · obtain ⟨o',e1⟩:=I.base.there b o e hx
     exact ⟨o',(hs.2 b (Nat.ne_of_lt (Nat.lt_of_lt_of_le (Heap.lt_size e) I.ok.above))).trans e1⟩
   · by_cases hj:j=i
     · subst hj
       rw [hi] at e1;cases e1
       rw [List.getElem?_set_self hiσ] at e2
       cases e2
       exact ⟨u,r,.inl ⟨hk,by simp⟩⟩
     · rw [List.getElem?_set_ne (Ne.symm hj)] at e2
       obtain ⟨u',r',q⟩:=hl j y v' e1 e2 e3
       refine ⟨u',r',?_⟩
       rcases q with ⟨k,e⟩ | ⟨k,c,e,z⟩
       · refine .inl ⟨k,?_⟩
         have:y≠x:=fun e=>hj (nodup_ix hN e1 (e▸hi))
         simp [this,e]
       · exact .inr ⟨k,c,e,z.sameBut hs (cne y c e)⟩
   · obtain ⟨w',z⟩:=I.cell y c e
     exact ⟨w',z.sameBut hs (cne y c e)⟩
   · obtain ⟨e,n,ne,nf,d⟩:=I.pin p hp
     exact ⟨(hs.2 p.1 ne).trans e,n,ne,nf,d⟩
 · have hfn:X.fn x=true:=by
    rcases hf with z | z
    · exact z
    · rw [z] at hk;cases hk
   obtain ⟨c,hc⟩:=I.ok.has x (.inl hk)
   obtain ⟨w',z⟩:=I.cell x c hc
   refine wpAny_storeName_cell I.ok.kind hk hc z (fun h' hc' hs=>?_)
   obtain ⟨oc,hoc,hocd⟩:=id z
   refine h { s with heap:=h' } ⟨I.ok,I.os,I.bare,⟨fun b o e n hb hx=>?_,fun b o e n hb hx=>?_,I.base.free,fun b o e hx=>?_,I.base.tups,I.base.frzs,I.base.tbls⟩,⟨m,hn.sameBut hs (Ne.symm (cne x c hc)),fun j y v' e1 e2 e3=>?_⟩,fun y c' e=>?_,I.free,I.freeC,fun p hp=>?_,tracked ⟨oc,hoc,I.freeC x c hc⟩ hs,by simpa using I.len⟩ ⟨c,hs,.inr hc⟩
   · exact (hs.2 b (Nat.ne_of_lt (Nat.lt_of_lt_of_le (Heap.lt_size e) (I.ok.cab x c hfn hc)))).trans (I.base.keep b o e n hb hx)
   · obtain ⟨sl,e1⟩:=I.base.slot b o e n hb hx
     exact ⟨sl,(hs.2 b (Nat.ne_of_lt (Nat.lt_of_lt_of_le (Heap.lt_size e) (I.ok.cab x c hfn hc)))).trans e1⟩
   · obtain ⟨o',e1⟩:=I.base.there b o e hx
     exact ⟨o',(hs.2 b (Nat.ne_of_lt (Nat.lt_of_lt_of_le (Heap.lt_size e) (I.ok.cab x c hfn hc)))).trans e1⟩
   · by_cases hj:j=i
     · subst hj
       rw [hi] at e1;cases e1
       rw [List.getElem?_set_self hiσ] at e2
       cases e2
       exact ⟨u,r,.inr ⟨.inl hk,c,hc,hc'⟩⟩
     · rw [List.getElem?_set_ne (Ne.symm hj)] at e2
       obtain ⟨u',r',q⟩:=hl j y v' e1 e2 e3
       refine ⟨u',r',?_⟩
       rcases q with q | ⟨k,c',e,z'⟩
       · exact .inl q
       · refine .inr ⟨k,c',e,z'.sameBut hs ?_⟩
         rintro rfl
         exact hj (nodup_ix hN e1 (I.ok.inj _ _ _ e hc▸hi))
   · by_cases hcc:c'=c
     · subst hcc;exact ⟨_,hc'⟩
     · obtain ⟨w2,z2⟩:=I.cell y c' e
       exact ⟨w2,z2.sameBut hs hcc⟩
   · obtain ⟨e,n,ne,nf,d⟩:=I.pin p hp
     refine ⟨(hs.2 p.1 ?_).trans e,n,ne,nf,d⟩
     intro q
     rw [q,hoc] at e
     have q':oc=p.2:=Option.some.inj e
     exact d w' (by rw [← q'];exact hocd)
theorem store_ok {M:Model}{A:Around}{E:Value→Shared→Prop}{i:Nat}{x:Str}{v:V}{u:Value}{Q:Unit→Shared→Prop}(I:Inv X pins σ H s) (hN:X.N.Nodup) (hi:X.N[i]? = some x) (hx:Loc X.env.scope x) (r:RelV v u)
 (h:∀ s',Inv X pins (σ.set i (some v)) H s'→Q () s') (hf:X.fn x=true∨X.env.scope.names.lookup x=some .local := by first | exact .inl rfl | exact .inr rfl | assumption):wpAny M A (storeName X.env x u) Q E s:=
 store_ok2 I hN hi hx r (fun s' I' _=>h s' I') hf
theorem Inv.call' {s':Shared}{ch:List Addr}(I:Inv X pins σ H s) (ho:s'.os=s.os) (u:Un (frs X.stack) ch H H' s.heap s'.heap) (hok:HOk X.prog X.w H' s'.heap) (hg:AllBare s'.gens)
 (hch:∀ b∈ch,(b∈X.ex∨X.s₀.heap.objs.size≤b)∧b≠X.env.locals∧(∀ x c,X.env.cells.lookup x=some c→c≠b)∧∀ p∈X.pn++pins,p.1≠b):Inv X pins σ H' s':=by
 obtain ⟨h',g',d',t',o'⟩:=s'
 have e:o'=s.os:=ho
 subst e
 exact I.call (g':=g') (t':=t') (d':=d') u hok hg hch
end
noncomputable abbrev XK:=Value→Option Addr→Hp→Prop
noncomputable abbrev St:=List (Option V)
noncomputable abbrev VK:=V→Hp→Prop
noncomputable abbrev TE:=St→Hp→VK→Prop
noncomputable abbrev TT:=St→Hp→(Bool→Hp→Prop)→Prop
noncomputable abbrev TA:=St→Hp→(List V→Hp→Prop)→Prop
structure Ends where
 nx:St→Hp→Prop
 rt:VK
 bk:St→Hp→Prop:=fun _ _=>False
 ct:St→Hp→Prop:=fun _ _=>False
noncomputable abbrev TS:=Ends→St→Hp→Prop
noncomputable def EP (X:Cx) (pins:List (Addr×Obj)) (σ:St) (Q:VK) (u:Value) (s':Shared):Prop:=∃ v H',Inv X pins σ H' s'∧RelV v u∧Q v H'
noncomputable def TP (X:Cx) (pins:List (Addr×Obj)) (σ:St) (Q:Bool→Hp→Prop) (b:Bool) (s':Shared):Prop:=∃ H',Inv X pins σ H' s'∧Q b H'
noncomputable def AP (X:Cx) (pins:List (Addr×Obj)) (σ:St) (Q:List V→Hp→Prop) (us:List Value) (s':Shared):Prop:=∃ vs H',Inv X pins σ H' s'∧Vals vs us∧Q vs H'
noncomputable def SP (X:Cx) (pins:List (Addr×Obj)) (D:Ends) (f:Flow) (s':Shared):Prop:=
 match f with
 | .next=>∃ σ' H',Inv X pins σ' H' s'∧D.nx σ' H'
 | .brk=>∃ σ' H',Inv X pins σ' H' s'∧D.bk σ' H'
 | .cont=>∃ σ' H',Inv X pins σ' H' s'∧D.ct σ' H'
 | .ret u=>∃ v σ' H',Inv X pins σ' H' s'∧RelV v u∧D.rt v H'
noncomputable def PE (X:Cx) (e:Expr) (t:TE):Prop:=
 ∀ (pins:List (Addr×Obj)) (s:Shared) (σ:St) (H:Hp) (Q:VK),Inv X pins σ H s→t σ H Q→wpAny (model X.prog X.w) X.A (eval e X.env) (EP X pins σ Q) X.xe s
noncomputable def PT (X:Cx) (e:Expr) (t:TT):Prop:=
 ∀ (pins:List (Addr×Obj)) (s:Shared) (σ:St) (H:Hp) (Q:Bool→Hp→Prop),Inv X pins σ H s→t σ H Q→wpAny (model X.prog X.w) X.A (isTrue e X.env (eval e X.env)) (TP X pins σ Q) X.xe s
noncomputable def PW (X:Cx) (e:Expr) (t:TT):Prop:=
 ∀ (whole:Sem Value) (pins:List (Addr×Obj)) (s:Shared) (σ:St) (H:Hp) (Q:Bool→Hp→Prop),Inv X pins σ H s→t σ H Q→wpAny (model X.prog X.w) X.A (isTrue e X.env whole) (TP X pins σ Q) X.xe s
theorem PW.pt {X:Cx}{e:Expr}{t:TT}(h:PW X e t):PT X e t:=h _
noncomputable def PA (X:Cx) (es:List Expr) (t:TA):Prop:=
 ∀ (pos:Pos) (pins:List (Addr×Obj)) (s:Shared) (σ:St) (H:Hp) (Q:List V→Hp→Prop),Inv X pins σ H s→t σ H Q→wpAny (model X.prog X.w) X.A (spliced (backTo pos (starEach es X.env))) (AP X pins σ Q) X.xe s
noncomputable def PS (X:Cx) (st:Stmt) (t:TS):Prop:=
 ∀ (pins:List (Addr×Obj)) (s:Shared) (σ:St) (H:Hp) (D:Ends),Inv X pins σ H s→t D σ H→wpAny (model X.prog X.w) X.A (exec st X.env) (SP X pins D) X.xe s
noncomputable def PSs (X:Cx) (st:List Stmt) (t:TS):Prop:=
 ∀ (pins:List (Addr×Obj)) (s:Shared) (σ:St) (H:Hp) (D:Ends),Inv X pins σ H s→t D σ H→wpAny (model X.prog X.w) X.A (execs st X.env) (SP X pins D) X.xe s
theorem thn {α:Type}{t:Sem α}{Q Q':α→Shared→Prop}{M:Model}{A:Around}{E:Value→Shared→Prop}{s:Shared}(h:wpAny M A t Q E s) (hQ:∀ a s,Q a s→Q' a s):wpAny M A t Q' E s:=wpAny_mono h hQ fun _ _ x=>x
section
variable {X:Cx}
noncomputable def tVar (i:Nat):TE:=fun σ H Q=>∃ v,σ[i]? = some (some v)∧Q v H
noncomputable def tC (v:V):TE:=fun _ H Q=>Q v H
theorem pe_var {i:Nat}{x:Str}{pos:Pos}(hN:X.N[i]? = some x) (hv:Vis X.env.scope x) (hd:(x==("__debug__":Str))=false:=by decide) (hcd:(x==("__classdict__":Str))=false:=by decide):PE X (.Name x pos) (tVar i):=by
 intro pins s σ H Q I h
 obtain ⟨v,e,h⟩:=h
 obtain ⟨m,hn,hl⟩:=I.loc
 obtain ⟨u,r,l⟩:=hl i x v hN e hv
 have fin:EP X pins σ Q u s:=⟨v,H,I,r,h⟩
 rcases l with ⟨hk,hm⟩ | ⟨hk,c,hc,hcell⟩
 · exact wpAny_Name (wpAny_loadName_local I.ok.kind hk hn hm fin) hd
 · rcases hk with hk | hk
   · exact wpAny_Name (wpAny_loadName_cell I.ok.kind hk hc hcell fin) hd
   · exact wpAny_Name (wpAny_loadName_free I.ok.kind hk hc hcell fin hcd) hd
theorem pe_int {i j pos}:PE X (.Constant (.int i) j pos) (tC (.int i)):=fun _ _ _ H _ I h=>wpAny_Constant_int ⟨.int i,H,I.tok _,⟨_,rfl⟩,h⟩
theorem pe_bl {b j pos}:PE X (.Constant (.bool b) j pos) (tC (.bl b)):=fun _ _ _ H _ I h=>Constant_bool ⟨.bl b,H,I,rfl,h⟩
theorem pe_str {x j pos}:PE X (.Constant (.str x) j pos) (tC (.str x)):=fun _ _ _ H _ I h=>Calls.Constant_str ⟨.str x,H,I.tok _,⟨_,rfl⟩,h⟩
noncomputable def Gl (X:Cx) (x:Str):Prop:=X.env.kindOf x=some .globalImplicit
theorem ld_glob {E:Value→Shared→Prop}{pins:List (Addr×Obj)}{s:Shared}{σ:St}{H:Hp}{x:Str}{u:Value}{pos:Pos}{Q:Value→Shared→Prop}(I:Inv X pins σ H s) (hg:Gl X x) (hm:X.mg x=some u) (h:Q u s)
 (hd:(x==("__debug__":Str))=false:=by decide):wpAny (model X.prog X.w) X.A (eval (.Name x pos) X.env) Q E s:=
 Calls.Name_function_global I.ok.kind hg (Calls.loadGlobal_global (by rw [I.ok.glob];exact I.mod.glob.keeps I.bk) hm h) hd
theorem ld_blt {E:Value→Shared→Prop}{pins:List (Addr×Obj)}{s:Shared}{σ:St}{H:Hp}{x:Str}{u:Value}{pos:Pos}{Q:Value→Shared→Prop}(I:Inv X pins σ H s) (hg:Gl X x) (hm:X.mg x=none) (hv:bootBuiltins x=some u) (h:Q u s)
 (hn:x≠"__name__":=by decide) (hd:(x==("__debug__":Str))=false:=by decide):wpAny (model X.prog X.w) X.A (eval (.Name x pos) X.env) Q E s:=by
 obtain ⟨mb,h1,h2⟩:=I.mod.blt
 exact Calls.Name_function_global I.ok.kind hg (Calls.loadGlobal_builtin (by rw [I.ok.glob];exact I.mod.glob.keeps I.bk) hm (by rw [I.ok.blt];exact h1.keeps I.bk) ((h2 x hn).trans hv) h) hd
theorem pe_glob {x:Str}{v:V}{u:Value}{pos:Pos}(hg:Gl X x) (hm:X.mg x=some u) (r:RelV v u) (hd:(x==("__debug__":Str))=false:=by decide):PE X (.Name x pos) (tC v):=
 fun _ _ _ H _ I h=>ld_glob I hg hm ⟨v,H,I,r,h⟩ hd
theorem pe_bltn {x:Str}{v:V}{u:Value}{pos:Pos}(hg:Gl X x) (hm:X.mg x=none) (hv:bootBuiltins x=some u) (r:RelV v u) (hn:x≠"__name__":=by decide) (hd:(x==("__debug__":Str))=false:=by decide):PE X (.Name x pos) (tC v):=
 fun _ _ _ H _ I h=>ld_blt I hg hm hv ⟨v,H,I,r,h⟩ hn hd
variable {a b:Expr}{ta tb:TE}{pos:Pos}
noncomputable def tB (t:TE):TT:=fun σ H Q=>t σ H fun x H1=>∃ c,x = .bl c∧Q c H1
theorem pt_val {e:Expr}{t:TE}(h:PE X e t) (he:∀ whole,isTrue e X.env whole=(do let v ← whole;standAt e.pos;holding [v] (truthy v)):=by intro _;rfl):PT X e (tB t):=by
 intro pins s σ H Q I hw
 refine isTrue_plain (thn (h pins s σ H _ I hw) fun v s1 ⟨x,H1,I1,r1,q1⟩=>?_) (he _)
 obtain ⟨d,rfl,q⟩:=q1
 cases r1
 exact wpAny_truthy_bool ⟨H1,I1,q⟩
variable {tA tB':TT}{rest:List Expr}
noncomputable def tAnd (t u:TT):TT:=fun σ H Q=>t σ H fun c H1=>if c=true then u σ H1 Q else Q false H1
noncomputable def tOr (t u:TT):TT:=fun σ H Q=>t σ H fun c H1=>if c=true then Q true H1 else u σ H1 Q
noncomputable def tNot (t:TT):TT:=fun σ H Q=>t σ H fun c H1=>Q (!c) H1
theorem pw_and1 (ha:PT X a tA):PW X (.BoolOp .And [a] pos) tA:=by
 intro wh pins s σ H Q I h
 refine isTrue_and (thn (ha pins s σ H Q I h) fun c s1 e=>?_)
 cases c with
 | true=>exact isTrue_and_nil e
 | false=>exact e
theorem pw_or1 (ha:PT X a tA):PW X (.BoolOp .Or [a] pos) tA:=by
 intro wh pins s σ H Q I h
 refine isTrue_or (thn (ha pins s σ H Q I h) fun c s1 e=>?_)
 cases c with
 | false=>exact isTrue_or_nil e
 | true=>exact e
theorem pw_and (ha:PT X a tA) (hb:PW X (.BoolOp .And (b::rest) pos) tB'):PW X (.BoolOp .And (a::b::rest) pos) (tAnd tA tB'):=by
 intro wh pins s σ H Q I h
 refine isTrue_and (thn (ha pins s σ H _ I h) fun c s1 ⟨H1,I1,q1⟩=>?_)
 cases c with
 | true=>exact hb wh pins s1 σ H1 Q I1 q1
 | false=>exact ⟨H1,I1,q1⟩
theorem pw_or (ha:PT X a tA) (hb:PW X (.BoolOp .Or (b::rest) pos) tB'):PW X (.BoolOp .Or (a::b::rest) pos) (tOr tA tB'):=by
 intro wh pins s σ H Q I h
 refine isTrue_or (thn (ha pins s σ H _ I h) fun c s1 ⟨H1,I1,q1⟩=>?_)
 cases c with
 | true=>exact ⟨H1,I1,q1⟩
 | false=>exact hb wh pins s1 σ H1 Q I1 q1
theorem pt_not (ha:PT X a tA):PT X (.UnaryOp .Not a pos) (tNot tA):=by
 intro pins s σ H Q I h
 exact isTrue_not (ha pins s σ H (fun c H1=>Q (!c) H1) I h)
noncomputable def tAndV (ta tb:TE):TE:=fun σ H Q=>ta σ H fun x H1=>∃ c,x = .bl c∧if c=true then tb σ H1 Q else Q (.bl false) H1
noncomputable def tOrV (ta tb:TE):TE:=fun σ H Q=>ta σ H fun x H1=>∃ c,x = .bl c∧if c=true then Q (.bl true) H1 else tb σ H1 Q
noncomputable def tNotV (ta:TE):TE:=fun σ H Q=>ta σ H fun x H1=>∃ c,x = .bl c∧Q (.bl (!c)) H1
theorem pe_one {op} {t:TE}(h:PE X a t):PE X (.BoolOp op [a] pos) t:=fun pins s σ H Q I hw=>BoolOp_one (h pins s σ H Q I hw)
theorem pe_and (ha:PE X a ta) (hb:PE X (.BoolOp .And (b::rest) pos) tb):PE X (.BoolOp .And (a::b::rest) pos) (tAndV ta tb):=by
 intro pins s σ H Q I h
 refine BoolOp_and (thn (ha pins s σ H _ I h) fun v s1 ⟨x,H1,I1,r1,q1⟩=>?_)
 obtain ⟨c,rfl,q1⟩:=q1
 cases r1
 refine wpAny_truthy_bool ?_
 cases c with
 | true=>exact hb pins s1 σ H1 Q I1 q1
 | false=>exact ⟨.bl false,H1,I1,rfl,q1⟩
theorem pe_or (ha:PE X a ta) (hb:PE X (.BoolOp .Or (b::rest) pos) tb):PE X (.BoolOp .Or (a::b::rest) pos) (tOrV ta tb):=by
 intro pins s σ H Q I h
 refine BoolOp_or (thn (ha pins s σ H _ I h) fun v s1 ⟨x,H1,I1,r1,q1⟩=>?_)
 obtain ⟨c,rfl,q1⟩:=q1
 cases r1
 refine wpAny_truthy_bool ?_
 cases c with
 | false=>exact hb pins s1 σ H1 Q I1 q1
 | true=>exact ⟨.bl true,H1,I1,rfl,q1⟩
theorem pe_not (ha:PE X a ta):PE X (.UnaryOp .Not a pos) (tNotV ta):=by
 intro pins s σ H Q I h
 refine UnaryOp_ (thn (ha pins s σ H _ I h) fun v s1 ⟨x,H1,I1,r1,q1⟩=>?_)
 obtain ⟨c,rfl,q1⟩:=q1
 cases r1
 exact not_of (wpAny_truthy_bool ⟨.bl (!c),H1,I1,rfl,q1⟩)
noncomputable def tIf (t:TT) (ta tb:TE):TE:=fun σ H Q=>t σ H fun c H1=>if c=true then ta σ H1 Q else tb σ H1 Q
theorem pe_ifExp {c:Expr}(hc:PT X c tA) (ha:PE X a ta) (hb:PE X b tb):PE X (.IfExp c a b pos) (tIf tA ta tb):=by
 intro pins s σ H Q I h
 refine wpAny_IfExp (thn (hc pins s σ H _ I h) fun d s1 ⟨H1,I1,q1⟩=>?_)
 cases d with
 | true=>exact ha pins s1 σ H1 Q I1 q1
 | false=>exact hb pins s1 σ H1 Q I1 q1
end
noncomputable def SqL (K:PySem.W.Frag) (H:Hp) (a:Addr) (xs:List V):Prop:=
 Rd H a (.lst xs) ∨
  ∃ (o:Obj) (its:Array Value) (n:Nat),K.lookup a=some o∧o.cls = .type "list"∧o.dict=none∧o.data = .seq its n∧its.size≤sizeLine∧Vals xs its.toList
noncomputable def SqT (K:PySem.W.Frag) (H:Hp) (a:Addr) (xs:List V):Prop:=
 Rd H a (.tup xs) ∨
  ∃ (o:Obj) (its:Array Value) (n:Nat),K.lookup a=some o∧o.cls = .type "tuple"∧o.data = .seq its n∧its.size≤sizeLine∧Vals xs its.toList
noncomputable def absV:Value→Option V
 | .none=>some .non
 | .bool b=>some (.bl b)
 | .int i _=>some (.int i)
 | .str x _=>some (.str x)
 | .bytes b _=>some (.byt b)
 | .float b _=>some (.flt b)
 | .ref a=>some (.ref a)
 | .type n=>some (.ty n)
 | _=>none
theorem RelV.abs {x:V}{u:Value}(r:RelV x u):absV u=some x:=by
 cases x with
 | non=>cases r;rfl
 | bl _=>cases r;rfl
 | int _=>obtain ⟨t,rfl⟩:=r;rfl
 | str _=>obtain ⟨t,rfl⟩:=r;rfl
 | byt _=>obtain ⟨t,rfl⟩:=r;rfl
 | flt _=>obtain ⟨t,rfl⟩:=r;rfl
 | ref _=>cases r;rfl
 | ty _=>cases r;rfl
theorem RelV.inj {x y:V}{u:Value}(r:RelV x u) (q:RelV y u):x=y:=Option.some.inj (r.abs.symm.trans q.abs)
theorem Vals.inj:∀ {xs ys:List V}{us:List Value},Vals xs us→Vals ys us→xs=ys
 | _,_,_,.nil,.nil=>rfl
 | _,_,_,.cons r t,.cons r' t'=>by rw [r.inj r',Vals.inj t t']
section
variable {X:Cx}{pins:List (Addr×Obj)}{σ:St}{H:Hp}{s:Shared}{a:Addr}{xs ys:List V}
theorem SqL.of {K:PySem.W.Frag}(h:H a=some (.lst xs)):SqL K H a xs:=.inl (.inl h)
theorem SqT.of {K:PySem.W.Frag}(h:H a=some (.tup xs)):SqT K H a xs:=.inl (.inl h)
theorem Inv.list (I:Inv X pins σ H s) (h:SqL X.K H a xs):∃ its:List Value,Vals xs its∧PlainL s.heap a its.toArray∧xs.length≤sizeLine:=by
 rcases h with h | ⟨o,its,n,hk,hc,hd,hs,hz,r⟩
 · obtain ⟨z,its,n,r,e⟩:=h.ok I.hok
   exact ⟨its,r,⟨_,n,e,rfl,rfl,rfl⟩,z⟩
 · refine ⟨its.toList,r,⟨o,n,I.kIn a o hk,hc,hd,by simpa using hs⟩,?_⟩
   have e:=r.length
   simp only [Array.length_toList] at e
   omega
theorem Inv.tuple (I:Inv X pins σ H s) (h:SqT X.K H a xs):∃ its:List Value,Vals xs its∧IsTup s.heap a its.toArray∧xs.length≤sizeLine:=by
 rcases h with h | ⟨o,its,n,hk,hc,hs,hz,r⟩
 · obtain ⟨z,its,r,p⟩:=h.ok I.hok
   exact ⟨its,r,p,z⟩
 · refine ⟨its.toList,r,⟨o,I.kIn a o hk,hc,n,by simpa using hs⟩,?_⟩
   have e:=r.length
   simp only [Array.length_toList] at e
   omega
theorem Inv.list_inj (I:Inv X pins σ H s) (h:SqL X.K H a xs) (h':SqL X.K H a ys):xs=ys:=by
 obtain ⟨its,r,⟨o,n,e,_,_,d⟩,_⟩:=I.list h
 obtain ⟨its',r',⟨o',n',e',_,_,d'⟩,_⟩:=I.list h'
 rw [e] at e';cases e'
 rw [d] at d'
 injection d' with d1 _
 have:its=its':=by simpa using congrArg Array.toList d1
 subst this
 exact r.inj r'
theorem Inv.tuple_inj (I:Inv X pins σ H s) (h:SqT X.K H a xs) (h':SqT X.K H a ys):xs=ys:=by
 obtain ⟨its,r,⟨o,e,_,n,d⟩,_⟩:=I.tuple h
 obtain ⟨its',r',⟨o',e',_,n',d'⟩,_⟩:=I.tuple h'
 rw [e] at e';cases e'
 rw [d] at d'
 injection d' with d1 _
 have:its=its':=by simpa using congrArg Array.toList d1
 subst this
 exact r.inj r'
end
noncomputable abbrev Cx.wish (X:Cx) (E:Value→Shared→Prop):Cx:={ X with xe:=E }
noncomputable abbrev Cx.nox (X:Cx):Cx:=X.wish fun _ _=>False
theorem Cx.Ok.wish {X:Cx}(ok:X.Ok) (E:Value→Shared→Prop):(X.wish E).Ok:=
 ⟨ok.mod,ok.kind,ok.glob,ok.blt,ok.above,ok.inj,ok.has,ok.cab,ok.hd,ok.frames,ok.stk,ok.exf,ok.bs,ok.bsz,ok.noex,ok.exfs,ok.funs,ok.frf⟩
theorem Cx.Ok.unwish {X:Cx}{E:Value→Shared→Prop}(ok:(X.wish E).Ok):X.Ok:=
 ⟨ok.mod,ok.kind,ok.glob,ok.blt,ok.above,ok.inj,ok.has,ok.cab,ok.hd,ok.frames,ok.stk,ok.exf,ok.bs,ok.bsz,ok.noex,ok.exfs,ok.funs,ok.frf⟩
section
variable {X:Cx}{pins:List (Addr×Obj)}{σ:St}{H:Hp}{s:Shared}{E:Value→Shared→Prop}
theorem Inv.wish (I:Inv X pins σ H s) (E:Value→Shared→Prop):Inv (X.wish E) pins σ H s:=⟨I.ok.wish E,I.os,I.bare,I.base,I.loc,I.cell,I.free,I.freeC,I.pin,I.hok,I.len⟩
theorem Inv.unwish (I:Inv (X.wish E) pins σ H s):Inv X pins σ H s:=⟨I.ok.unwish,I.os,I.bare,I.base,I.loc,I.cell,I.free,I.freeC,I.pin,I.hok,I.len⟩
theorem SP.unwish {D:Ends}{f:Flow}{s':Shared}(h:SP (X.wish E) pins D f s'):SP X pins D f s':=by
 cases f with
 | next=>obtain ⟨σ',H',I,q⟩:=h;exact ⟨σ',H',I.unwish,q⟩
 | brk=>obtain ⟨σ',H',I,q⟩:=h;exact ⟨σ',H',I.unwish,q⟩
 | cont=>obtain ⟨σ',H',I,q⟩:=h;exact ⟨σ',H',I.unwish,q⟩
 | ret u=>obtain ⟨v,σ',H',I,r,q⟩:=h;exact ⟨v,σ',H',I.unwish,r,q⟩
theorem PSs.nox {st:List Stmt}{t:TS}(h:PSs X.nox st t):PSs X st t:=fun pins s σ H D I hw=>
 wpAny_mono (h pins s σ H D (I.wish _) hw) (fun _ _ q=>q.unwish) fun _ _ z=>False.elim z
end
section
variable {X:Cx}{st:Stmt}{rest:List Stmt}{t u:TS}{e:Expr}{te:TE}{pos:Pos}
noncomputable def tNext:TS:=fun D σ H=>D.nx σ H
noncomputable def tSeq (t u:TS):TS:=fun D σ H=>t { D with nx:=u D } σ H
theorem pss_nil:PSs X [] tNext:=fun _ _ σ H _ I h=>wpAny_execs_nil ⟨σ,H,I,h⟩
theorem pss_cons (h1:PS X st t) (h2:PSs X rest u):PSs X (st::rest) (tSeq t u):=by
 intro pins s σ H D I h
 refine wpAny_execs_cons (thn (h1 pins s σ H { D with nx:=u D } I h) fun f s1 q=>?_)
 cases f with
 | next=>
  obtain ⟨σ',H',I',q⟩:=q
  exact h2 pins s1 σ' H' D I' q
 | ret v=>exact q
 | brk=>exact q
 | cont=>exact q
theorem pss_one (h1:PS X st t):PSs X [st] t:=by
 intro pins s σ H D I h
 refine wpAny_execs_cons (thn (h1 pins s σ H D I h) fun f s1 q=>?_)
 cases f with
 | next=>exact wpAny_execs_nil q
 | ret v=>exact q
 | brk=>exact q
 | cont=>exact q
theorem Inv.quiet {pins:List (Addr×Obj)}{σ:St}{H:Hp}{s:Shared}(I:Inv X pins σ H s):interactive X.env=false:=by simp [interactive,I.ok.kind]
noncomputable def tDrop (te:TE):TS:=fun D σ H=>te σ H fun _ H1=>D.nx σ H1
theorem ps_expr (he:PE X e te) (hs:swapsWith e none pos.line X.env=pure false:=by rfl):PS X (.Expr e pos) (tDrop te):=by
 intro pins s σ H D I h
 exact wpAny_Expr_any (thn (he pins s σ H _ I h) fun v s1 ⟨x,H1,I1,r1,q1⟩=>⟨σ,H1,I1,q1⟩) I.quiet hs
noncomputable def tRet (te:TE):TS:=fun D σ H=>te σ H D.rt
theorem ps_ret (he:PE X e te):PS X (.Return (some e) pos) (tRet te):=by
 intro pins s σ H D I h
 exact wpAny_Return_some (thn (he pins s σ H _ I h) fun v s1 ⟨x,H1,I1,r1,q1⟩=>⟨x,σ,H1,I1,r1,q1⟩)
noncomputable def tIfS (c:TT) (t u:TS):TS:=fun D σ H=>c σ H fun b H1=>if b=true then t D σ H1 else u D σ H1
theorem ps_if {c:Expr}{a b:List Stmt}{tc:TT}(hc:PT X c tc) (ha:PSs X a t) (hb:PSs X b u):PS X (.If c a b pos) (tIfS tc t u):=by
 intro pins s σ H D I h
 refine wpAny_If (thn (hc pins s σ H _ I h) fun d s1 ⟨H1,I1,q1⟩=>?_)
 cases d with
 | true=>exact ha pins s1 σ H1 D I1 q1
 | false=>exact hb pins s1 σ H1 D I1 q1
noncomputable def tNever:TS:=fun _ _ _=>False
theorem pss_never {sts:List Stmt}:PSs X sts tNever:=fun _ _ _ _ _ _ h=>h.elim
end
noncomputable abbrev TG:=V→St→Hp→(St→Hp→Prop)→Prop
noncomputable abbrev TGs:=List V→St→Hp→(St→Hp→Prop)→Prop
noncomputable def PG (X:Cx) (target:Expr) (t:TG):Prop:=
 ∀ (pins:List (Addr×Obj)) (s:Shared) (σ:St) (H:Hp) (v:V) (u:Value) (Q:St→Hp→Prop),Inv X pins σ H s→RelV v u→t v σ H Q →
  wpAny (model X.prog X.w) X.A (assign target X.env u) (fun _ s'=>∃ σ' H',Inv X pins σ' H' s'∧Q σ' H') X.xe s
noncomputable def PGs (X:Cx) (ts:List Expr) (t:TGs):Prop:=
 ∀ (pins:List (Addr×Obj)) (s:Shared) (σ:St) (H:Hp) (vs:List V) (us:List Value) (Q:St→Hp→Prop),Inv X pins σ H s→Vals vs us→t vs σ H Q →
  wpAny (model X.prog X.w) X.A (assignInOrder ((assignEach ts X.env).map (·.2)) us) (fun _ s'=>∃ σ' H',Inv X pins σ' H' s'∧Q σ' H') X.xe s
noncomputable abbrev TIp:=V→V→Hp→VK→Prop
noncomputable def PIp (X:Cx) (op:Operator) (t:TIp):Prop:=
 ∀ (pins:List (Addr×Obj)) (s:Shared) (σ:St) (H:Hp) (x y:V) (v u:Value) (Q:VK),Inv X pins σ H s→RelV x v→RelV y u→t x y H Q →
  wpAny (model X.prog X.w) X.A (inplaceOp op v u) (EP X pins σ Q) X.xe s
section
variable {X:Cx}{pos:Pos}
noncomputable def gName (i:Nat):TG:=fun v σ H Q=>Q (σ.set i (some v)) H
theorem pg_name {i:Nat}{x:Str}(hN:X.N.Nodup) (hi:X.N[i]? = some x) (hx:Loc X.env.scope x) (hf:X.fn x=true∨X.env.scope.names.lookup x=some .local := by first | exact .inl rfl | exact .inr rfl | assumption):PG X (.Name x pos) (gName i):=by
 intro pins s σ H v u Q I r h
 exact wpAny_assign_Name (store_ok I hN hi hx r (fun s' I'=>⟨_,H,I',h⟩) hf)
noncomputable def gNil:TGs:=fun vs σ H Q=>vs=[]∧Q σ H
noncomputable def gCons (t:TG) (u:TGs):TGs:=fun vs σ H Q=>∃ v r,vs=v::r∧t v σ H fun σ' H'=>u r σ' H' Q
theorem pgs_nil:PGs X [] gNil:=by
 intro pins s σ H vs us Q I r h
 obtain ⟨e,h⟩:=h
 subst e
 cases r
 exact assignInOrder_nil ⟨σ,H,I,h⟩
theorem pgs_cons {e:Expr}{es:List Expr}{t:TG}{u:TGs}(h1:PG X e t) (h2:PGs X es u)
 (hs:(assignEach (e::es) X.env).map (·.2)=assign e X.env::(assignEach es X.env).map (·.2):=by rfl):PGs X (e::es) (gCons t u):=by
 intro pins s σ H vs us Q I r h
 obtain ⟨v,vr,e1,h⟩:=h
 subst e1
 cases r with
 | cons r rr=>
  rw [hs]
  refine assignInOrder_cons (thn (h1 pins s σ H _ _ _ I r h) fun _ s1 ⟨σ1,H1,I1,q1⟩=>?_)
  exact h2 pins s1 σ1 H1 _ _ Q I1 rr q1
noncomputable def gTup (K:PySem.W.Frag) (n:Nat) (t:TGs):TG:=fun v σ H Q=>∃ a xs,v = .ref a∧SqT K H a xs∧xs.length=n∧t xs σ H Q
theorem pg_tup {es:List Expr}{k:Nat}{t:TGs}{n:Nat}(hc:X.calm=true) (h:PGs X es t)
 (hn:(assignEach es X.env).length=n:=by rfl) (hst:(assignEach es X.env).findIdx? (·.1)=none:=by rfl):PG X (.Tuple es k pos) (gTup X.K n t):=by
 intro pins s σ H v u Q I r hw
 obtain ⟨a,xs,e1,hq,hl,hw⟩:=hw
 subst e1
 cases r
 obtain ⟨its,rv,ht,hz⟩:=I.tuple hq
 refine assign_Tuple_tuple (I.ok.hd hc) ht (by simp [hn,← hl,rv.length]) hst fun h' hx=>?_
 have I1:Inv X pins σ H { s with heap:=h' }:=I.kept (t':=s.toks) fun b o e=>hx b o (Nat.ne_of_lt (Heap.lt_size e)) e
 exact h pins _ σ H xs _ Q I1 (by simpa using rv) hw
noncomputable def tAsg (te:TE) (g:TG):TS:=fun D σ H=>te σ H fun x H1=>g x σ H1 D.nx
theorem ps_asg {tg e:Expr}{te:TE}{g:TG}(he:PE X e te) (hg:PG X tg g) (hs:swapsWithSole [tg] e pos.line X.env=pure false:=by rfl) (hw:swappedStores [tg] e X.env=pure none:=by rfl)
 (h1:(assignEach [tg] X.env).map (·.2)=[assign tg X.env]:=by rfl):PS X (.Assign [tg] e pos) (tAsg te g):=by
 intro pins s σ H D I h
 refine wpAny_Assign_stores (thn (he pins s σ H _ I h) fun v s1 ⟨x,H1,I1,r1,q1⟩=>?_) hs hw
 rw [h1]
 exact thn (hg pins s1 σ H1 x v _ I1 r1 q1) fun _ s2 q=>q
theorem ps_set {i:Nat}{x:Str}{e:Expr}{te:TE}{pos':Pos}(hN:X.N.Nodup) (hi:X.N[i]? = some x) (hx:Loc X.env.scope x) (he:PE X e te) (hs:swapsWith e (some (.Name x pos')) pos.line X.env=pure false:=by rfl) (hf:X.fn x=true∨X.env.scope.names.lookup x=some .local := by first | exact .inl rfl | exact .inr rfl | assumption) :
 PS X (.Assign [.Name x pos'] e pos) (tAsg te (gName i)):=by
 intro pins s σ H D I h
 refine wpAny_Assign_Name (thn (he pins s σ H _ I h) fun v s1 ⟨y,H1,I1,r1,q1⟩=>?_) hs
 exact store_ok I1 hN hi hx r1 (fun s2 I2=>⟨_,H1,I2,q1⟩) hf
noncomputable def tAug (i:Nat) (te:TE) (ti:TIp):TS:=fun D σ H=>∃ x,σ[i]? = some (some x)∧te σ H fun y H1=>ti x y H1 fun z H2=>D.nx (σ.set i (some z)) H2
theorem ps_aug {i:Nat}{x:Str}{e:Expr}{te:TE}{op:Operator}{ti:TIp}{pos':Pos}(hN:X.N.Nodup) (hi:X.N[i]? = some x) (hx:Loc X.env.scope x) (he:PE X e te) (ho:PIp X op ti) (hf:X.fn x=true∨X.env.scope.names.lookup x=some .local := by first | exact .inl rfl | exact .inr rfl | assumption) :
 PS X (.AugAssign (.Name x pos') op e pos) (tAug i te ti):=by
 intro pins s σ H D I h
 obtain ⟨v,e1,h⟩:=h
 obtain ⟨m,hn,hl⟩:=I.loc
 have vis:Vis X.env.scope x:=by rcases hx with k | k;exact .inl k;exact .inr (.inl k)
 obtain ⟨u,r,l⟩:=hl i x v hi e1 vis
 refine wpAny_AugAssign_Name ?_
 have go:wpAny (model X.prog X.w) X.A (eval e X.env) (fun w s₂=>wpAny (model X.prog X.w) X.A (inplaceOp op u w) (fun r s₃=>wpAny (model X.prog X.w) X.A (storeName X.env x r) (fun _=>SP X pins D .next) X.xe s₃) X.xe s₂) X.xe s:=by
  refine thn (he pins s σ H _ I h) fun w s1 ⟨y,H1,I1,r1,q1⟩=>?_
  refine thn (ho pins s1 σ H1 v y u w _ I1 r r1 q1) fun z s2 ⟨zv,H2,I2,r2,q2⟩=>?_
  exact store_ok I2 hN hi hx r2 (fun s3 I3=>⟨_,H2,I3,q2⟩) hf
 rcases l with ⟨hk,hm⟩ | ⟨hk,c,hc,hcell⟩
 · exact wpAny_loadName_local I.ok.kind hk hn hm go
 · rcases hk with hk | hk
   · exact wpAny_loadName_cell I.ok.kind hk hc hcell go
   · rcases hx with k | k
     · have:X.env.scope.names.lookup x=some .free:=hk
       rw [k] at this;cases this
     · have:X.env.scope.names.lookup x=some .free:=hk
       rw [k] at this;cases this
noncomputable def ipI (f:Int→Int→Int):TIp:=fun x y H Q=>∃ i j,x = .int i∧y = .int j∧Q (.int (f i j)) H
theorem ip_add:PIp X .Add (ipI fun i j=>i+j):=by
 intro pins s σ H x y v u Q I r1 r2 h
 obtain ⟨i,j,e1,e2,q⟩:=h
 subst e1;subst e2
 obtain ⟨t,rfl⟩:=r1
 obtain ⟨t',rfl⟩:=r2
 exact iadd_int ⟨.int _,H,I.tok _,⟨_,rfl⟩,q⟩
end
section
variable {X:Cx}{pos:Pos}
noncomputable def tWhile (c:TT) (tb:TS):TS:=fun D σ H=>∃ W:Nat→St→Hp→Prop,(∃ m,W m σ H)∧∀ m σ H,W m σ H →
 c σ H fun b H1=>if b=true then ∃ N:St→Hp→Prop,(∀ σ' H',N σ' H'→∃ m',m'<m∧W m' σ' H')∧tb { D with nx:=N,ct:=N,bk:=D.nx } σ H1 else D.nx σ H1
theorem ps_while {c:Expr}{body:List Stmt}{tc:TT}{tb:TS}(hp:PassesOwn (model X.prog X.w) X.A X.env X.xe) (hc:PT X c tc) (hb:PSs X body tb):PS X (.While c body [] pos) (tWhile tc tb):=by
 intro pins s σ H D I h
 obtain ⟨W,⟨m0,w0⟩,turn⟩:=h
 refine wpAny_While (codeAny_whileLoop (fun n s'=>∃ σ' H',Inv X pins σ' H' s'∧W n σ' H') ?_ m0 ⟨σ,H,I,w0⟩)
 rintro n s1 ⟨σ1,H1,I1,w1⟩
 refine wpAny_passesOwn hp (thn (hc pins s1 σ1 H1 _ I1 (turn n σ1 H1 w1)) fun b s2 ⟨H2,I2,q2⟩=>?_)
 cases b with
 | true=>
  obtain ⟨N,hN,q2⟩:=q2
  rw [if_pos rfl]
  refine wpAny_passesOwn hp (thn (hb pins s2 σ1 H2 _ I2 q2) fun f s3 q3=>?_)
  cases f with
  | next=>
   obtain ⟨σ3,H3,I3,n3⟩:=q3
   obtain ⟨m',hm,w3⟩:=hN σ3 H3 n3
   exact ⟨m',hm,σ3,H3,I3,w3⟩
  | cont=>
   obtain ⟨σ3,H3,I3,n3⟩:=q3
   obtain ⟨m',hm,w3⟩:=hN σ3 H3 n3
   exact ⟨m',hm,σ3,H3,I3,w3⟩
  | brk=>exact q3
  | ret v=>exact q3
 | false=>
  rw [if_neg Bool.false_ne_true]
  exact wpAny_execs_nil ⟨σ1,H2,I2,q2⟩
end
structure It where
 go:Nat→Hp→Prop
 yld:Nat→Hp→V→Hp→Prop
 stop:Nat→Hp→Prop
noncomputable def FpOk (X:Cx) (pins:List (Addr×Obj)) (H:Hp) (b:Addr):Prop:=
 H b=none∧b≠X.env.locals∧b∉X.fs∧(b∈X.ex∨X.s₀.heap.objs.size≤b)∧(∀ x c,X.env.cells.lookup x=some c→c≠b)∧∀ p∈X.pn++pins,p.1≠b
theorem Inv.fpOk {X:Cx}{pins:List (Addr×Obj)}{σ:St}{H H':Hp}{s:Shared}{b:Addr}(I:Inv X pins σ H s) (hb:s.heap.objs.size≤b) (hn:H' b=none):FpOk X pins H' b:=by
 refine ⟨hn,Nat.ne_of_gt (Nat.lt_of_lt_of_le I.lt hb),I.nofs hb,.inr (Nat.le_trans I.sz hb),fun x c e z=>?_,fun p hp z=>?_⟩
 · obtain ⟨v,q⟩:=I.cell x c e
   exact absurd (Nat.lt_of_lt_of_le q.lt (by rw [z];exact hb)) (Nat.lt_irrefl _)
 · exact absurd (Nat.lt_of_lt_of_le (Heap.lt_size (I.pin p hp).1) (by rw [z];exact hb)) (Nat.lt_irrefl _)
structure Turn (P:Program) (w:World) (K:PySem.W.Frag) (tg:Expr) (J:It) (fp:List Addr) (it:Addr) (tn:Nat→Heap→Prop):Prop where
 mem:it∈fp
 obj:∀ i h,tn i h→∀ b∈fp,∃ o,h.get? b=some o∧∀ v,o.data≠.cell v
 keep:∀ i h h',tn i h→(∀ b∈fp,∀ o,h.get? b=some o→h'.get? b=some o)→tn i h'
 item:∀ (X:Cx),X.prog=P→X.w=w→X.K=K→X.calm=true→∀ (i:Nat) (pins:List (Addr×Obj)) (s:Shared) (σ:St) (H:Hp) (E:Value→Shared→Prop),Inv X pins σ H s→(∀ b∈fp,FpOk X pins H b)→tn i s.heap→J.go i H →
  wpAny (model P w) X.A (pyNext (.ref it)) (fun r s1=>∃ u,r=some u ∧
   wpAny (model P w) X.A (letOwnedTupleGo tg (.ref it) u) (fun _ s2=>∃ x H',Inv X pins σ H' s2∧RelV x u∧J.yld i H x H'∧tn (i+1) s2.heap∧∀ b∈fp,H' b=none) E s1) E s
 done:∀ (X:Cx),X.prog=P→X.w=w→X.K=K→X.calm=true→∀ (i:Nat) (pins:List (Addr×Obj)) (s:Shared) (σ:St) (H:Hp) (E:Value→Shared→Prop),Inv X pins σ H s→(∀ b∈fp,FpOk X pins H b)→tn i s.heap→J.stop i H →
  wpAny (model P w) X.A (pyNext (.ref it)) (fun r s1=>r=none∧Inv X pins σ H s1) E s
 self:∀ (A:Around) (i:Nat) (s:Shared) (Q:Value→Shared→Prop) (E:Value→Shared→Prop),tn i s.heap→Q (.ref it) s→wpAny (model P w) A (pyIter (.ref it)) Q E s
noncomputable abbrev TI:=St→Hp→(It→Hp→Prop)→Prop
noncomputable def PIE (X:Cx) (pins:List (Addr×Obj)) (σ:St) (tg:Expr) (R:It→Hp→Prop) (itv:Value) (s2:Shared):Prop:=
 ∃ (it:Addr) (fp:List Addr) (tn:Nat→Heap→Prop) (J:It) (H':Hp),itv = .ref it∧Inv X pins σ H' s2∧Turn X.prog X.w X.K tg J fp it tn∧tn 0 s2.heap∧(∀ b∈fp,FpOk X pins H' b)∧R J H'
noncomputable def PI (X:Cx) (tg iter:Expr) (wi:TI):Prop:=
 ∀ (pins:List (Addr×Obj)) (s:Shared) (σ:St) (H:Hp) (R:It→Hp→Prop),Inv X pins σ H s→wi σ H R →
  wpAny (model X.prog X.w) X.A (eval iter X.env) (fun v s1=>wpAny (model X.prog X.w) X.A (pyIter v) (PIE X pins σ tg R) X.xe s1) X.xe s
theorem go_of {M:Model}{A:Around}{E:Value→Shared→Prop}{s:Shared}{tg:Expr}{it:Addr}{u:Value}{o:Obj}{n:String}{vs:Array Value}{Q:Unit→Shared→Prop}(ho:s.heap.get? it=some o) (hc:o.cls = .type n) (hd:o.data = .fields vs)
 (hn:["enumerate","zip","dict_itemiterator","dict_reverseitemiterator","odict_iterator","itertools.zip_longest","itertools.pairwise"].contains n=false) (hQ:Q () s):wpAny M A (letOwnedTupleGo tg (.ref it) u) Q E s:=by
 unfold letOwnedTupleGo
 cases tg<;>first
  | exact wpAny_pure hQ
  | (cases u<;>first
   | exact wpAny_pure hQ
   | (refine wpAny_bind (wpAny_load ho ?_)
      rw [hc,hd]
      show wpAny M A (if (["enumerate","zip","dict_itemiterator","dict_reverseitemiterator","odict_iterator","itertools.zip_longest","itertools.pairwise"].contains n&&vs[0]? == some (rawInt _))=true then _ else _) Q E s
      rw [if_neg (by intro h;rw [hn,Bool.false_and] at h;cases h)]
      exact wpAny_pure hQ))
noncomputable def Itl (K:PySem.W.Frag) (a:Addr):It:=
 ⟨fun i H=>∃ xs x,SqL K H a xs∧xs[i]? = some x,fun i H x H'=>H'=H∧∀ xs,SqL K H a xs→xs[i]? = some x,fun i H=>∃ xs,SqL K H a xs∧xs.length≤i⟩
noncomputable def Itt (K:PySem.W.Frag) (a:Addr):It:=
 ⟨fun i H=>∃ xs x,SqT K H a xs∧xs[i]? = some x,fun i H x H'=>H'=H∧∀ xs,SqT K H a xs→xs[i]? = some x,fun i H=>∃ xs,SqT K H a xs∧xs.length≤i⟩
noncomputable def Itr (lo:Int) (n:Nat):It:=⟨fun i _=>i<n,fun i H x H'=>H'=H∧x = .int (lo+i),fun i _=>n≤i⟩
theorem turn_list {P:Program}{w:World}{K:PySem.W.Frag}{tg:Expr}(a it:Addr):Turn P w K tg (Itl K a) [it] it (fun i h=>h.IsListIter it a i) where
 mem:=by simp
 obj:=fun i h st b hb=>by
  have e:b=it:=by simpa using hb
  subst e
  obtain ⟨o,e,c,d⟩:=st
  exact ⟨o,e,fun v z=>by rw [d] at z;cases z⟩
 keep:=fun i h h' st k=>st.at fun o e=>k it (by simp) o e
 item:=by
  intro X hP hw hK hc i pins s σ H E I hf st hg
  subst hP hw hK
  obtain ⟨xs,x,hq,hx⟩:=hg
  obtain ⟨its,rv,p,hz⟩:=I.list hq
  obtain ⟨u,hu,ru⟩:=rv.get hx
  obtain ⟨f0,f1,f2,f3,f4,f5⟩:=hf it (by simp)
  refine wpAny_pyNext_list_item st p.isList (x:=u) (by simpa using hu) fun h' st' sb=>?_
  have I1:Inv X pins σ H { s with heap:=h' }:=I.turned (t':=s.toks) (fun b o hb e=>(sb.2 b hb).trans e) f0 f1 f3 f4 f5
  obtain ⟨o,e,c,d⟩:=id st'
  exact ⟨u,rfl,go_of (s:={ s with heap:=h' }) e c d (by decide) ⟨x,H,I1,ru,⟨rfl,fun ys hy=>by rw [I.list_inj hy hq];exact hx⟩,st',fun b hb=>(hf b hb).1⟩⟩
 done:=by
  intro X hP hw hK hc i pins s σ H E I hf st hg
  subst hP hw hK
  obtain ⟨xs,hq,hx⟩:=hg
  obtain ⟨its,rv,p,hz⟩:=I.list hq
  obtain ⟨f0,f1,f2,f3,f4,f5⟩:=hf it (by simp)
  have hl:=rv.length
  exact wpAny_pyNext_list_end (I.ok.hd hc) st p.isList (by simp;omega) fun h' eb=>⟨rfl,I.turned (t':=s.toks) (fun b o hb e=>eb b o hb e) f0 f1 f3 f4 f5⟩
 self:=fun _ _ _ _ _ st h=>wpAny_pyIter_listiter st h
theorem turn_tuple {P:Program}{w:World}{K:PySem.W.Frag}{tg:Expr}(a it:Addr):Turn P w K tg (Itt K a) [it] it (fun i h=>h.IsTupleIter it a i) where
 mem:=by simp
 obj:=fun i h st b hb=>by
  have e:b=it:=by simpa using hb
  subst e
  obtain ⟨o,e,c,d⟩:=st
  exact ⟨o,e,fun v z=>by rw [d] at z;cases z⟩
 keep:=fun i h h' st k=>st.at fun o e=>k it (by simp) o e
 item:=by
  intro X hP hw hK hc i pins s σ H E I hf st hg
  subst hP hw hK
  obtain ⟨xs,x,hq,hx⟩:=hg
  obtain ⟨its,rv,p,hz⟩:=I.tuple hq
  obtain ⟨u,hu,ru⟩:=rv.get hx
  obtain ⟨f0,f1,f2,f3,f4,f5⟩:=hf it (by simp)
  refine wpAny_pyNext_tuple_item st (show s.heap.IsTuple a its.toArray from p) (x:=u) (by simpa using hu) fun h' st' sb=>?_
  have I1:Inv X pins σ H { s with heap:=h' }:=I.turned (t':=s.toks) (fun b o hb e=>(sb.2 b hb).trans e) f0 f1 f3 f4 f5
  obtain ⟨o,e,c,d⟩:=id st'
  exact ⟨u,rfl,go_of (s:={ s with heap:=h' }) e c d (by decide) ⟨x,H,I1,ru,⟨rfl,fun ys hy=>by rw [I.tuple_inj hy hq];exact hx⟩,st',fun b hb=>(hf b hb).1⟩⟩
 done:=by
  intro X hP hw hK hc i pins s σ H E I hf st hg
  subst hP hw hK
  obtain ⟨xs,hq,hx⟩:=hg
  obtain ⟨its,rv,p,hz⟩:=I.tuple hq
  obtain ⟨f0,f1,f2,f3,f4,f5⟩:=hf it (by simp)
  have hl:=rv.length
  exact wpAny_pyNext_tuple_end (I.ok.hd hc) st (show s.heap.IsTuple a its.toArray from p) (by simp;omega) fun h' eb=>⟨rfl,I.turned (t':=s.toks) (fun b o hb e=>eb b o hb e) f0 f1 f3 f4 f5⟩
 self:=fun _ _ _ _ _ st h=>wpAny_pyIter_tupleiter st h
theorem turn_range {P:Program}{w:World}{K:PySem.W.Frag}{tg:Expr}(it:Addr) (lo:Int) (n:Nat):Turn P w K tg (Itr lo n) [it] it (fun i h=>IsRangeIter h it (lo+(i:Nat)*1) ((n:Int)-(i:Nat)) 1) where
 mem:=by simp
 obj:=fun i h st b hb=>by
  have e:b=it:=by simpa using hb
  subst e
  exact ⟨_,st,fun v z=>by
   have z':Data.fields _=Data.cell v:=z
   cases z'⟩
 keep:=fun i h h' st k=>k it (by simp) _ st
 item:=by
  intro X hP hw hK hc i pins s σ H E I hf st hg
  subst hP hw hK
  obtain ⟨f0,f1,f2,f3,f4,f5⟩:=hf it (by simp)
  have W:=Walks.range (prog:=X.prog) (w:=X.w) (I.ok.hd hc) it lo 1 n
  refine W.item i s _ _ hg st fun v h' tk hv st' kk=>?_
  obtain ⟨t,rfl⟩:=hv
  have I1:Inv X pins σ H { s with heap:=h',toks:=tk }:=I.turned (fun b o hb e=>kk b o (by simpa using hb) e) f0 f1 f3 f4 f5
  refine ⟨_,rfl,go_of (s:={ s with heap:=h',toks:=tk }) (n:="range_iterator") st' rfl rfl (by decide) ⟨.int (lo+i),H,I1,⟨t,?_⟩,⟨rfl,rfl⟩,st',fun b hb=>(hf b hb).1⟩⟩
  rw [Int.mul_one]
 done:=by
  intro X hP hw hK hc i pins s σ H E I hf st hg
  subst hP hw hK
  obtain ⟨f0,f1,f2,f3,f4,f5⟩:=hf it (by simp)
  exact wpAny_pyNext_range_end (I.ok.hd hc) st (by have:n≤i:=hg;omega) fun h' eb=>⟨rfl,I.turned (t':=s.toks) (fun b o hb e=>eb b o hb e) f0 f1 f3 f4 f5⟩
 self:=fun _ _ _ _ _ st h=>wpAny_pyIter_rangeiter st h
section
variable {X:Cx}{tg:Expr}
noncomputable def iList (K:PySem.W.Frag) (tl:TE):TI:=fun σ H R=>tl σ H fun x H1=>∃ a,x = .ref a∧(∃ xs,SqL K H1 a xs)∧R (Itl K a) H1
noncomputable def iTup (K:PySem.W.Frag) (tl:TE):TI:=fun σ H R=>tl σ H fun x H1=>∃ a,x = .ref a∧(∃ xs,SqT K H1 a xs)∧R (Itt K a) H1
theorem pi_list {l:Expr}{tl:TE}(hl:PE X l tl):PI X tg l (iList X.K tl):=by
 intro pins s σ H R I h
 refine thn (hl pins s σ H _ I h) fun v s1 ⟨x,H1,I1,r1,q1⟩=>?_
 obtain ⟨a,e,⟨xs,hq⟩,q⟩:=q1
 subst e
 cases r1
 obtain ⟨its,rv,p,hz⟩:=I1.list hq
 refine wpAny_pyIter_list p.isList ?_
 refine ⟨s1.heap.objs.size,[s1.heap.objs.size],_,_,H1,rfl,I1.kept (t':=s1.toks) fun b o e=>Heap.get?_push_of_some _ e,turn_list a _,⟨_,Heap.get?_push_size _ rfl,rfl,rfl⟩,fun b hb=>?_,q⟩
 have e:b=s1.heap.objs.size:=by simpa using hb
 subst e
 exact I1.fpOk (Nat.le_refl _) (I1.hok.fresh (Nat.le_refl _))
theorem pi_tup {l:Expr}{tl:TE}(hl:PE X l tl):PI X tg l (iTup X.K tl):=by
 intro pins s σ H R I h
 refine thn (hl pins s σ H _ I h) fun v s1 ⟨x,H1,I1,r1,q1⟩=>?_
 obtain ⟨a,e,⟨xs,hq⟩,q⟩:=q1
 subst e
 cases r1
 obtain ⟨its,rv,p,hz⟩:=I1.tuple hq
 refine wpAny_pyIter_tuple (show s1.heap.IsTuple a its.toArray from p) ?_
 refine ⟨s1.heap.objs.size,[s1.heap.objs.size],_,_,H1,rfl,I1.kept (t':=s1.toks) fun b o e=>Heap.get?_push_of_some _ e,turn_tuple a _,⟨_,Heap.get?_push_size _ rfl,rfl,rfl⟩,fun b hb=>?_,q⟩
 have e:b=s1.heap.objs.size:=by simpa using hb
 subst e
 exact I1.fpOk (Nat.le_refl _) (I1.hok.fresh (Nat.le_refl _))
theorem range_it {pins:List (Addr×Obj)}{σ:St}{H:Hp}{s:Shared}{R:It→Hp→Prop}{E:Value→Shared→Prop}{lo hi:Int}{t u v:Tok}{tk:Nat}(I:Inv X pins σ H s) (h1:-(2^62)≤lo) (h2:lo<2^62) (h3:-(2^62)≤hi) (h4:hi<2^62)
 (q:R (Itr lo (hi-lo).toNat) H):wpAny (model X.prog X.w) X.A (pyIter (.ref s.heap.objs.size)) (PIE X pins σ tg R) E { s with heap:=s.heap.push { cls:=.type "range",data:=.fields #[.int lo t,.int hi u,.int 1 v] },toks:=tk }:=by
 refine wpAny_pyIter_range (IsRange.new ..) (small_one h1 h2 h3 h4) ?_
 have I1:Inv X pins σ H { s with heap:=s.heap.push { cls:=.type "range",data:=.fields #[.int lo t,.int hi u,.int 1 v] },toks:=tk }:=I.kept fun b o e=>Heap.get?_push_of_some _ e
 refine ⟨(s.heap.push { cls:=.type "range",data:=.fields #[.int lo t,.int hi u,.int 1 v] }).objs.size,[(s.heap.push { cls:=.type "range",data:=.fields #[.int lo t,.int hi u,.int 1 v] }).objs.size],_,_,H,rfl,
  I1.kept (t':=tk) fun b o e=>Heap.get?_push_of_some _ e,turn_range _ lo (hi-lo).toNat,?_,fun b hb=>?_,q⟩
 · have e1:lo+((0:Nat):Int)*1=lo:=by simp
   have e2:(((hi-lo).toNat:Nat):Int)-((0:Nat):Int)=Builtin.Range.rangeSize lo hi 1:=by rw [rangeSize_one];split<;>omega
   show IsRangeIter _ _ (lo+((0:Nat):Int)*1) ((((hi-lo).toNat:Nat):Int)-((0:Nat):Int)) 1
   rw [e1,e2]
   exact Heap.get?_push_size _ rfl
 · have e:b=(s.heap.push { cls:=.type "range",data:=.fields #[.int lo t,.int hi u,.int 1 v] }).objs.size:=by simpa using hb
   subst e
   exact I1.fpOk (Nat.le_refl _) (I1.hok.fresh (Nat.le_refl _))
noncomputable def iRng1 (ta:TA):TI:=fun σ H R=>ta σ H fun vs H1=>∃ j:Int,vs=[.int j]∧-(2^62)≤j∧j<2^62∧R (Itr 0 j.toNat) H1
theorem pi_range1 {a:Expr}{ta:TA}{p pos:Pos}(hg:Gl X "range") (hm:X.mg "range" = none) (ha:PA X [a] ta) (hs:starEach [a] X.env=[(false,eval a X.env)]:=by rfl):PI X tg (.Call (.Name "range" p) [a] [] pos) (iRng1 ta):=by
 intro pins s σ H R I h
 refine Call_ (ld_blt I hg hm boot_range (PyProof.Rows.callWith_type1 (thn (ha pos pins s σ H _ I h) fun us s1 ⟨vs,H1,I1,r1,q1⟩=>?_) hs rfl))
 obtain ⟨j,e,q1,q2,q⟩:=q1
 subst e
 cases r1 with
 | cons r rr=>
  cases rr
  obtain ⟨t,rfl⟩:=r
  exact call_range_1 (range_it I1 (by omega) (by omega) q1 q2 (by simpa using q))
noncomputable def tFor (wi:TI) (g:TG) (tb:TS):TS:=fun D σ H=>wi σ H fun J H1=>∃ W:Nat→Nat→St→Hp→Prop,(∃ m,W 0 m σ H1)∧∀ i m σ H,W i m σ H →
 (J.stop i H∧D.nx σ H)∨(J.go i H∧∃ N:St→Hp→Prop,(∀ σ' H',N σ' H'→∃ m',m'<m∧W (i+1) m' σ' H')∧∀ x H',J.yld i H x H'→g x σ H' fun σ2 H2=>tb { D with nx:=N,ct:=N,bk:=D.nx } σ2 H2)
noncomputable def pinsAt (fp:List Addr) (h:Heap):List (Addr×Obj):=fp.filterMap fun b=>(h.get? b).map fun o=>(b,o)
theorem mem_pinsAt {fp:List Addr}{h:Heap}{b:Addr}{o:Obj}(hb:b∈fp) (e:h.get? b=some o):(b,o)∈pinsAt fp h:=List.mem_filterMap.mpr ⟨b,hb,by rw [e];rfl⟩
theorem of_pinsAt {fp:List Addr}{h:Heap}{p:Addr×Obj}(hp:p∈pinsAt fp h):p.1∈fp∧h.get? p.1=some p.2:=by
 obtain ⟨b,hb,e⟩:=List.mem_filterMap.mp hp
 cases q:h.get? b with
 | none=>rw [q] at e;cases e
 | some o=>
  rw [q] at e
  have e':(b,o)=p:=Option.some.inj e
  subst e'
  exact ⟨hb,q⟩
theorem Inv.pinned {pins:List (Addr×Obj)}{σ:St}{H:Hp}{s:Shared}{fp:List Addr}(I:Inv X pins σ H s) (hf:∀ b∈fp,FpOk X pins H b) (ho:∀ b∈fp,∃ o,s.heap.get? b=some o∧∀ v,o.data≠.cell v):Inv X (pins++pinsAt fp s.heap) σ H s:=
 I.pins_of fun p hp=>(List.mem_append.mp hp).elim (fun z=>I.pin p (List.mem_append_right _ z)) fun z=>by
  obtain ⟨hb,e⟩:=of_pinsAt z
  obtain ⟨f0,f1,f2,_⟩:=hf p.1 hb
  obtain ⟨o,e',d⟩:=ho p.1 hb
  rw [e] at e';cases e'
  exact ⟨e,f0,f1,f2,d⟩
theorem Inv.unpinned {pins pl:List (Addr×Obj)}{σ:St}{H:Hp}{s:Shared}(I:Inv X (pins++pl) σ H s):Inv X pins σ H s:=I.pins_of fun p hp=>I.pin p (List.mem_append_right _ (List.mem_append_left _ hp))
theorem ps_for {iter:Expr}{body:List Stmt}{wi:TI}{g:TG}{tb:TS}{pos:Pos}(hp:PassesOwn (model X.prog X.w) X.A X.env X.xe) (hc:X.calm=true) (hi:PI X tg iter wi) (hg:PG X tg g) (hb:PSs X body tb)
 (hs:∀ x,foldedSetIterable iter X.env x=pure x:=by intro _;rfl):PS X (.For tg iter body [] pos) (tFor wi g tb):=by
 intro pins s σ H D I h
 refine wpAny_For (thn (hi pins s σ H _ I h) fun v s1 h1=>thn h1 fun itv s2 h2=>?_) hs
 obtain ⟨it,fp,tn,J,H2,e,I2,T,st2,f2,W,⟨m0,w0⟩,turn⟩:=h2
 subst e
 -- what stays true of the iterator's objects through the loop
 have stat:∀ {H':Hp},(∀ b∈fp,H' b=none)→∀ b∈fp,FpOk X pins H' b:=fun hn b hb=>⟨hn b hb,(f2 b hb).2⟩
 refine codeAny_forLoop_any (fun n s'=>∃ i σ' H',Inv X pins σ' H' s'∧tn i s'.heap∧(∀ b∈fp,H' b=none)∧W i n σ' H') ?_ m0 ⟨0,σ,H2,I2,st2,fun b hb=>(f2 b hb).1,w0⟩
 rintro n s3 ⟨i,σ3,H3,I3,st3,fr3,w3⟩
 rcases turn i n σ3 H3 w3 with ⟨stop,qn⟩ | ⟨go,N,hN,step⟩
 · refine wpAny_passesOwn hp (thn (T.done X rfl rfl rfl hc i pins s3 σ3 H3 X.xe I3 (stat fr3) st3 stop) fun r s4 ⟨hr,I4⟩=>?_)
   subst hr
   exact wpAny_execs_nil ⟨σ3,H3,I4,qn⟩
 · refine wpAny_passesOwn hp (thn (T.item X rfl rfl rfl hc i pins s3 σ3 H3 X.xe I3 (stat fr3) st3 go) fun r s4 ⟨u,hr,h4⟩=>?_)
   subst hr
   refine wpAny_passesOwn hp (thn h4 fun _ s5 ⟨x,H5,I5,r5,y5,st5,fr5⟩=>?_)
   have I5':=I5.pinned (stat fr5) (T.obj _ _ st5)
   refine wpAny_passesOwn hp (thn (hg _ s5 σ3 H5 x u _ I5' r5 (step x H5 y5)) fun _ s6 ⟨σ6,H6,I6,q6⟩=>?_)
   refine wpAny_passesOwn hp (thn (hb _ s6 σ6 H6 _ I6 q6) fun f s7 q7=>?_)
   have again:∀ {σ7:St} {H7:Hp},Inv X (pins++pinsAt fp s5.heap) σ7 H7 s7→N σ7 H7→∃ m,m<n∧∃ i σ' H',Inv X pins σ' H' s7∧tn i s7.heap∧(∀ b∈fp,H' b=none)∧W i m σ' H':=fun {σ7 H7} I7 n7=>by
    obtain ⟨m',hm,w7⟩:=hN σ7 H7 n7
    refine ⟨m',hm,i+1,σ7,H7,I7.unpinned,T.keep _ _ _ st5 fun b hb o e=>(I7.pin (b,o) (List.mem_append_right _ (List.mem_append_right _ (mem_pinsAt hb e)))).1,fun b hb=>?_,w7⟩
    obtain ⟨o,e,d⟩:=T.obj _ _ st5 b hb
    exact (I7.pin (b,o) (List.mem_append_right _ (List.mem_append_right _ (mem_pinsAt hb e)))).2.1
   cases f with
   | next=>obtain ⟨σ7,H7,I7,n7⟩:=q7;exact again I7 n7
   | cont=>obtain ⟨σ7,H7,I7,n7⟩:=q7;exact again I7 n7
   | brk=>obtain ⟨σ7,H7,I7,q7⟩:=q7;exact ⟨σ7,H7,I7.unpinned,q7⟩
   | ret v=>obtain ⟨x7,σ7,H7,I7,r7,q7⟩:=q7;exact ⟨x7,σ7,H7,I7.unpinned,r7,q7⟩
end
theorem for_list {K:PySem.W.Frag}{a:Addr}{xs:List V}{g:TG}{tb:TS}{D:Ends}{σ:St}{H:Hp}(Pv:Nat→St→Hp→Prop) (h0:Pv 0 σ H) (hl:∀ i σ H,i≤xs.length→Pv i σ H→SqL K H a xs)
 (hs:∀ i x σ H,xs[i]? = some x→Pv i σ H→g x σ H fun σ2 H2=>tb { D with nx:=Pv (i+1),ct:=Pv (i+1),bk:=D.nx } σ2 H2) (hd:∀ σ H,Pv xs.length σ H→D.nx σ H) :
 ∃ W:Nat→Nat→St→Hp→Prop,(∃ m,W 0 m σ H)∧∀ i m σ H,W i m σ H →
  ((Itl K a).stop i H∧D.nx σ H)∨((Itl K a).go i H∧∃ N:St→Hp→Prop,(∀ σ' H',N σ' H'→∃ m',m'<m∧W (i+1) m' σ' H')∧∀ x H',(Itl K a).yld i H x H'→g x σ H' fun σ2 H2=>tb { D with nx:=N,ct:=N,bk:=D.nx } σ2 H2):=by
 refine ⟨fun i m σ H=>m=xs.length-i∧i≤xs.length∧Pv i σ H,⟨xs.length,by simp,Nat.zero_le _,h0⟩,?_⟩
 rintro i m σ H ⟨rfl,hi,p⟩
 have q:=hl i σ H hi p
 by_cases hlt:i<xs.length
 · refine .inr ⟨⟨xs,xs[i],q,by simp [hlt]⟩,Pv (i+1),fun σ' H' p'=>⟨xs.length-(i+1),by omega,rfl,hlt,p'⟩,fun x H' y=>?_⟩
   obtain ⟨e,y⟩:=y
   subst e
   exact hs i x σ _ (y xs q) p
 · have e:i=xs.length:=by omega
   subst e
   exact .inl ⟨⟨xs,q,Nat.le_refl _⟩,hd σ H p⟩
noncomputable abbrev R2:=V→V→Hp→VK→Prop
noncomputable def OpR (X:Cx) (f:Value→Value→Sem Value) (r:R2):Prop:=
 ∀ (pins:List (Addr×Obj)) (s:Shared) (σ:St) (H:Hp) (x y:V) (v u:Value) (Q:VK),Inv X pins σ H s→RelV x v→RelV y u→r x y H Q →
  wpAny (model X.prog X.w) X.A (f v u) (EP X pins σ Q) X.xe s
noncomputable def UnR (X:Cx) (f:Value→Sem Value) (r:V→Hp→VK→Prop):Prop:=
 ∀ (pins:List (Addr×Obj)) (s:Shared) (σ:St) (H:Hp) (x:V) (v:Value) (Q:VK),Inv X pins σ H s→RelV x v→r x H Q →
  wpAny (model X.prog X.w) X.A (f v) (EP X pins σ Q) X.xe s
noncomputable def CallR (X:Cx) (f:Value) (r:List V→Hp→VK→Prop):Prop:=
 ∀ (pins:List (Addr×Obj)) (s:Shared) (σ:St) (H:Hp) (xs:List V) (us:List Value) (Q:VK),Inv X pins σ H s→Vals xs us→r xs H Q →
  wpAny (model X.prog X.w) X.A (call f us) (EP X pins σ Q) X.xe s
noncomputable def TruR (X:Cx) (r:V→Hp→(Bool→Hp→Prop)→Prop):Prop:=
 ∀ (pins:List (Addr×Obj)) (s:Shared) (σ:St) (H:Hp) (x:V) (v:Value) (Q:Bool→Hp→Prop),Inv X pins σ H s→RelV x v→r x H Q →
  wpAny (model X.prog X.w) X.A (truthy v) (TP X pins σ Q) X.xe s
noncomputable def tOp (r:R2) (ta tb:TE):TE:=fun σ H Q=>ta σ H fun x H1=>tb σ H1 fun y H2=>r x y H2 Q
noncomputable def tUn (r:V→Hp→VK→Prop) (ta:TE):TE:=fun σ H Q=>ta σ H fun x H1=>r x H1 Q
noncomputable def rI (C:Int→Int→Prop) (g:Int→Int→V):R2:=fun x y H Q=>∃ i j,x = .int i∧y = .int j∧C i j∧Q (g i j) H
noncomputable def rI0 (g:Int→Int→V):R2:=fun x y H Q=>∃ i j,x = .int i∧y = .int j∧Q (g i j) H
noncomputable def rU (g:Int→V):V→Hp→VK→Prop:=fun x H Q=>∃ i,x = .int i∧Q (g i) H
section
variable {X:Cx}{a b c:Expr}{ta tb tc:TE}{pos:Pos}
theorem binT (ha:PE X a ta) (hb:PE X b tb) {pins:List (Addr×Obj)}{s:Shared}{σ:St}{H:Hp}{R:V→V→Hp→Prop}(I:Inv X pins σ H s)
 (h:ta σ H fun x H1=>tb σ H1 fun y H2=>R x y H2) {Q:Value→Shared→Prop} {f:Value→Value→Sem Value}
 (hf:∀ v u s2 x y H2,Inv X pins σ H2 s2→RelV x v→RelV y u→R x y H2→wpAny (model X.prog X.w) X.A (f v u) Q X.xe s2) :
 wpAny (model X.prog X.w) X.A (eval a X.env) (fun v s₁=>wpAny (model X.prog X.w) X.A (eval b X.env) (fun u s₂=>wpAny (model X.prog X.w) X.A (f v u) Q X.xe s₂) X.xe s₁) X.xe s:=by
 refine thn (ha pins s σ H _ I h) fun v s1 ⟨x,H1,I1,r1,q1⟩=>?_
 refine thn (hb pins s1 σ H1 _ I1 q1) fun u s2 ⟨y,H2,I2,r2,q2⟩=>?_
 exact hf v u s2 x y H2 I2 r1 r2 q2
theorem pe_op {op:Operator}{r:R2}(ho:OpR X (binaryOp op) r) (ha:PE X a ta) (hb:PE X b tb):PE X (.BinOp a op b pos) (tOp r ta tb):=by
 intro pins s σ H Q I h
 exact wpAny_BinOp (binT ha hb I h fun v u s2 x y H2 I2 rx ry q=>ho pins s2 σ H2 x y v u Q I2 rx ry q)
theorem pe_un {op:UnaryOp}{r:V→Hp→VK→Prop}(ho:UnR X (unaryOp op) r) (ha:PE X a ta):PE X (.UnaryOp op a pos) (tUn r ta):=by
 intro pins s σ H Q I h
 exact UnaryOp_ (thn (ha pins s σ H _ I h) fun v s1 ⟨x,H1,I1,r1,q1⟩=>ho pins s1 σ H1 x v Q I1 r1 q1)
theorem opI {f:Value→Value→Sem Value}{C:Int→Int→Prop}{g:Int→Int→Int}
 (rule:∀ (i j:Int) (t u:Tok) (s:Shared) (Q:Value→Shared→Prop) (E:Value→Shared→Prop),C i j→Q (.int (g i j) s.toks) { s with toks:=s.toks+1 }→wpAny (model X.prog X.w) X.A (f (.int i t) (.int j u)) Q E s) :
 OpR X f (rI C fun i j=>.int (g i j)):=by
 intro pins s σ H x y v u Q I rx ry h
 obtain ⟨i,j,rfl,rfl,hc,q⟩:=h
 obtain ⟨t,rfl⟩:=rx
 obtain ⟨t',rfl⟩:=ry
 exact rule i j t t' s _ _ hc ⟨.int (g i j),H,I.tok _,⟨_,rfl⟩,q⟩
theorem opI0 {f:Value→Value→Sem Value}{g:Int→Int→Int}
 (rule:∀ (i j:Int) (t u:Tok) (s:Shared) (Q:Value→Shared→Prop) (E:Value→Shared→Prop),Q (.int (g i j) s.toks) { s with toks:=s.toks+1 }→wpAny (model X.prog X.w) X.A (f (.int i t) (.int j u)) Q E s) :
 OpR X f (rI0 fun i j=>.int (g i j)):=by
 intro pins s σ H x y v u Q I rx ry h
 obtain ⟨i,j,rfl,rfl,q⟩:=h
 obtain ⟨t,rfl⟩:=rx
 obtain ⟨t',rfl⟩:=ry
 exact rule i j t t' s _ _ ⟨.int (g i j),H,I.tok _,⟨_,rfl⟩,q⟩
theorem opB0 {f:Value→Value→Sem Value}{g:Int→Int→Bool}
 (rule:∀ (i j:Int) (t u:Tok) (s:Shared) (Q:Value→Shared→Prop) (E:Value→Shared→Prop),Q (.bool (g i j)) s→wpAny (model X.prog X.w) X.A (f (.int i t) (.int j u)) Q E s) :
 OpR X f (rI0 fun i j=>.bl (g i j)):=by
 intro pins s σ H x y v u Q I rx ry h
 obtain ⟨i,j,rfl,rfl,q⟩:=h
 obtain ⟨t,rfl⟩:=rx
 obtain ⟨t',rfl⟩:=ry
 exact rule i j t t' s _ _ ⟨.bl (g i j),H,I,rfl,q⟩
noncomputable def CPow (i j:Int):Prop:=0≤j∧j≤1000000∧i.natAbs<2^64
noncomputable def CMul (i j:Int):Prop:=(-(2^64)<i∧i<2^64)∨(-(2^64)<j∧j<2^64)
theorem CMul.ok {i j:Int}(h:CMul i j):IntMulOk i j:=by
 rcases h with ⟨h1,h2⟩ | ⟨h1,h2⟩
 · exact .of_left (intBits_le_64 h1 h2)
 · exact .of_right (intBits_le_64 h1 h2)
theorem op_add:OpR X (binaryOp .Add) (rI0 fun i j=>.int (i+j)):=opI0 fun _ _ _ _ _ _ _ q=>add_int q
theorem op_sub:OpR X (binaryOp .Sub) (rI0 fun i j=>.int (i-j)):=opI0 fun _ _ _ _ _ _ _ q=>sub_int q
theorem op_mul:OpR X (binaryOp .Mult) (rI CMul fun i j=>.int (i*j)):=opI fun _ _ _ _ _ _ _ hc q=>mul_int q hc.ok
theorem op_mod:OpR X (binaryOp .Mod) (rI (fun _ j=>0<j) fun i j=>.int (i%j)):=opI fun i j _ _ _ _ _ hc q=>by
 have h1:(0:Int)<j:=hc
 exact mod_int' (by omega) (by rw [Int.fmod_eq_emod_of_nonneg i (by omega)];exact q)
theorem op_pow:OpR X (binaryOp .Pow) (rI CPow fun i j=>.int (i^j.toNat)):=opI fun _ _ _ _ _ _ _ hc q=>pow_int_small hc.1 hc.2.1 hc.2.2 q
theorem op_xor:OpR X (binaryOp .BitXor) (rI0 fun i j=>.int (Builtin.bitXor i j)):=opI0 fun _ _ _ _ _ _ _ q=>xor_int q
theorem unI {f:Value→Sem Value}{g:Int→Int}
 (rule:∀ (i:Int) (t:Tok) (s:Shared) (Q:Value→Shared→Prop) (E:Value→Shared→Prop),Q (.int (g i) s.toks) { s with toks:=s.toks+1 }→wpAny (model X.prog X.w) X.A (f (.int i t)) Q E s) :
 UnR X f (rU fun i=>.int (g i)):=by
 intro pins s σ H x v Q I rx h
 obtain ⟨i,rfl,q⟩:=h
 obtain ⟨t,rfl⟩:=rx
 exact rule i t s _ _ ⟨.int (g i),H,I.tok _,⟨_,rfl⟩,q⟩
theorem un_neg:UnR X (unaryOp .USub) (rU fun i=>.int (-i)):=unI fun _ _ _ _ _ q=>neg_int q
end
noncomputable def scal:V→V→Bool
 | .non,.non=>true | .non,.int _=>true | .int _,.non=>true | .non,.bl _=>true | .bl _,.non=>true | .non,.str _=>true | .str _,.non=>true
 | .int _,.int _=>true | .bl _,.bl _=>true | .str _,.str _=>true | .byt _,.byt _=>true
 | .int _,.str _=>true | .str _,.int _=>true | .bl _,.str _=>true | .str _,.bl _=>true
 | _,_=>false
noncomputable def rEq:R2:=fun x y H Q=>scal x y=true∧Q (.bl (decide (x=y))) H
noncomputable def rNe:R2:=fun x y H Q=>scal x y=true∧Q (.bl (!decide (x=y))) H
theorem dec_int {i j:Int}:decide (V.int i=V.int j)=(i==j):=by
 rw [Bool.eq_iff_iff]
 simp
theorem dec_bl {i j:Bool}:decide (V.bl i=V.bl j)=(i==j):=by
 rw [Bool.eq_iff_iff]
 simp
theorem dec_str {i j:Str}:decide (V.str i=V.str j)=(i==j):=by
 rw [Bool.eq_iff_iff]
 simp
theorem dec_byt {i j:Array UInt8}:decide (V.byt i=V.byt j)=(i.toList==j.toList):=by
 rw [Bool.eq_iff_iff]
 cases i
 cases j
 simp
section
variable {X:Cx}{a b c:Expr}{ta tb tc:TE}{pos:Pos}
theorem fin_bl {pins:List (Addr×Obj)}{σ:St}{H:Hp}{s:Shared}{Q:VK}{k k':Bool}(I:Inv X pins σ H s) (q:Q (.bl k) H) (e:k=k'):EP X pins σ Q (.bool k') s:=by
 subst e
 exact ⟨.bl k,H,I,rfl,q⟩
theorem op_eq:OpR X (compareOp .Eq) rEq:=by
 intro pins s σ H x y v u Q I rx ry h
 obtain ⟨hs,q⟩:=h
 cases x with
 | non=>
  cases rx
  cases y with
  | non=>cases ry;exact PySem.EqNone.eq_none_none (fin_bl I q (by simp))
  | bl j=>cases ry;exact PySem.EqNone.eq_none_bool (fin_bl I q (by simp))
  | int j=>obtain ⟨t',rfl⟩:=ry;exact PySem.EqNone.eq_none_int (fin_bl I q (by simp))
  | str j=>obtain ⟨t',rfl⟩:=ry;exact PySem.EqNone.eq_none_str (fin_bl I q (by simp))
  | _=>exact absurd (show false=true from hs) Bool.false_ne_true
 | bl i=>
  cases rx
  cases y with
  | non=>cases ry;exact PySem.EqNone.eq_bool_none (fin_bl I q (by simp))
  | bl j=>cases ry;exact eq_bool (fin_bl I q dec_bl)
  | str j=>obtain ⟨t',rfl⟩:=ry;exact PySem.EqMixed.eq_bool_str (fin_bl I q (by simp))
  | _=>exact absurd (show false=true from hs) Bool.false_ne_true
 | int i=>
  obtain ⟨t,rfl⟩:=rx
  cases y with
  | non=>cases ry;exact PySem.EqNone.eq_int_none (fin_bl I q (by simp))
  | int j=>obtain ⟨t',rfl⟩:=ry;exact eq_int (fin_bl I q dec_int)
  | str j=>obtain ⟨t',rfl⟩:=ry;exact PySem.EqMixed.eq_int_str (fin_bl I q (by simp))
  | _=>exact absurd (show false=true from hs) Bool.false_ne_true
 | str i=>
  obtain ⟨t,rfl⟩:=rx
  cases y with
  | non=>cases ry;exact PySem.EqNone.eq_str_none (fin_bl I q (by simp))
  | bl j=>cases ry;exact PySem.EqMixed.eq_str_bool (fin_bl I q (by simp))
  | int j=>obtain ⟨t',rfl⟩:=ry;exact PySem.EqMixed.eq_str_int (fin_bl I q (by simp))
  | str j=>obtain ⟨t',rfl⟩:=ry;exact eq_str (fin_bl I q dec_str)
  | _=>exact absurd (show false=true from hs) Bool.false_ne_true
 | byt i=>
  obtain ⟨t,rfl⟩:=rx
  cases y with
  | byt j=>obtain ⟨t',rfl⟩:=ry;exact PySem.W.eq_bytes (fin_bl I q dec_byt)
  | _=>exact absurd (show false=true from hs) Bool.false_ne_true
 | _=>cases y<;>exact absurd (show false=true from hs) Bool.false_ne_true
theorem op_ne:OpR X (compareOp .NotEq) rNe:=by
 intro pins s σ H x y v u Q I rx ry h
 obtain ⟨hs,q⟩:=h
 cases x with
 | non=>
  cases rx
  cases y with
  | non=>cases ry;exact PySem.EqNone.ne_none_none (fin_bl I q (by simp))
  | bl j=>cases ry;exact PySem.EqNone.ne_none_bool (fin_bl I q (by simp))
  | int j=>obtain ⟨t',rfl⟩:=ry;exact PySem.EqNone.ne_none_int (fin_bl I q (by simp))
  | str j=>obtain ⟨t',rfl⟩:=ry;exact PySem.EqNone.ne_none_str (fin_bl I q (by simp))
  | _=>exact absurd (show false=true from hs) Bool.false_ne_true
 | bl i=>
  cases rx
  cases y with
  | non=>cases ry;exact PySem.EqNone.ne_bool_none (fin_bl I q (by simp))
  | bl j=>cases ry;exact ne_bool (fin_bl I q (congrArg not dec_bl))
  | str j=>obtain ⟨t',rfl⟩:=ry;exact PySem.EqMixed.ne_bool_str (fin_bl I q (by simp))
  | _=>exact absurd (show false=true from hs) Bool.false_ne_true
 | int i=>
  obtain ⟨t,rfl⟩:=rx
  cases y with
  | non=>cases ry;exact PySem.EqNone.ne_int_none (fin_bl I q (by simp))
  | int j=>obtain ⟨t',rfl⟩:=ry;exact ne_int (fin_bl I q (congrArg not dec_int))
  | str j=>obtain ⟨t',rfl⟩:=ry;exact PySem.EqMixed.ne_int_str (fin_bl I q (by simp))
  | _=>exact absurd (show false=true from hs) Bool.false_ne_true
 | str i=>
  obtain ⟨t,rfl⟩:=rx
  cases y with
  | non=>cases ry;exact PySem.EqNone.ne_str_none (fin_bl I q (by simp))
  | bl j=>cases ry;exact PySem.EqMixed.ne_str_bool (fin_bl I q (by simp))
  | int j=>obtain ⟨t',rfl⟩:=ry;exact PySem.EqMixed.ne_str_int (fin_bl I q (by simp))
  | str j=>obtain ⟨t',rfl⟩:=ry;exact ne_str (fin_bl I q (congrArg not dec_str))
  | _=>exact absurd (show false=true from hs) Bool.false_ne_true
 | byt i=>
  obtain ⟨t,rfl⟩:=rx
  cases y with
  | byt j=>obtain ⟨t',rfl⟩:=ry;exact PySem.W.ne_bytes (fin_bl I q (congrArg not dec_byt))
  | _=>exact absurd (show false=true from hs) Bool.false_ne_true
 | _=>cases y<;>exact absurd (show false=true from hs) Bool.false_ne_true
theorem op_lt:OpR X (compareOp .Lt) (rI0 fun i j=>.bl (decide (i<j))):=opB0 fun _ _ _ _ _ _ _ q=>lt_int q
theorem op_le:OpR X (compareOp .LtE) (rI0 fun i j=>.bl (decide (i≤j))):=opB0 fun _ _ _ _ _ _ _ q=>le_int q
theorem op_gt:OpR X (compareOp .Gt) (rI0 fun i j=>.bl (decide (j<i))):=opB0 fun _ _ _ _ _ _ _ q=>gt_int q
theorem nomark (b:Expr) {op:CmpOp}(h:op≠.In:=by decide) (h2:op≠.NotIn:=by decide):behindInMarks op b=false:=by
 have e1:(op==CmpOp.In)=false:=by cases op<;>first | rfl | exact absurd rfl h
 have e2:(op==CmpOp.NotIn)=false:=by cases op<;>first | rfl | exact absurd rfl h2
 cases b<;>simp [behindInMarks,e1,e2]
theorem pe_cmpR {op:CmpOp}{r:R2}(ho:OpR X (compareOp op) r) (ha:PE X a ta) (hb:PE X b tb) (hm:behindInMarks op b=false):PE X (.Compare a [op] [b] pos) (tOp r ta tb):=by
 intro pins s σ H Q I h
 exact wpAny_Compare1 (binT ha hb I h fun v u s2 x y H2 I2 rx ry q=>ho pins s2 σ H2 x y v u Q I2 rx ry q) hm
noncomputable def tTest (t:TE):TT:=fun σ H Q=>t σ H fun x H'=>∃ k,x = .bl k∧Q k H'
theorem pt_cmpR {op:CmpOp}{r:R2}(ho:OpR X (compareOp op) r) (ha:PE X a ta) (hb:PE X b tb) (hm:behindInMarks op b=false):PT X (.Compare a [op] [b] pos) (tTest (tOp r ta tb)):=by
 intro pins s σ H Q I h
 refine wpAny_isTrue_Compare1 (thn (ha pins s σ H _ I h) fun v s1 ⟨x,H1,I1,r1,q1⟩=>thn (hb pins s1 σ H1 _ I1 q1) fun u s2 ⟨y,H2,I2,r2,q2⟩=>
  thn (ho pins s2 σ H2 x y v u _ I2 r1 r2 q2) fun c s3 ⟨z,H3,I3,r3,k,e,q3⟩=>?_) hm
 subst e
 cases r3
 exact wpAny_truthy_bool ⟨H3,I3,q3⟩
noncomputable def tChain (r r':R2) (ta tb tc:TE):TE:=fun σ H Q=>ta σ H fun x H1=>tb σ H1 fun y H2=>r x y H2 fun z H3=>∃ k,z = .bl k ∧
 (if k=true then tc σ H3 fun w' H4=>r' y w' H4 Q else Q (.bl false) H3)
theorem pe_chain {op op':CmpOp}{r r':R2}(ho:OpR X (compareOp op) r) (ho':OpR X (compareOp op') r') (ha:PE X a ta) (hb:PE X b tb) (hc:PE X c tc)
 (hm:lastMarks [op,op'] [b,c]=false:=by with_unfolding_all rfl):PE X (.Compare a [op,op'] [b,c] pos) (tChain r r' ta tb tc):=by
 intro pins s σ H Q I h
 refine Compare_chain (thn (ha pins s σ H _ I h) fun v s1 ⟨x,H1,I1,r1,q1⟩=>chain_link (thn (hb pins s1 σ H1 _ I1 q1) fun u s2 ⟨y,H2,I2,r2,q2⟩=>
  thn (ho pins s2 σ H2 x y v u _ I2 r1 r2 q2) fun d s3 ⟨z,H3,I3,r3,k,e,q3⟩=>?_)) hm
 subst e
 cases r3
 refine wpAny_truthy_bool ?_
 cases k with
 | false=>exact ite_ff ⟨.bl false,H3,I3,rfl,q3⟩
 | true=>exact ite_tt (chain_last (thn (hc pins s3 σ H3 _ I3 q3) fun w' s4 ⟨z',H4,I4,r4,q4⟩=>ho' pins s4 σ H4 y z' u w' Q I4 r2 r4 q4))
noncomputable def TruV (K:PySem.W.Frag) (x:V) (H:Hp) (k:Bool):Prop:=
 match x with
 | .non=>k=false
 | .bl b=>k=b
 | .int i=>k=(i != 0)
 | .str y=>y.length≤sizeLine∧k=((y.length:Int) != 0)
 | .byt y=>y.size≤sizeLine∧k=((y.size:Int) != 0)
 | .ref p=>(∃ xs,SqL K H p xs∧k = !xs.isEmpty)∨(∃ xs,SqT K H p xs∧k = !xs.isEmpty)∨∃ kvs,H p=some (.dK kvs)∧k = !kvs.isEmpty
 | _=>False
theorem isEmpty_kv {κ:Type}{kvs:List (κ×V)}{vs:List (κ×Value)}(r:KV kvs vs):(!vs.isEmpty) = !kvs.isEmpty:=by
 cases r<;>rfl
theorem isEmpty_of {xs:List V}{its:List Value}(r:Vals xs its):(!its.toArray.isEmpty) = !xs.isEmpty:=by
 cases r<;>simp
theorem line63:(sizeLine:Nat)<2^63:=by rw [sizeLine_eq];decide
theorem tru_ok:TruR X (fun x H Q=>∃ k,TruV X.K x H k∧Q k H):=by
 intro pins s σ H x v Q I rx h
 obtain ⟨k,e,q⟩:=h
 have hl:=line63
 have hs:sizeLine=16777216:=sizeLine_eq
 cases x with
 | non=>
  cases rx
  have e':k=false:=e
  subst e'
  exact truthy_none ⟨H,I,q⟩
 | bl b=>
  cases rx
  have e':k=b:=e
  subst e'
  exact wpAny_truthy_bool ⟨H,I,q⟩
 | int i=>
  obtain ⟨t,rfl⟩:=rx
  have e':k=(i != 0):=e
  subst e'
  exact PySem.P.truthy_int ⟨H,I,q⟩
 | str y=>
  obtain ⟨t,rfl⟩:=rx
  obtain ⟨hy,e'⟩:y.length≤sizeLine∧k=((y.length:Int) != 0):=e
  subst e'
  exact PySem.P.truthy_str (by omega) ⟨H,I.tok _,q⟩
 | byt y=>
  obtain ⟨t,rfl⟩:=rx
  obtain ⟨hy,e'⟩:y.size≤sizeLine∧k=((y.size:Int) != 0):=e
  subst e'
  exact PySem.W.truthy_bytes (by omega) ⟨H,I.tok _,q⟩
 | ref p=>
  cases rx
  have e':(∃ xs,SqL X.K H p xs∧k = !xs.isEmpty)∨(∃ xs,SqT X.K H p xs∧k = !xs.isEmpty)∨∃ kvs,H p=some (.dK kvs)∧k = !kvs.isEmpty:=e
  rcases e' with ⟨xs,hx,e'⟩ | ⟨xs,hx,e'⟩ | ⟨kvs,hx,e'⟩
  · subst e'
    obtain ⟨its,r,pl,hz⟩:=I.list hx
    have hlen:=r.length
    exact wpAny_truthy_list pl.isList (by simp only [List.size_toArray];omega) ⟨H,I.tok _,by rw [isEmpty_of r];exact q⟩
  · subst e'
    obtain ⟨its,r,pl,hz⟩:=I.tuple hx
    have hlen:=r.length
    exact truthy_tuple pl (by simp only [List.size_toArray];omega) ⟨H,I.tok _,by rw [isEmpty_of r];exact q⟩
  · subst e'
    obtain ⟨hz,hS,vs,r,m⟩:kvs.length≤sizeLine∧(p==sysModules)=false∧∃ vs,KV kvs vs∧s.heap.DictOf (mixKind X.prog X.w) p vs:=I.hok p _ hx
    have hlen:kvs.length=vs.length:=Paired.length r
    exact wpAny_truthy_dict hS m (by omega) ⟨H,I.tok _,by rw [isEmpty_kv r];exact q⟩
 | _=>exact (show False from e).elim
theorem pt_truth (ha:PE X a ta) (he:∀ whole,isTrue a X.env whole=(do let v ← whole;standAt a.pos;holding [v] (truthy v))) :
 PT X a (fun σ H Q=>ta σ H fun x H'=>∃ k,TruV X.K x H' k∧Q k H'):=by
 intro pins s σ H Q I h
 exact isTrue_plain (thn (ha pins s σ H _ I h) fun v s1 ⟨x,H1,I1,r1,q1⟩=>tru_ok pins s1 σ H1 x v Q I1 r1 q1) (he _)
theorem vals1 {x:V}{us:List Value}(r:Vals [x] us):∃ u,us=[u]∧RelV x u:=by
 cases r with
 | cons r1 r2=>cases r2;exact ⟨_,rfl,r1⟩
theorem vals2 {x y:V}{us:List Value}(r:Vals [x,y] us):∃ u w',us=[u,w']∧RelV x u∧RelV y w':=by
 cases r with
 | cons r1 r2=>
  cases r2 with
  | cons r3 r4=>cases r4;exact ⟨_,_,rfl,r1,r3⟩
end
structure ObjM (h:Heap) (x dx C:Addr) (mA:Str→Option Value):Prop where
 obj:h.get? x=some (PySem.W.instObj C dx)
 ns:h.Ns1 dx mA
 ne:dx≠x
theorem lookIn_ns {h:Heap}{dx:Addr}{mA:Str→Option Value}(n:h.Ns1 dx mA):∃ od,h.get? dx=some od∧∀ name,PySem.W.lookIn name od=some (mA name):=by
 obtain ⟨o,es,ep,ho,hd,hk,_,hm⟩:=n
 refine ⟨o,ho,fun name=>?_⟩
 have e:=hm name
 unfold nsFind findBy at e
 rw [← Array.find?_toList] at e
 unfold PySem.W.lookIn
 rw [hd]
 dsimp only
 split
 · rename_i y q
   rw [q] at e
   exact congrArg some e
 · rename_i q
   rw [q] at e
   have a:es.toList.any (·.refKey)=false:=by
    rw [List.any_eq_false]
    intro y hy
    obtain ⟨z,t,hkey⟩:=hk y (Array.mem_toList_iff.mp hy)
    simp [DictEntry.refKey,hkey]
   have a':¬ es.toList.any (·.refKey)=true:=by rw [a];exact Bool.false_ne_true
   rw [if_neg a']
   exact congrArg some e
theorem ObjM.look {h:Heap}{x dx C:Addr}{mA:Str→Option Value}(I:ObjM h x dx C mA):∃ od,PySem.W.InstAt h x (PySem.W.instObj C dx) C (some od)∧∀ name,PySem.W.lookIn name od=some (mA name):=
 let ⟨od,ho,hl⟩:=lookIn_ns I.ns
 ⟨od,⟨I.obj,rfl,rfl,ho⟩,hl⟩
section
variable {prog:Program}{w:World}{A:Around}{E:Value→Shared→Prop}{s:Shared}{K:PySem.W.Frag}{x dx C f:Addr}{mA:Str→Option Value}{name:Str}{v:Value}
end
theorem RelO.some_of {v:V}{o:Option Value}(r:RelO (some v) o):∃ u,o=some u∧RelV v u:=by
 cases o with
 | none=>exact (show False from r).elim
 | some u=>exact ⟨u,rfl,r⟩
section
variable {P:Program}{w:World}{H H':Hp}{h h':Heap}{a C dx:Addr}{fs fs':List (Str×V)}
theorem ins_get (hok:HOk P w H h) (e:H a=some (.ins C dx fs)):∃ mA,ObjM h a dx C mA∧(∀ f,RelO (fs.lookup f) (mA f))∧PySem.Within mA (fs.map (·.1))∧fs.length≤1000∧H dx=some (.own a):=by
 obtain ⟨d,z,ne,ob,mA,n,r,q⟩:=(show ObjOk P w H h a (.ins C dx fs) from hok a _ e)
 exact ⟨mA,⟨ob,n,ne⟩,r,q,z,d⟩
end
structure Cls (K:PySem.W.Frag) (C:Addr):Prop where
 pg:PySem.W.plainGet K C Str.empty=true
 hd:PySem.W.hasDictIn K C=true
 po:PySem.W.plainOver K C=true
 sa:PySem.W.findIn K (.ref C) "__setattr__" = some (some (.builtin "object.__setattr__"))
theorem Cls.get {K:PySem.W.Frag}{C:Addr}(c:Cls K C) (f:Str):PySem.W.plainGet K C f=true:=c.pg
section
variable {X:Cx}{pins:List (Addr×Obj)}{σ:St}{H:Hp}{s:Shared}{a C dx:Addr}{fs:List (Str×V)}{f:Str}{v:V}{A:Around}{E:Value→Shared→Prop}
end
section
variable {X:Cx}{o e value:Expr}{f:Str}{pos pos' tpos:Pos}{ta tv:TE}
end
section
variable {X:Cx}{pins:List (Addr×Obj)}{σ:St}{H:Hp}{s:Shared}{A:Around}{E:Value→Shared→Prop}{Q:Value→Shared→Prop}{c:Value}{b:Bool}
inductive TyOf (K:PySem.W.Frag) (H:Hp):V→Value→Prop where
 | non:TyOf K H .non (.type "NoneType")
 | bl (x:Bool):TyOf K H (.bl x) (.type "bool")
 | int (i:Int):TyOf K H (.int i) (.type "int")
 | str (x:Str):TyOf K H (.str x) (.type "str")
 | flt (x:UInt64):TyOf K H (.flt x) (.type "float")
 | lst {a:Addr} {xs:List V} (e:H a=some (.lst xs)):TyOf K H (.ref a) (.type "list")
 | frz {a:Addr} {o:Obj} {xs:List V} (e:H a=some (.frz o (.lst xs))):TyOf K H (.ref a) (.type "list")
 | tup {a:Addr} {xs:List V} (e:H a=some (.tup xs)):TyOf K H (.ref a) (.type "tuple")
 | dK {a:Addr} {kvs:List (Key×V)} (e:H a=some (.dK kvs)):TyOf K H (.ref a) (.type "dict")
 | dT {a:Addr} {kvs:List (List Key×V)} (e:H a=some (.dT kvs)):TyOf K H (.ref a) (.type "dict")
 | ins {a C dx:Addr} {fs:List (Str×V)} (e:H a=some (.ins C dx fs)) (cl:Cls K C) (ha:PySem.W.findIn K (.ref C) "__class__" = some (some (.builtin "object.__class__")))
  (hn:PySem.W.specialIn K (.builtin "object.__class__") "__get__" = some (some (.builtin "getset_descriptor.__get__"))) (htk:PySem.W.takesIn K (.builtin "object.__class__")=some true)
  (hm:PySem.W.mroIn K C (.type "object")=some true):TyOf K H (.ref a) (.ref C)
theorem isinst_ok {x:V}{u t:Value}(I:Inv X pins σ H s) (rx:RelV x u) (ty:TyOf X.K H x t) (e:PySem.W.kitOne X.K t c=some b) (h:∀ tk,Q (.bool b) { s with toks:=tk }) :
 wpAny (model X.prog X.w) A (call (.builtin "isinstance") [u,c]) Q E s:=by
 cases ty with
 | non=>cases (show u=Value.none from rx);exact PySem.W.kia_one PySem.W.kitx_none I.kIn True.intro e (fun z=>nomatch z) h
 | bl y=>cases (show u=Value.bool y from rx);exact PySem.W.kia_one PySem.W.kitx_bool I.kIn True.intro e (fun z=>nomatch z) h
 | int i=>obtain ⟨t,q⟩:=(show ∃ t,u=Value.int i t from rx);cases q;exact PySem.W.kia_one PySem.W.kitx_int I.kIn True.intro e (fun z=>nomatch z) h
 | str y=>obtain ⟨t,q⟩:=(show ∃ t,u=Value.str y t from rx);cases q;exact PySem.W.kia_one PySem.W.kitx_str I.kIn True.intro e (fun z=>nomatch z) h
 | flt y=>obtain ⟨t,q⟩:=(show ∃ t,u=Value.float y t from rx);cases q;exact PySem.W.kia_one PySem.W.kitx_float I.kIn True.intro e (fun z=>nomatch z) h
 | @lst a xs ea=>
  cases (show u=Value.ref a from rx)
  obtain ⟨_,_,n,_,h1⟩:=(show ObjOk X.prog X.w H s.heap a (.lst xs) from I.hok a _ ea)
  exact PySem.W.kia_one PySem.W.kitx_list I.kIn ⟨_,h1,rfl⟩ e (fun z=>nomatch z) h
 | @frz a ob xs ea=>
  cases (show u=Value.ref a from rx)
  obtain ⟨_,_,_,n,_,h1⟩:=(show ObjOk X.prog X.w H s.heap a (.frz ob (.lst xs)) from I.hok a _ ea)
  exact PySem.W.kia_one PySem.W.kitx_list I.kIn ⟨_,h1,rfl⟩ e (fun z=>nomatch z) h
 | @tup a xs ea=>
  cases (show u=Value.ref a from rx)
  obtain ⟨_,_,_,p⟩:=(show ObjOk X.prog X.w H s.heap a (.tup xs) from I.hok a _ ea)
  obtain ⟨o,h1,h2,_⟩:=p
  exact PySem.W.kia_one PySem.W.kitx_tuple I.kIn ⟨o,h1,h2⟩ e (fun z=>nomatch z) h
 | @dK a kvs ea=>
  cases (show u=Value.ref a from rx)
  obtain ⟨_,_,vs,_,p⟩:=(show ObjOk X.prog X.w H s.heap a (.dK kvs) from I.hok a _ ea)
  obtain ⟨o,es,ep,h1,h2,_⟩:=p
  exact PySem.W.kia_one PySem.W.kitx_dict I.kIn ⟨o,h1,h2.1⟩ e (fun z=>nomatch z) h
 | @dT a kvs ea=>
  cases (show u=Value.ref a from rx)
  obtain ⟨_,_,xs,_,o,es,ep,h1,h2,_⟩:=(show ObjOk X.prog X.w H s.heap a (.dT kvs) from I.hok a _ ea)
  exact PySem.W.kia_one PySem.W.kitx_dict I.kIn ⟨o,h1,h2.1⟩ e (fun z=>nomatch z) h
 | @ins a C dx fs ea cl ha hn htk hm=>
  cases (show u=Value.ref a from rx)
  obtain ⟨mA,O,_⟩:=ins_get I.hok ea
  obtain ⟨od,J,_⟩:=O.look
  exact PySem.W.kia_one (PySem.W.kitx_own (cl.get _) cl.hd ha hn htk hm) I.kIn J e (fun z=>nomatch z) h
end
structure Room (k:Nat) (A:Around):Prop where
 hd:A.handled=none
 dp:A.depth+3*k+5<recursionLimit
 un:A.units+16*k+200<cLine
 gd:A.guards=some []
theorem Room.mono {j k:Nat}{A:Around}(r:Room k A) (h:j≤k):Room j A:=⟨r.hd,by have:=r.dp;omega,by have:=r.un;omega,r.gd⟩
theorem Room.deeper {k:Nat}{A:Around}(r:Room (k+1) A) (env:Env):Room k (A.deeper env):=
 ⟨r.hd,by have:=r.dp;show A.depth+1+3*k+5<_;omega,by have:=r.un;show A.units+3+16*k+200<_;omega,r.gd⟩
theorem Room.depth {k:Nat}{A:Around}(r:Room k A):A.depth<recursionLimit:=by have:=r.dp;omega
theorem Room.units {k:Nat}{A:Around}(r:Room k A):A.units+64<cLine:=by have:=r.un;omega
noncomputable def tNil:TA:=fun _ H Q=>Q [] H
noncomputable def tCons (ta:TE) (tr:TA):TA:=fun σ H Q=>ta σ H fun x H1=>tr σ H1 fun xs H2=>Q (x::xs) H2
section
variable {X:Cx}{e:Expr}{es:List Expr}{te:TE}{t:TA}{pos:Pos}
theorem pa_nil:PA X [] tNil:=fun _ _ _ _ H Q I h=>Calls.spliced_nil ⟨[],H,I,.nil,h⟩
theorem pa_cons (ha:PE X e te) (hr:PA X es t) (hs:starEach (e::es) X.env=(false,eval e X.env)::starEach es X.env:=by rfl):PA X (e::es) (tCons te t):=by
 intro pos pins s σ H Q I h
 rw [hs]
 show wpAny _ _ (spliced ((false,eval e X.env)::backTo pos (starEach es X.env))) _ _ s
 refine Calls.spliced_cons (thn (ha pins s σ H _ I h) fun u s1 ⟨x,H1,I1,r1,q1⟩=>?_)
 exact thn (hr pos pins s1 σ H1 _ I1 q1) fun us s2 ⟨xs,H2,I2,r2,q2⟩=>⟨x::xs,H2,I2,.cons r1 r2,q2⟩
noncomputable def tTup (t:TA):TE:=fun σ H Q=>t σ H fun xs H1=>xs.length≤sizeLine∧∀ p,H1 p=none→Q (.ref p) (upd H1 p (.tup xs))
noncomputable def tLst (t:TA):TE:=fun σ H Q=>t σ H fun xs H1=>xs.length≤sizeLine∧∀ p,H1 p=none→Q (.ref p) (upd H1 p (.lst xs))
theorem pe_tup {x1} (h:PA X es t):PE X (.Tuple es x1 pos) (tTup t):=by
 intro pins s σ H Q I hq
 refine wpAny_Tuple_spliced (thn (h pos pins s σ H _ I hq) fun us s1 ⟨xs,H1,I1,r,z,q⟩=>⟨by rw [← r.length];exact z,?_⟩)
 have hf:H1 s1.heap.objs.size=none:=I1.hok.fresh (Nat.le_refl _)
 refine ⟨.ref s1.heap.objs.size,upd H1 s1.heap.objs.size (.tup xs),I1.laid (t':=s1.toks) (fun b u e=>Heap.get?_push_of_some _ e) (Nat.le_refl _) ?_,rfl,q _ hf⟩
 exact ⟨z,us,r,⟨_,Heap.get?_push_size _ rfl,rfl,_,rfl⟩⟩
theorem pe_lst (h:PA X es t):PE X (.List es pos) (tLst t):=by
 intro pins s σ H Q I hq
 refine wpAny_List_spliced (thn (h pos pins s σ H _ I hq) fun us s1 ⟨xs,H1,I1,r,z,q⟩=>⟨by rw [← r.length];exact z,?_⟩)
 have hf:H1 s1.heap.objs.size=none:=I1.hok.fresh (Nat.le_refl _)
 refine ⟨.ref s1.heap.objs.size,upd H1 s1.heap.objs.size (.lst xs),I1.laid (t':=s1.toks) (fun b u e=>Heap.get?_push_of_some _ e) (Nat.le_refl _) ?_,rfl,q _ hf⟩
 exact ⟨z,us,0,r,Heap.get?_push_size _ rfl⟩
end
noncomputable abbrev Sp:=List V→Hp→VK→XK→Prop
noncomputable abbrev CXT:=List Env→Hp→Shared→XK→Value→Shared→Prop
structure Env0 (P:Program) (w:World) (K:PySem.W.Frag) (mg:Str→Option Value) (base:Heap) (A:Around) (outer:List Env) (s:Shared) (H:Hp):Prop where
 frames:A.frames=some outer
 mod:Mod K mg base
 bs:∀ b o,base.get? b=some o→s.heap.get? b=some o∧H b=none
 bsz:base.objs.size≤s.heap.objs.size
 funs:s.heap.FunFrames base outer
 frf:∀ b∈frs outer,H b=none
 hok:HOk P w H s.heap
 bare:AllBare s.gens
noncomputable def CE (outer:List Env) (P:Program) (w:World) (H:Hp) (s:Shared) (Q:VK) (u:Value) (s':Shared):Prop:=
 ∃ v H',s'.os=s.os∧AllBare s'.gens∧Un (frs outer) [] H H' s.heap s'.heap∧HOk P w H' s'.heap∧RelV v u∧Q v H'
noncomputable def CR (CX:CXT) (outer:List Env) (P:Program) (w:World) (H:Hp) (s:Shared) (Q:VK) (E:XK) (r:Result) (s':Shared):Prop:=
 match r with
 | .ok (.ret u)=>CE outer P w H s Q u s'
 | .ok _=>False
 | .error e=>CX outer H s E e s'
structure FnOk (P:Program) (w:World) (K:PySem.W.Frag) (mg:Str→Option Value) (base:Heap) (CX:CXT) (k:Nat) (f:Addr) (fd:FuncData) (ps:List Str) (sp:Sp):Prop where
 len:∀ vs H Q E,sp vs H Q E→vs.length=ps.length
 run:∀ (A:Around) (outer:List Env) (s:Shared) (H:Hp) (args:Args) (us:List Value) (vs:List V) (Q:VK) (E:XK),Room k A→Env0 P w K mg base A outer s H→BindsTo s fd args (ps.zip us)→Vals vs us→sp vs H Q E →
  codeAny (model P w) A (.call (.ref f) args) (CR CX outer P w H s Q E) s
theorem FnOk.imp {P:Program}{w:World}{K:PySem.W.Frag}{mg:Str→Option Value}{base:Heap}{CX:CXT}{k:Nat}{f:Addr}{fd:FuncData}{ps:List Str}{sp sp':Sp}(F:FnOk P w K mg base CX k f fd ps sp)
 (h:∀ vs H Q E,sp' vs H Q E→sp vs H Q E):FnOk P w K mg base CX k f fd ps sp':=
 ⟨fun vs H Q E q=>F.len vs H Q E (h _ _ _ _ q),fun A outer s H args us vs Q E hr he hb hv hs=>F.run A outer s H args us vs Q E hr he hb hv (h _ _ _ _ hs)⟩
section
variable {X:Cx}{pins:List (Addr×Obj)}{σ:St}{H:Hp}{s s':Shared}
theorem Inv.env0 (I:Inv X pins σ H s):Env0 X.prog X.w X.K X.mg X.base X.A X.stack s H:=
 ⟨I.ok.frames,I.ok.mod,I.bs,Nat.le_trans I.ok.bsz I.sz,I.stack,I.stkFree,I.hok,I.bare⟩
theorem Inv.after {Q:VK}{u:Value}(I:Inv X pins σ H s) (h:CE X.stack X.prog X.w H s Q u s'):EP X pins σ Q u s':=by
 obtain ⟨v,H',os,bare,un,hok,r,q⟩:=h
 obtain ⟨hh,g,d,t,os'⟩:=s'
 obtain rfl:os'=s.os:=os
 exact ⟨v,H',I.call (h':=hh) (g':=g) (d':=d) (t':=t) (ch:=[]) un hok bare (fun b z=>absurd z (by simp)),r,q⟩
end
noncomputable def tCall (sp:Sp) (dvs:List V) (E:XK) (t:TA):TE:=fun σ H Q=>t σ H fun vs H1=>sp (vs++dvs) H1 Q E
noncomputable def Binds (K:PySem.W.Frag) (fd:FuncData) (ps:List Str) (ds:List Value):Prop:=
 ∀ (s:Shared) (us:List Value),K.In s.heap→(us++ds).length=ps.length→BindsTo s fd ⟨us,[]⟩ (ps.zip (us++ds))
theorem Binds.all {K:PySem.W.Frag}{fd:FuncData}{ps:List Str}(h:∀ us:List Value,us.length=ps.length→bindArgs fd ⟨us,[]⟩=pure (ps.zip us)):Binds K fd ps []:=fun s us _ hl=>by
 rw [List.append_nil] at hl ⊢
 exact .of_eq (h us hl)
noncomputable def Passes (CX:CXT) (X:Cx) (E:XK):Prop:=∀ (pins:List (Addr×Obj)) (σ:St) (H:Hp) (s:Shared) (e:Value) (s':Shared),Inv X pins σ H s→CX X.stack H s E e s'→X.xe e s'
section
variable {X:Cx}{CX:CXT}{k:Nat}{f C:Addr}{fd:FuncData}{ps:List Str}{sp:Sp}{dvs:List V}{ds:List Value}{E:XK}{x m:Str}{p pos apos:Pos}{e o:Expr}{es:List Expr}{ta:TE}{t:TA}
theorem run_fn {pins:List (Addr×Obj)}{σ:St}{H:Hp}{s:Shared}{Q:VK}{us:List Value}{vs:List V}(F:FnOk X.prog X.w X.K X.mg X.base CX k f fd ps sp) (hr:Room k X.A) (hb:Binds X.K fd ps ds) (hd:Vals dvs ds) (hx:Passes CX X E)
 (I:Inv X pins σ H s) (r:Vals vs us) (h:sp (vs++dvs) H Q E):wpAny (model X.prog X.w) X.A (call (.ref f) us) (EP X pins σ Q) X.xe s:=by
 have r2:Vals (vs++dvs) (us++ds):=r.append hd
 have hl:(us++ds).length=ps.length:=by rw [← r2.length];exact F.len _ _ _ _ h
 refine wpAny_call (codeAny_mono (F.run X.A X.stack s H ⟨us,[]⟩ (us++ds) (vs++dvs) Q E hr I.env0 (hb s us I.kIn hl) r2 h) fun r s' hq=>?_)
 cases r with
 | error e=>exact hx pins σ H s e s' I hq
 | ok fl=>
  cases fl with
  | ret u=>exact I.after hq
  | next=>exact False.elim hq
  | brk=>exact False.elim hq
  | cont=>exact False.elim hq
theorem pe_call (F:FnOk X.prog X.w X.K X.mg X.base CX k f fd ps sp) (hr:Room k X.A) (hg:Gl X x) (hm:X.mg x=some (.ref f)) (hk:PySem.W.keepIn X.K (.ref f)=true) (hb:Binds X.K fd ps ds) (hd:Vals dvs ds) (hx:Passes CX X E)
 (ha:PA X (e::es) t) (hdb:(x==("__debug__":Str))=false:=by decide) (he:starEach (e::es) X.env=(false,eval e X.env)::starEach es X.env:=by rfl) (hpl:(backTo pos (starEach es X.env)).any (·.1)=false:=by rfl) :
 PE X (.Call (.Name x p) (e::es) [] pos) (tCall sp dvs E t):=by
 intro pins s σ H Q I h
 refine wpAny_Call_Name_kw (ld_glob I hg hm ?_ hdb)
 refine PySem.W.callWith_K (h₀:=X.base) I.ok.mod.kin hk (thn (ha pos pins s σ H _ I h) fun us s1 ⟨vs,H1,I1,r,q⟩=>⟨I1.kIn,?_⟩) he hpl
 exact run_fn F hr hb hd hx I1 r q
end
section
variable {X:Cx}{CX:CXT}{k:Nat}{f C:Addr}{fd:FuncData}{ps ks:List Str}{sp:Sp}{E:XK}{x m:Str}{p pos apos kpos:Pos}{e o:Expr}{es:List Expr}{kws:List Keyword}{te ta:TE}{t tk:TA}{nm:Option Str}
variable {g:List Value→List Value→List Value}{gV:List V→List V→List V}
end
structure FnScope (N P:List Str) (sc:Scope):Prop where
 kind:sc.kind = .function
 co:sc.isCoroutine=false
 gen:sc.isGenerator=false
 nd:N.Nodup
 pre:N.take P.length=P
 par:∀ x∈P,sc.names.lookup x=some .local ∨ sc.names.lookup x=some .cell
 nofree:∀ y∈sc.names,y.2≠.free
theorem bindL_out {kindOf:Str→Option NameKind}{x:Str}:∀ {binds:List (Str×Value)}{m:Str→Option Value},(∀ v,(x,v)∉binds)→bindL kindOf binds m x=m x
 | [],_,_=>rfl
 | (n,v)::r,m,h=>by
  unfold bindL
  rw [bindL_out fun w hw=>h w (List.mem_cons_of_mem _ hw)]
  split
  · have:x≠n:=by rintro rfl;exact h v List.mem_cons_self
    simp [this]
  · rfl
theorem bindC_out {kindOf:Str→Option NameKind}{x:Str}:∀ {binds:List (Str×Value)}{m:Str→Option Value},(∀ v,(x,v)∉binds)→bindC kindOf binds m x=m x
 | [],_,_=>rfl
 | (n,v)::r,m,h=>by
  unfold bindC
  rw [bindC_out fun w hw=>h w (List.mem_cons_of_mem _ hw)]
  split
  · rfl
  · have:x≠n:=by rintro rfl;exact h v List.mem_cons_self
    simp [this]
theorem bindL_get {kindOf:Str→Option NameKind}{x:Str}{v:Value}:∀ {P:List Str}{vs:List Value}{i:Nat}{m:Str→Option Value},P.Nodup→P[i]? = some x→vs[i]? = some v→kindOf x=some .local →
 bindL kindOf (P.zip vs) m x=some v
 | [],_,_,_,_,h,_,_=>by simp at h
 | _::_,[],_,_,_,_,h,_=>by simp at h
 | p::P,w::vs,0,m,nd,h1,h2,hk=>by
  simp at h1 h2;subst h1;subst h2
  show bindL kindOf ((p,w)::P.zip vs) m p=_
  unfold bindL
  rw [bindL_out fun v hv=>(List.nodup_cons.mp nd).1 (List.of_mem_zip hv).1,if_pos hk]
  simp
 | p::P,w::vs,i+1,m,nd,h1,h2,hk=>by
  show bindL kindOf ((p,w)::P.zip vs) m x=_
  unfold bindL
  exact bindL_get (i:=i) (List.nodup_cons.mp nd).2 (by simpa using h1) (by simpa using h2) hk
theorem bindC_get {kindOf:Str→Option NameKind}{x:Str}{v:Value}:∀ {P:List Str}{vs:List Value}{i:Nat}{m:Str→Option Value},P.Nodup→P[i]? = some x→vs[i]? = some v→kindOf x≠some .local →
 bindC kindOf (P.zip vs) m x=some v
 | [],_,_,_,_,h,_,_=>by simp at h
 | _::_,[],_,_,_,_,h,_=>by simp at h
 | p::P,w::vs,0,m,nd,h1,h2,hk=>by
  simp at h1 h2;subst h1;subst h2
  show bindC kindOf ((p,w)::P.zip vs) m p=_
  unfold bindC
  rw [bindC_out fun v hv=>(List.nodup_cons.mp nd).1 (List.of_mem_zip hv).1,if_neg hk]
  simp
 | p::P,w::vs,i+1,m,nd,h1,h2,hk=>by
  show bindC kindOf ((p,w)::P.zip vs) m x=_
  unfold bindC
  exact bindC_get (i:=i) (List.nodup_cons.mp nd).2 (by simpa using h1) (by simpa using h2) hk
noncomputable def start (N:List Str) (vs:List V):St:=vs.map some++List.replicate (N.length-vs.length) none
noncomputable def cxOf (CX:CXT) (P:Program) (w:World) (K:PySem.W.Frag) (mg:Str→Option Value) (base:Heap) (N:List Str) (qual:Str) (scope:Scope) (f:Addr) (cd:Value) (A:Around) (outer:List Env) (s:Shared) (H:Hp) (E:XK):Cx where
 prog:=P
 w:=w
 K:=K
 mg:=mg
 base:=base
 A:=A.deeper (envOfC qual scope s.heap.objs.size f cd)
 N:=N
 s₀:=s
 H₀:=H
 env:=envOfC qual scope s.heap.objs.size f cd
 outer:=outer
 stack:=envOfC qual scope s.heap.objs.size f cd::outer
 ex:=[]
 calm:=true
 fn:=fun _=>true
 pn:=[]
 xe:=fun e s'=>wpAny (model P w) (A.deeper (envOfC qual scope s.heap.objs.size f cd)) (leaving (envOfC qual scope s.heap.objs.size f cd) e) (fun _ s''=>CX outer H s E e s'') (fun e' s''=>CX outer H s E e' s'') s'
theorem cell_has {sc:Scope}{n:Nat}{x:Str}(h:sc.names.lookup x=some .cell):∃ c,(cellsFrom n sc.names []).lookup x=some c:=by
 have q:=PySem.W.cellsFrom_some sc.names n [] (.inl h)
 exact Option.isSome_iff_exists.mp q
theorem inv_start {CX:CXT}{P:Program}{w:World}{K:PySem.W.Frag}{mg:Str→Option Value}{base:Heap}{N ps:List Str}{qual:Str}{scope:Scope}{f:Addr}{cd:Value}{A:Around}{outer:List Env}{s s1:Shared}{H:Hp}{E:XK}{us:List Value}{vs:List V}
 (S:FnScope N ps scope) (hd:A.handled=none) (e0:Env0 P w K mg base A outer s H) (hl:vs.length=ps.length) (r:Vals vs us)
 (x:InCallC s s.heap.objs.size (bindL (envOfC qual scope s.heap.objs.size f cd).kindOf (ps.zip us) fun _=>none) (cellsFrom (s.heap.objs.size+1) scope.names []) (bindC (envOfC qual scope s.heap.objs.size f cd).kindOf (ps.zip us) fun _=>none) s1) :
 Inv (cxOf CX P w K mg base N qual scope f cd A outer s H E) [] (start N vs) H s1:=by
 have hpl:ps.length≤N.length:=by have:=congrArg List.length S.pre;rw [List.length_take] at this;omega
 obtain ⟨h1,tk,rfl,hk⟩:=x.done
 have noA:∀ b:Addr,b∉(cxOf CX P w K mg base N qual scope f cd A outer s H E).ex:=fun b z=>absurd (show b∈([]:List Addr) from z) (by simp)
 refine ⟨⟨e0.mod,S.kind,rfl,rfl,Nat.le_refl _,fun y z c h1 h2=>?_,fun y hy=>?_,fun y c _ h=>?_,fun _=>hd,Around.frames_deeper e0.frames,.inr ⟨rfl,rfl⟩,fun b z=>absurd z (noA b),e0.bs,e0.bsz,fun b _ _=>noA b,fun b z=>absurd z (noA b),e0.funs,e0.frf⟩,
  rfl,e0.bare,Un.kept hk,⟨_,x.toInCall.ns,fun i y v h1 h2 h3=>?_⟩,fun y c h=>⟨_,x.cell y c h⟩,e0.hok.fresh (Nat.le_refl _),fun y c h=>?_,fun p hp=>absurd (show p∈([]:List (Addr×Obj)) from hp) (by simp),e0.hok.kept hk,?_⟩
 · exact name_of_addr x.apart (PySem.mem_of_lookup h1) (PySem.mem_of_lookup h2)
 · have hy:scope.names.lookup y=some .cell∨scope.names.lookup y=some .free:=hy
   rcases hy with hy | hy
   · exact cell_has hy
   · exact absurd rfl (S.nofree _ (PySem.mem_of_lookup hy))
 · exact Nat.le_of_lt (x.above y c (PySem.mem_of_lookup h))
 · have hi:i<vs.length:=by
    unfold start at h2
    by_cases hi:i<vs.length
    · exact hi
    · rw [List.getElem?_append_right (by simpa using hi)] at h2
      rw [List.getElem?_replicate] at h2
      split at h2<;>cases h2
   have ha:vs[i]? = some v:=by
    unfold start at h2
    rw [List.getElem?_append_left (by simpa using hi),List.getElem?_map] at h2
    cases e:vs[i]? with
    | none=>rw [e] at h2;cases h2
    | some a=>rw [e] at h2;cases h2;rfl
   obtain ⟨u,hu,rv⟩:=r.get ha
   have hp:ps[i]? = some y:=by
    rw [← S.pre,List.getElem?_take_of_lt (by omega)];exact h1
   have ndP:ps.Nodup:=by rw [← S.pre];exact S.nd.sublist (List.take_sublist _ _)
   refine ⟨u,rv,?_⟩
   rcases S.par y (List.mem_of_getElem? hp) with k | k
   · exact .inl ⟨k,bindL_get ndP hp hu k⟩
   · obtain ⟨c,e⟩:=cell_has (n:=s.heap.objs.size+1) k
     refine .inr ⟨.inl k,c,e,?_⟩
     have q:=x.cell y c e
     rw [bindC_get ndP hp hu (by show scope.names.lookup y≠_;rw [k];decide)] at q
     exact q
 · exact e0.hok.fresh (Nat.le_of_lt (x.above y c (PySem.mem_of_lookup h)))
 · unfold start
   show _=N.length
   rw [List.length_append,List.length_map,List.length_replicate]
   omega
theorem fn_of {CX:CXT}{P:Program}{w:World}{K:PySem.W.Frag}{mg:Str→Option Value}{base:Heap}{k:Nat}{f:Addr}{name qual:Str}{params:Arguments}{body:List Stmt}{scope:Scope}{dV kV doc pm cdv ct oc:Value}{an od:Option Addr}
 {osl:Array (Option Value)} {N ps:List Str} {sp:Sp} (lk:K.lookup f=some ⟨oc,od,.func (PySem.W.fnOf name qual params body scope dV kV doc pm an cdv ct),osl⟩) (hcd:PySem.W.codeIn K cdv qual=true) (S:FnScope N ps scope)
 (len:∀ vs H Q E,sp vs H Q E→vs.length=ps.length)
 (hbody:∀ (A:Around) (outer:List Env) (s:Shared) (H:Hp) (vs:List V) (Q:VK) (E:XK),Room k (A.deeper (envOfC qual scope s.heap.objs.size f cdv))→sp vs H Q E →
  ∃ t,PSs (cxOf CX P w K mg base N qual scope f cdv A outer s H E) body t∧t { nx:=fun _ H'=>Q .non H',rt:=Q } (start N vs) H) :
 FnOk P w K mg base CX (k+1) f (PySem.W.fnOf name qual params body scope dV kV doc pm an cdv ct) ps sp:=by
 refine ⟨len,fun A outer s H args us vs Q E hr e0 hb r hsp=>?_⟩
 have hl:=len _ _ _ _ hsp
 have KX:K.In s.heap:=e0.mod.kin.keeps fun b o e=>(e0.bs b o e).1
 have lim:s.heap.NoLimit:=e0.mod.nolimit.keeps fun b o e=>(e0.bs b o e).1
 have hkind:∀ y∈ps.zip us,scope.names.lookup y.1=some .local ∨ (scope.names.lookup y.1=some .cell∧((cellsFrom (s.heap.objs.size+1) scope.names []).lookup y.1).isSome=true):=fun ⟨n,v⟩ hy=>by
  rcases S.par n (List.of_mem_zip hy).1 with q | q
  · exact .inl q
  · exact .inr ⟨q,PySem.W.cellsFrom_some _ _ _ (.inl q)⟩
 refine codeAny_call_function hr.depth (KX _ _ lk) rfl S.co S.gen rfl (PySem.W.codeRec_of KX hcd) (hb _ _ _ _ ?_)
 refine wpAny_newFunctionEnv_cells S.kind hkind fun env he s1 x=>?_
 subst he
 refine ⟨lim.keeps x.toInCall.keep,codeAny_func ?_⟩
 obtain ⟨t,ht,hq⟩:=hbody A outer s H vs Q E (hr.deeper _) hsp
 have I:Inv (cxOf CX P w K mg base N qual scope f cdv A outer s H E) [] (start N vs) H s1:=inv_start S hr.hd e0 hl r x
 refine wpAny_mono (ht [] s1 (start N vs) H _ I hq) (fun fl s' hs=>?_) fun e s' hs=>hs
 have fin:∀ {σ':St} {H':Hp} {v:V} {u:Value},Inv (cxOf CX P w K mg base N qual scope f cdv A outer s H E) [] σ' H' s'→RelV v u→Q v H'→CE outer P w H s Q u s':=
  fun {σ' H' v u} J rv q=>⟨v,H',J.os,J.bare,J.base,J.hok,rv,q⟩
 cases fl with
 | ret u=>
  obtain ⟨v,σ',H',J,rv,q⟩:=hs
  exact fin J rv q
 | next=>
  obtain ⟨σ',H',J,q⟩:=hs
  exact fin (v:=V.non) (u:=Value.none) J rfl q
 | brk=>
  obtain ⟨_,_,_,q⟩:=hs
  exact False.elim q
 | cont=>
  obtain ⟨_,_,_,q⟩:=hs
  exact False.elim q
section
variable {X:Cx}{x:Str}{p pos:Pos}{e:Expr}{es:List Expr}{t:TA}{id T:String}{r:List V→Hp→VK→Prop}
noncomputable def tCB (r:List V→Hp→VK→Prop) (t:TA):TE:=fun σ H Q=>t σ H fun vs H1=>r vs H1 Q
theorem pe_callB (hc:CallR X (.builtin id) r) (hg:Gl X x) (hm:X.mg x=none) (hv:bootBuiltins x=some (.builtin id)) (ha:PA X (e::es) t) (hn:x≠"__name__":=by decide) (hdb:(x==("__debug__":Str))=false:=by decide)
 (he:starEach (e::es) X.env=(false,eval e X.env)::starEach es X.env:=by rfl) (hpl:(backTo pos (starEach es X.env)).any (·.1)=false:=by rfl):PE X (.Call (.Name x p) (e::es) [] pos) (tCB r t):=by
 intro pins s σ H Q I h
 refine wpAny_Call_Name_kw (ld_blt I hg hm hv ?_ hn hdb)
 exact PyProof.Rows.callWith_builtin1 (thn (ha pos pins s σ H _ I h) fun us s1 ⟨vs,H1,I1,r1,q1⟩=>hc pins s1 σ H1 vs us Q I1 r1 q1) he hpl
theorem pe_callTy (hc:CallR X (.type T) r) (hg:Gl X x) (hm:X.mg x=none) (hv:bootBuiltins x=some (.type T)) (ha:PA X (e::es) t) (hn:x≠"__name__":=by decide) (hdb:(x==("__debug__":Str))=false:=by decide)
 (he:starEach (e::es) X.env=(false,eval e X.env)::starEach es X.env:=by rfl) (hpl:(backTo pos (starEach es X.env)).any (·.1)=false:=by rfl):PE X (.Call (.Name x p) (e::es) [] pos) (tCB r t):=by
 intro pins s σ H Q I h
 refine wpAny_Call_Name_kw (ld_blt I hg hm hv ?_ hn hdb)
 exact PyProof.Rows.callWith_type1 (thn (ha pos pins s σ H _ I h) fun us s1 ⟨vs,H1,I1,r1,q1⟩=>hc pins s1 σ H1 vs us Q I1 r1 q1) he hpl
end
end L2
namespace HT
open PySem PyProof.Rows
section
open PySem.SeqAt
open PySem.AutoSeq1 (wpAny_loadPart')
open PySem.MeetsSeq PySem.MeetsSeq2 PySem.MeetsSeq3
end
section
variable {prog:Program}{w:World}{A:Around}{E:Value→Shared→Prop}{s:Shared}
noncomputable def sIx (n d:Nat):Option Int→Nat
 | none=>d
 | some v=>if v<0 then (v+(n:Int)).toNat else min v.toNat n
theorem sIx_none (n d:Nat):sIx n d none=d:=rfl
theorem sIx_nat (n d k:Nat):sIx n d (some (k:Int))=min k n:=by
 show (if (k:Int)<0 then ((k:Int)+(n:Int)).toNat else min (k:Int).toNat n)=min k n
 rw [if_neg (by omega),Int.toNat_natCast]
end
end HT
namespace L2
open PySem PySem.Spec PyProof.Rows
noncomputable abbrev TO:=St→Hp→(Option Int→Hp→Prop)→Prop
noncomputable def PO (X:Cx) (e:Option Expr) (t:TO):Prop:=
 ∀ (pins:List (Addr×Obj)) (s:Shared) (σ:St) (H:Hp) (Q:Option Int→Hp→Prop),Inv X pins σ H s→t σ H Q →
  wpAny (model X.prog X.w) X.A (evalPart e X.env) (fun u s'=>∃ o H',Inv X pins σ H' s'∧IsPart u o∧Q o H') X.xe s
noncomputable def tNoPart:TO:=fun _ H Q=>Q none H
noncomputable def tPart (t:TE):TO:=fun σ H Q=>t σ H fun x H1=>∃ i,x = .int i∧Q (some i) H1
theorem intsAre_of {ns:List Int}:∀ {us:List Value},Vals (ns.map V.int) us→IntsAre us ns:=by
 induction ns with
 | nil=>intro us r;rw [List.map_nil] at r;cases r;exact .nil
 | cons n ns ih=>
  intro us r
  rw [List.map_cons] at r
  cases r with
  | cons r1 r2=>
   obtain ⟨t,e⟩:=r1
   subst e
   exact .cons n t (ih r2)
section
variable {X:Cx}{e:Expr}{te:TE}{lo hi:Option Expr}{tl th:TO}{pos p2:Pos}
theorem po_none:PO X none tNoPart:=by
 intro pins s σ H Q I h
 rw [evalPart_none]
 exact wpAny_pure ⟨none,H,I,.none,h⟩
theorem po_some (h:PE X e te):PO X (some e) (tPart te):=by
 intro pins s σ H Q I hw
 rw [evalPart_some]
 refine thn (h pins s σ H _ I hw) fun u s1 ⟨x,H1,I1,r1,q1⟩=>?_
 obtain ⟨i,rfl,q⟩:=q1
 obtain ⟨t,rfl⟩:=r1
 exact ⟨some i,H1,I1,.int i t,q⟩
noncomputable def SlR (X:Cx) (r:V→Option Int→Option Int→Hp→VK→Prop):Prop:=
 ∀ (pins:List (Addr×Obj)) (s:Shared) (σ:St) (H:Hp) (x:V) (v vl vu:Value) (lo hi:Option Int) (sl:Addr) (Q:VK),Inv X pins σ H s→RelV x v→s.heap.IsSliceOf sl vl vu .none→IsPart vl lo→IsPart vu hi→r x lo hi H Q →
  ∃ T id,typeLookup (.type T) "__getitem__" = pure (some (.builtin id))∧s.TypeIs v T∧wpAny (model X.prog X.w) X.A (getItem v (.ref sl)) (EP X pins σ Q) X.xe s
noncomputable def tSl (r:V→Option Int→Option Int→Hp→VK→Prop) (te:TE) (tl th:TO):TE:=fun σ H Q=>te σ H fun x H1=>tl σ H1 fun l H2=>th σ H2 fun u H3=>r x l u H3 Q
theorem pe_slice {r:V→Option Int→Option Int→Hp→VK→Prop}(hr:SlR X r) (he:PE X e te) (hl:PO X lo tl) (hu:PO X hi th):PE X (.Subscript e (.Slice lo hi none p2) pos) (tSl r te tl th):=by
 intro pins s σ H Q I h
 refine Subscript_ (thn (he pins s σ H _ I h) fun v s1 ⟨x,H1,I1,r1,q1⟩=>?_)
 refine wpAny_Slice (thn (hl pins s1 σ H1 _ I1 q1) fun vl s2 ⟨l,H2,I2,pl,q2⟩=>thn (hu pins s2 σ H2 _ I2 q2) fun vu s3 ⟨u,H3,I3,pu,q3⟩=>?_)
 rw [evalPart_none]
 refine wpAny_pure ?_
 have I4:Inv X pins σ H3 { s3 with heap:=s3.heap.push { cls:=.type "slice",data:=.fields #[vl,vu,.none] } }:=I3.kept (t':=s3.toks) fun b ob q=>Heap.get?_push_of_some _ q
 obtain ⟨T,id,hT,ht,hg⟩:=hr pins { s3 with heap:=s3.heap.push { cls:=.type "slice",data:=.fields #[vl,vu,.none] } } σ H3 x v vl vu l u s3.heap.objs.size Q I4 r1 (Heap.IsSliceOf.new ..) pl pu q3
 show wpAny (model X.prog X.w) X.A (subscriptTail e (.Slice lo hi none p2) v (.ref s3.heap.objs.size)) (EP X pins σ Q) X.xe { s3 with heap:=s3.heap.push { cls:=.type "slice",data:=.fields #[vl,vu,.none] } }
 exact tail_any (ops:=[.ref s3.heap.objs.size,v]) ht hT hg (by with_unfolding_all rfl)
noncomputable def cutV (xs:List V) (lo hi:Option Int):List V:=(xs.drop (HT.sIx xs.length 0 lo)).take (HT.sIx xs.length xs.length hi-HT.sIx xs.length 0 lo)
theorem cutV_length (xs:List V) (lo hi:Option Int):(cutV xs lo hi).length≤xs.length:=by
 unfold cutV
 rw [List.length_take,List.length_drop]
 omega
end
noncomputable def ixN (n:Nat) (i:Int):Option Nat:=if 0≤i then (if i<n then some i.toNat else none) else if -(n:Int)≤i then some (i+n).toNat else none
noncomputable def atI {α:Type}(xs:List α) (i:Int):Option α:=(ixN xs.length i).bind fun j=>xs[j]?
theorem ixN_seq {n:Nat}{i:Int}{j:Nat}(h:ixN n i=some j):seqIndex? i n=some j∧j<n∧-(n:Int)≤i∧i<n:=by
 unfold ixN at h
 by_cases h0:0≤i
 · rw [if_pos h0] at h
   by_cases h1:i<n
   · rw [if_pos h1] at h
     have e:i.toNat=j:=Option.some.inj h
     exact ⟨by rw [seqIndex_of h0 h1,e],by omega,by omega,h1⟩
   · rw [if_neg h1] at h;cases h
 · rw [if_neg h0] at h
   by_cases h1:-(n:Int)≤i
   · rw [if_pos h1] at h
     have e:(i+n).toNat=j:=Option.some.inj h
     exact ⟨by rw [seqIndex_neg (by omega) h1,e],by omega,h1,by omega⟩
   · rw [if_neg h1] at h;cases h
theorem atI_get {α:Type}{xs:List α}{i:Int}{v:α}(h:atI xs i=some v):∃ j,seqIndex? i xs.length=some j∧xs[j]? = some v∧j<xs.length∧-(xs.length:Int)≤i∧i<xs.length:=by
 unfold atI at h
 cases e:ixN xs.length i with
 | none=>rw [e] at h;cases h
 | some j=>
  rw [e] at h
  obtain ⟨h1,h2,h3,h4⟩:=ixN_seq e
  exact ⟨j,h1,h,h2,h3,h4⟩
theorem atI_nat {α:Type}{xs:List α}{j:Nat}{v:α}(h:xs[j]? = some v):atI xs (j:Int)=some v:=by
 have hj:j<xs.length:=(List.getElem?_eq_some_iff.mp h).1
 have e:ixN xs.length (j:Int)=some j:=by
  unfold ixN
  rw [if_pos (by omega),if_pos (by omega)];simp
 unfold atI;rw [e];exact h
noncomputable def PlainIx (b:Expr):Prop:=∀ o i,subscripted b false o i=operate [o,i] (getItem o i)
noncomputable def IxR (X:Cx) (r:R2):Prop:=
 ∀ (value slice:Expr) (pins:List (Addr×Obj)) (s:Shared) (σ:St) (H:Hp) (x y:V) (v u:Value) (Q:VK),Inv X pins σ H s→RelV x v→RelV y u→r x y H Q →
  subscripted slice false v u=operate [v,u] (getItem v u)→wpAny (model X.prog X.w) X.A (subscriptTail value slice v u) (EP X pins σ Q) X.xe s
noncomputable def MtR (X:Cx) (id:String) (r:V→List V→Hp→VK→Prop):Prop:=
 ∀ (pins:List (Addr×Obj)) (s:Shared) (σ:St) (H:Hp) (x:V) (xs:List V) (v:Value) (us:List Value) (Q:VK),Inv X pins σ H s→RelV x v→Vals xs us→r x xs H Q →
  wpAny (model X.prog X.w) X.A (call (.builtin id) (v::us)) (EP X pins σ Q) X.xe s
section
variable {X:Cx}{a b:Expr}{ta tb:TE}{pos:Pos}
theorem pe_ix {r:R2}(hr:IxR X r) (ha:PE X a ta) (hb:PE X b tb) (hs:PlainIx b):PE X (.Subscript a b pos) (tOp r ta tb):=by
 intro pins s σ H Q I h
 exact Subscript_ (binT ha hb I h fun v u s2 x y H2 I2 rx ry q=>hr a b pins s2 σ H2 x y v u Q I2 rx ry q (hs _ _))
noncomputable def rIxL (K:PySem.W.Frag):R2:=fun x y H Q=>∃ p xs i v,x = .ref p∧y = .int i∧SqL K H p xs∧atI xs i=some v∧Q v H
noncomputable def rIxT (K:PySem.W.Frag):R2:=fun x y H Q=>∃ p xs i v,x = .ref p∧y = .int i∧SqT K H p xs∧atI xs i=some v∧Q v H
theorem ix_list:IxR X (rIxL X.K):=by
 intro value slice pins s σ H x y v u Q I rx ry h hs
 obtain ⟨p,xs,i,z,rfl,rfl,hq,he,q⟩:=h
 cases rx
 obtain ⟨t,rfl⟩:=ry
 obtain ⟨its,r,pl,hz⟩:=I.list hq
 obtain ⟨j,h1,h2,h3,h4,h5⟩:=atI_get he
 obtain ⟨w,ew,rw'⟩:=r.get h2
 have hl:=r.length
 have hn:=line63
 have fin:EP X pins σ Q w s:=⟨z,H,I,rw',q⟩
 by_cases h0:0≤i
 · have hj:i.toNat=j:=by
    rw [seqIndex_of h0 h5] at h1
    exact Option.some.inj h1
   exact item_listR pl.isList h0 (by omega) (by rw [hj];simpa using ew) fin hs
 · have hj:(i+(its.toArray.size:Int)).toNat=j:=by
    rw [seqIndex_neg (by omega) h4] at h1
    rw [List.size_toArray,← hl]
    exact Option.some.inj h1
   exact subscriptTail_builtinR (x:=w) pl.isList.typeIs slot_list_getitem.lookup
    (wpAny_getItem_list_neg (Q:=fun r s'=>r=w∧EP X pins σ Q r s') pl.isList (by omega) (by rw [List.size_toArray]<;>omega) (by omega) (by rw [hj];simpa using ew) ⟨rfl,fin⟩) hs
theorem ix_tup:IxR X (rIxT X.K):=by
 intro value slice pins s σ H x y v u Q I rx ry h hs
 obtain ⟨p,xs,i,z,rfl,rfl,hq,he,q⟩:=h
 cases rx
 obtain ⟨t,rfl⟩:=ry
 obtain ⟨its,r,pl,hz⟩:=I.tuple hq
 obtain ⟨j,h1,h2,h3,h4,h5⟩:=atI_get he
 obtain ⟨w,ew,rw'⟩:=r.get h2
 have hl:=r.length
 have hn:=line63
 have fin:EP X pins σ Q w s:=⟨z,H,I,rw',q⟩
 exact subscriptTail_builtinR (x:=w) pl.typeIs slot_tuple_getitem.lookup
  (getItem_tuple (j:=j) (Q:=fun r s'=>r=w∧EP X pins σ Q r s') pl (by omega) (by omega) (by rw [List.size_toArray,← hl];exact h1) (by simpa using ew) ⟨rfl,fin⟩) hs
theorem slice_bounds (lo hi:Option Int) (n:Nat):(sliceBounds lo hi none n).1=((HT.sIx n 0 lo:Nat):Int)∧(sliceBounds lo hi none n).2.1=((HT.sIx n n hi:Nat):Int)∧(sliceBounds lo hi none n).2.2=1:=by
 refine ⟨?_,?_,rfl⟩
 · cases lo with
   | none=>simp [sliceBounds,HT.sIx]
   | some i=>
    simp only [sliceBounds,HT.sIx,Option.getD_none,show (1:Int)>0 by decide,if_true]
    by_cases h:i<0
    · simp only [h,if_true]<;>omega
    · simp only [h,if_false]<;>omega
 · cases hi with
   | none=>simp [sliceBounds,HT.sIx]
   | some i=>
    simp only [sliceBounds,HT.sIx,Option.getD_none,show (1:Int)>0 by decide,if_true]
    by_cases h:i<0
    · simp only [h,if_true]<;>omega
    · simp only [h,if_false]<;>omega
theorem slicePick_cut (its:List Value) (lo hi:Option Int):slicePick its.toArray lo hi none=((its.drop (HT.sIx its.length 0 lo)).take (HT.sIx its.length its.length hi-HT.sIx its.length 0 lo)).toArray:=by
 obtain ⟨h1,h2,h3⟩:=slice_bounds lo hi its.toArray.size
 unfold slicePick
 rw [h1,h2,h3]
 simp only [sliceRange_one,pick_run,List.size_toArray]<;>rfl
noncomputable def rSlL (K:PySem.W.Frag):V→Option Int→Option Int→Hp→VK→Prop:=fun x lo hi H Q=>∃ a xs,x = .ref a∧SqL K H a xs∧∀ p,H p=none→Q (.ref p) (upd H p (.lst (cutV xs lo hi)))
theorem sl_list:SlR X (rSlL X.K):=by
 intro pins s σ H x v vl vu lo hi sl Q I rx hs pl pu h
 obtain ⟨a,xs,rfl,hx,q⟩:=h
 cases rx
 obtain ⟨its,r,ht,hz⟩:=I.list hx
 have hlen:=r.length
 refine ⟨"list",_,slot_list_getitem.lookup,ht.isList.typeIs,?_⟩
 refine wpAny_getItem_list_slice ht.isList hs pl pu .none (by simp) ?_ (by rw [List.size_toArray]<;>omega)
 rw [slicePick_cut,← hlen]
 refine ⟨.ref s.heap.objs.size,_,I.laid (t':=s.toks) (o:=.lst (cutV xs lo hi)) (fun b ob q=>Heap.get?_push_of_some _ q) (Nat.le_refl _) ?_,rfl,q _ (I.hok.fresh (Nat.le_refl _))⟩
 exact ⟨Nat.le_trans (cutV_length xs lo hi) hz,_,0,(r.drop (HT.sIx xs.length 0 lo)).take (HT.sIx xs.length xs.length hi-HT.sIx xs.length 0 lo),Heap.get?_push_size _ rfl⟩
noncomputable def flatV:V→Bool
 | .non=>true
 | .bl _=>true
 | .int _=>true
 | .str _=>true
 | _=>false
noncomputable def eqV:V→V→Bool
 | .non,.non=>true
 | .bl a,.bl b=>a==b
 | .bl a,.int b=>(if a then 1 else 0)==b
 | .int a,.bl b=>a==(if b then 1 else 0)
 | .int a,.int b=>a==b
 | .str a,.str b=>a==b
 | _,_=>false
theorem eqAt_V {A:Around}{s:Shared}{y x:V}{u v:Value}(ry:RelV y u) (rx:RelV x v) (fy:flatV y=true) (fx:flatV x=true):SeqAt.EqAt A s u v (eqV y x):=by
 cases y with
 | non=>
  cases ry
  cases x with
  | non=>cases rx;exact SeqAt.EqAt.same _
  | bl b=>cases rx;exact SeqAt.EqAt.none_bool b
  | int b=>obtain ⟨t,rfl⟩:=rx;exact SeqAt.EqAt.none_int b t
  | str b=>obtain ⟨t,rfl⟩:=rx;exact SeqAt.EqAt.none_str b t
  | _=>exact absurd (show false=true from fx) Bool.false_ne_true
 | bl a=>
  cases ry
  cases x with
  | non=>cases rx;exact SeqAt.EqAt.bool_none a
  | bl b=>cases rx;exact SeqAt.EqAt.bool_bool a b
  | int b=>obtain ⟨t,rfl⟩:=rx;exact SeqAt.EqAt.bool_int a b t
  | str b=>obtain ⟨t,rfl⟩:=rx;exact SeqAt.EqAt.bool_str a b t
  | _=>exact absurd (show false=true from fx) Bool.false_ne_true
 | int a=>
  obtain ⟨t',rfl⟩:=ry
  cases x with
  | non=>cases rx;exact SeqAt.EqAt.int_none a t'
  | bl b=>cases rx;exact SeqAt.EqAt.int_bool a t' b
  | int b=>obtain ⟨t,rfl⟩:=rx;exact SeqAt.EqAt.int_int a t' b t
  | str b=>obtain ⟨t,rfl⟩:=rx;exact SeqAt.EqAt.int_str a t' b t
  | _=>exact absurd (show false=true from fx) Bool.false_ne_true
 | str a=>
  obtain ⟨t',rfl⟩:=ry
  cases x with
  | non=>cases rx;exact SeqAt.EqAt.str_none a t'
  | bl b=>cases rx;exact SeqAt.EqAt.str_bool a t' b
  | int b=>obtain ⟨t,rfl⟩:=rx;exact SeqAt.EqAt.str_int a t' b t
  | str b=>obtain ⟨t,rfl⟩:=rx;exact SeqAt.EqAt.str_str a t' b t
  | _=>exact absurd (show false=true from fx) Bool.false_ne_true
 | _=>exact absurd (show false=true from fy) Bool.false_ne_true
noncomputable def eqU (x:V) (u:Value):Bool:=match u with
 | .none=>eqV .non x
 | .bool b=>eqV (.bl b) x
 | .int i _=>eqV (.int i) x
 | .str z _=>eqV (.str z) x
 | _=>false
theorem eqU_of {x y:V}{u:Value}(r:RelV y u) (f:flatV y=true):eqU x u=eqV y x:=by
 cases y with
 | non=>cases r;rfl
 | bl b=>cases r;rfl
 | int i=>obtain ⟨t,rfl⟩:=r;rfl
 | str z=>obtain ⟨t,rfl⟩:=r;rfl
 | _=>exact absurd (show false=true from f) Bool.false_ne_true
theorem any_eqU {x:V}:∀ {xs:List V}{us:List Value},Vals xs us→xs.all flatV=true→us.any (eqU x)=xs.any fun y=>eqV y x
 | _,_,.nil,_=>rfl
 | y::xs,u::us,.cons r t,f=>by
  rw [List.all_cons,Bool.and_eq_true] at f
  rw [List.any_cons,List.any_cons,eqU_of r f.1,any_eqU t f.2]
theorem mem_eqAt {A:Around}{s:Shared}{x:V}{v:Value}(rx:RelV x v) (fx:flatV x=true):∀ {xs:List V}{us:List Value},Vals xs us→xs.all flatV=true→∀ u∈us,SeqAt.EqAt A s u v (eqU x u)
 | _,_,.nil,_=>fun u hu=>by cases hu
 | y::xs,u::us,.cons r t,f=>fun u' hu=>by
  rw [List.all_cons,Bool.and_eq_true] at f
  rcases List.mem_cons.mp hu with rfl | hu
  · rw [eqU_of r f.1];exact eqAt_V r rx f.1 fx
  · exact mem_eqAt rx fx t f.2 u' hu
noncomputable def inV (x:V) (xs:List V):Bool:=xs.any fun y=>eqV y x
noncomputable def rIn (K:PySem.W.Frag) (neg:Bool):R2:=fun x y H Q=>∃ p xs,y = .ref p∧(SqL K H p xs∨SqT K H p xs)∧flatV x=true∧xs.all flatV=true∧Q (.bl (if neg then !inV x xs else inV x xs)) H
theorem op_in_seq:OpR X (compareOp .In) (rIn X.K false):=by
 intro pins s σ H x y v u Q I rx ry h
 obtain ⟨p,xs,rfl,hq,fx,fs,q⟩:=h
 cases ry
 rcases hq with hq | hq
 · obtain ⟨its,r,pl,hz⟩:=I.list hq
   refine SeqAt.in_listAt (eqU x) pl.isList (fun w hw=>mem_eqAt rx fx r fs w (by simpa using hw)) ⟨.bl _,H,I,rfl,?_⟩
   rw [show its.toArray.any (eqU x)=its.any (eqU x) by simp,any_eqU r fs]
   exact q
 · obtain ⟨its,r,pl,hz⟩:=I.tuple hq
   refine SeqAt.in_tupleAt (eqU x) pl (fun w hw=>mem_eqAt rx fx r fs w (by simpa using hw)) ⟨.bl _,H,I,rfl,?_⟩
   rw [show its.toArray.any (eqU x)=its.any (eqU x) by simp,any_eqU r fs]
   exact q
theorem op_notIn_seq:OpR X (compareOp .NotIn) (rIn X.K true):=by
 intro pins s σ H x y v u Q I rx ry h
 obtain ⟨p,xs,rfl,hq,fx,fs,q⟩:=h
 cases ry
 rcases hq with hq | hq
 · obtain ⟨its,r,pl,hz⟩:=I.list hq
   refine SeqAt.notIn_listAt (eqU x) pl.isList (fun w hw=>mem_eqAt rx fx r fs w (by simpa using hw)) ⟨.bl _,H,I,rfl,?_⟩
   rw [show its.toArray.any (eqU x)=its.any (eqU x) by simp,any_eqU r fs]
   exact q
 · obtain ⟨its,r,pl,hz⟩:=I.tuple hq
   refine SeqAt.notIn_tupleAt (eqU x) pl (fun w hw=>mem_eqAt rx fx r fs w (by simpa using hw)) ⟨.bl _,H,I,rfl,?_⟩
   rw [show its.toArray.any (eqU x)=its.any (eqU x) by simp,any_eqU r fs]
   exact q
theorem call_len_seq:CallR X (.builtin "len") (fun xs H Q=>∃ p ys,xs=[.ref p]∧(SqL X.K H p ys∨SqT X.K H p ys)∧Q (.int ys.length) H):=by
 intro pins s σ H xs us Q I r h
 obtain ⟨p,ys,rfl,hq,q⟩:=h
 obtain ⟨u,rfl,rx⟩:=vals1 r
 cases rx
 have hn:=line63
 rcases hq with hq | hq
 · obtain ⟨its,r',pl,hz⟩:=I.list hq
   have hlen:=r'.length
   exact Calls.call_len_list pl.isList (by simp only [List.size_toArray]<;>omega) ⟨.int ys.length,H,I.tok _,⟨s.toks+1,by rw [List.size_toArray,hlen]⟩,q⟩
 · obtain ⟨its,r',pl,hz⟩:=I.tuple hq
   have hlen:=r'.length
   exact len_tuple pl (by simp only [List.size_toArray]<;>omega) ⟨.int ys.length,H,I.tok _,⟨s.toks+1,by rw [List.size_toArray,hlen]⟩,q⟩
theorem call_list_of:CallR X (.type "list") (fun xs H Q=>∃ p ys,xs=[.ref p]∧(SqL X.K H p ys∨SqT X.K H p ys)∧∀ l,H l=none→Q (.ref l) (upd H l (.lst ys))):=by
 intro pins s σ H xs us Q I r h
 obtain ⟨p,ys,rfl,hq,q⟩:=h
 obtain ⟨u,rfl,rx⟩:=vals1 r
 cases rx
 have fin:∀ (its:List Value),Vals ys its→ys.length≤sizeLine→∀ (h':Heap) (c':Nat),(∀ b o',s.heap.get? b=some o'→h'.get? b=some o') →
  h'.get? s.heap.objs.size=some { cls:=.type "list",dict:=none,data:=.seq its.toArray c',slots:=#[] }→EP X pins σ Q (.ref s.heap.objs.size) { s with heap:=h' }:=fun its r' hz h' c' kp e=>
  ⟨.ref s.heap.objs.size,_,I.laid (t':=s.toks) kp (Nat.le_refl _) (show ObjOk X.prog X.w _ h' _ (.lst ys) from ⟨hz,its,c',r',e⟩),rfl,q _ (I.hok.fresh (Nat.le_refl _))⟩
 rcases hq with hq | hq
 · obtain ⟨its,r',pl,hz⟩:=I.list hq
   have hlen:=r'.length
   obtain ⟨o,ho,hc,n,hd⟩:=pl.isList
   exact call_list_seq p (.inl rfl) ho hc hd (fun h' c' kp e=>fin its r' hz h' c' kp e) (by simp only [List.size_toArray]<;>omega)
 · obtain ⟨its,r',pl,hz⟩:=I.tuple hq
   have hlen:=r'.length
   obtain ⟨o,ho,hc,n,hd⟩:=pl
   exact call_list_seq p (.inr rfl) ho hc hd (fun h' c' kp e=>fin its r' hz h' c' kp e) (by simp only [List.size_toArray]<;>omega)
theorem call_tuple_of:CallR X (.type "tuple") (fun xs H Q=>∃ p ys,xs=[.ref p]∧((SqL X.K H p ys∧∀ l,H l=none→Q (.ref l) (upd H l (.tup ys)))∨(SqT X.K H p ys∧Q (.ref p) H))):=by
 intro pins s σ H xs us Q I r h
 obtain ⟨p,ys,rfl,h⟩:=h
 obtain ⟨u,rfl,rx⟩:=vals1 r
 cases rx
 rcases h with ⟨hq,q⟩ | ⟨hq,q⟩
 · obtain ⟨its,r',pl,hz⟩:=I.list hq
   have hlen:=r'.length
   refine call_tuple_list pl.isList (fun h' kp=>?_) (by simp only [List.size_toArray]<;>omega)
   have I1:Inv X pins σ H { s with heap:=h' }:=I.kept (t':=s.toks) kp
   have I2:Inv X pins σ (upd H h'.objs.size (.tup ys)) { s with heap:=h'.push { cls:=.type "tuple",data:=.seq its.toArray } }:=
    I1.laid (t':=s.toks) (fun b o e=>Heap.get?_push_of_some _ e) (Nat.le_refl _) (show ObjOk X.prog X.w _ _ _ (.tup ys) from ⟨hz,its,r',IsTup.new _ _⟩)
   exact ⟨.ref h'.objs.size,_,I2,rfl,q _ (I1.hok.fresh (Nat.le_refl _))⟩
 · obtain ⟨its,r',pl,hz⟩:=I.tuple hq
   exact call_tuple_same pl ⟨.ref p,H,I,rfl,q⟩
noncomputable def tyV (K:PySem.W.Frag) (T:String) (x:V) (H:Hp):Prop:=match x with
 | .str _=>T = "str"
 | .int _=>T = "int"
 | .ref p=>(T = "list"∧∃ xs,SqL K H p xs)∨(T = "tuple"∧∃ o,K.lookup p=some o∧o.cls = .type "tuple"∧o.dict=none) ∨
  (T = "dict"∧((∃ kvs,H p=some (.dK kvs))∨∃ kvs,H p=some (.dT kvs)))∨(T = "set"∧∃ S n,H p=some (.set S n))
 | _=>False
theorem tyV_is {pins:List (Addr×Obj)}{σ:St}{H:Hp}{s:Shared}{T:String}{x:V}{v:Value}(I:Inv X pins σ H s) (r:RelV x v) (ty:tyV X.K T x H) :
 s.TypeIs v T∧∀ a,v = .ref a→∃ ob,s.heap.get? a=some ob∧ob.dict=none:=by
 cases x with
 | str z=>
  obtain ⟨t,rfl⟩:=r
  cases (show T = "str" from ty)
  exact ⟨typeIs_str s z t,fun _ e=>nomatch e⟩
 | int i=>
  obtain ⟨t,rfl⟩:=r
  cases (show T = "int" from ty)
  exact ⟨typeIs_int s i t,fun _ e=>nomatch e⟩
 | ref p=>
  cases r
  rcases ty with ⟨rfl,xs,hq⟩ | ⟨rfl,o,hk,hc,hd⟩ | ⟨rfl,hk⟩ | ⟨rfl,S,n,hk⟩
  · obtain ⟨its,_,pl,_⟩:=I.list hq
    refine ⟨pl.isList.typeIs,fun a e=>?_⟩
    cases e
    obtain ⟨o,n,e,c,hd,_⟩:=pl
    exact ⟨o,e,hd⟩
  · refine ⟨⟨o,I.kIn p o hk,hc⟩,fun a e=>?_⟩
    cases e
    exact ⟨o,I.kIn _ o hk,hd⟩
  · have z:∃ o,s.heap.get? p=some o∧o.ExactDict:=by
     rcases hk with ⟨kvs,hk⟩ | ⟨kvs,hk⟩
     · obtain ⟨_,_,_,_,o,_,_,e,ex,_⟩:=I.hok p _ hk
       exact ⟨o,e,ex⟩
     · obtain ⟨_,_,_,_,o,_,_,e,ex,_⟩:=I.hok p _ hk
       exact ⟨o,e,ex⟩
    obtain ⟨o,e,ex⟩:=z
    refine ⟨⟨o,e,ex.1⟩,fun a e2=>?_⟩
    cases e2
    exact ⟨o,e,ex.2.1⟩
  · obtain ⟨o,_,_,_,e,ex,_⟩:=I.hok p _ hk
    refine ⟨⟨o,e,ex.1⟩,fun a e2=>?_⟩
    cases e2
    exact ⟨o,e,ex.2.1⟩
 | _=>exact False.elim ty
noncomputable def tBM0 (K:PySem.W.Frag) (T:String) (r:V→List V→Hp→VK→Prop) (to:TE):TE:=fun σ H Q=>to σ H fun x H1=>tyV K T x H1∧r x [] H1 Q
noncomputable def tBM (K:PySem.W.Frag) (T:String) (r:V→List V→Hp→VK→Prop) (to:TE) (t:TA):TE:=fun σ H Q=>to σ H fun x H1=>tyV K T x H1∧t σ H1 fun xs H2=>r x xs H2 Q
variable {o e:Expr}{es:List Expr}{to:TE}{t:TA}{name:Str}{apos cpos:Pos}{T id:String}{r:V→List V→Hp→VK→Prop}
theorem pe_bm0 (pa:PlainAttrs T) (slot:Slot T name id) (hty:typeOf (.builtin id)=pure (.type "method_descriptor")) (hm:MtR X id r) (ho:PE X o to)
 (hbase:attributeBase o name X.env (eval o X.env)=eval o X.env:=by rfl) (hline:(apos.endLine==cpos.line)=true:=by rfl):PE X (.Call (.Attribute o name apos) [] [] cpos) (tBM0 X.K T r to):=by
 intro pins s σ H Q I h
 refine wpAny_Call_method0_late hbase hline (thn (ho pins s σ H _ I h) fun v s1 ⟨x,H1,I1,r1,ty,q1⟩=>?_)
 obtain ⟨h1,h2⟩:=tyV_is I1 r1 ty
 exact ⟨T,id,pa,slot,hty,h1,h2,Calls.callWith_builtin rfl (PySem.evalArgs_none (hm pins s1 σ H1 x [] v [] Q I1 r1 .nil q1))⟩
theorem pe_bm (pa:PlainAttrs T) (slot:Slot T name id) (hty:typeOf (.builtin id)=pure (.type "method_descriptor")) (hm:MtR X id r) (ho:PE X o to) (ha:PA X (e::es) t)
 (hbase:attributeBase o name X.env (eval o X.env)=eval o X.env:=by rfl)
 (hfew:((backTo cpos (starEach (e::es) X.env)).all (fun x=>!x.1)&&(backToKw cpos (keywordEach [] X.env)).all (fun x=>x.1.isSome)
  && decide ((e::es).length+([]:List Keyword).length+(if ([]:List Keyword).isEmpty then 0 else 1)<30))=true:=by rfl)
 (hline:(apos.endLine==cpos.line)=true:=by rfl) (hs:starEach (e::es) X.env=(false,eval e X.env)::starEach es X.env:=by rfl) (hplain:(backTo cpos (starEach es X.env)).any (·.1)=false:=by rfl) :
 PE X (.Call (.Attribute o name apos) (e::es) [] cpos) (tBM X.K T r to t):=by
 intro pins s σ H Q I h
 refine wpAny_Call_method_late hbase hfew hline rfl (thn (ho pins s σ H _ I h) fun v s1 ⟨x,H1,I1,r1,ty,q1⟩=>?_)
 obtain ⟨h1,h2⟩:=tyV_is I1 r1 ty
 refine ⟨T,id,pa,slot,hty,h1,h2,?_⟩
 have hA:=ha cpos pins s1 σ H1 _ I1 q1
 rw [hs] at hA ⊢
 refine Calls.callWith_builtin (by show (false||(backTo cpos (starEach es X.env)).any (·.1))=false;rw [hplain]<;>rfl) (Calls.evalArgs_plain ?_)
 exact thn hA fun us s2 ⟨vs,H2,I2,r2,q2⟩=>hm pins s2 σ H2 x vs v us Q I2 r1 r2 q2
end
noncomputable def MtM (X:Cx) (id:String) (r:V→List V→Hp→VK→Prop):Prop:=
 ∀ (pins:List (Addr×Obj)) (s:Shared) (σ:St) (H:Hp) (x:V) (xs:List V) (v:Value) (us:List Value) (Q:VK),Inv X pins σ H s→RelV x v→Vals xs us→r x xs H Q →
  wpAny (model X.prog X.w) X.A (call (.builtin id) (v::us)) (EP X pins σ Q) X.xe s
theorem Vals.one:∀ {x:V}{us:List Value},Vals [x] us→∃ u,us=[u]∧RelV x u
 | _,_,.cons r .nil=>⟨_,rfl,r⟩
theorem Vals.zero:∀ {us:List Value},Vals [] us→us=[]
 | _,.nil=>rfl
theorem Vals.dropLast {xs:List V}{us:List Value}(h:Vals xs us):Vals xs.dropLast us.dropLast:=by
 induction h with
 | nil=>exact .nil
 | cons r t ih=>
  cases t with
  | nil=>exact .nil
  | cons q t'=>exact .cons r ih
theorem Vals.eraseIdx:∀ {xs:List V}{us:List Value}(i:Nat),Vals xs us→Vals (xs.eraseIdx i) (us.eraseIdx i)
 | _,_,_,.nil=>.nil
 | _,_,0,.cons _ t=>t
 | _,_,i+1,.cons r t=>.cons r (Vals.eraseIdx i t)
theorem Vals.rep {xs:List V}{us:List Value}(h:Vals xs us):∀ k:Nat,Vals (List.replicate k xs).flatten (List.replicate k us).flatten
 | 0=>.nil
 | k+1=>by
  rw [List.replicate_succ,List.replicate_succ,List.flatten_cons,List.flatten_cons]
  exact Vals.append h (Vals.rep h k)
theorem erase_last {α:Type}(l:List α):l.eraseIdx (l.length-1)=l.dropLast:=by
 induction l with
 | nil=>rfl
 | cons a r ih=>
  cases r with
  | nil=>rfl
  | cons b r=>
   have e:(a::b::r).length-1=((b::r).length-1)+1:=by
    have h1:(a::b::r).length=r.length+2:=rfl
    have h2:(b::r).length=r.length+1:=rfl
    omega
   rw [e,List.eraseIdx_cons_succ,ih]
   all_goals rfl
theorem len_erase {α:Type}:∀ (l:List α) (i:Nat),(l.eraseIdx i).length≤l.length
 | [],_=>Nat.le_refl _
 | _::_,0=>Nat.le_succ _
 | _::r,i+1=>Nat.succ_le_succ (len_erase r i)
theorem foldl_rep (its:List Value):∀ (k:Nat) (acc:List Value),
 List.foldl (fun x1 x2=>x1++x2) acc.toArray (List.replicate k its.toArray)=(acc++(List.replicate k its).flatten).toArray
 | 0,acc=>by simp
 | k+1,acc=>by
  have e:acc.toArray++its.toArray=(acc++its).toArray:=by simp
  have e2:(acc++its)++(List.replicate k its).flatten=acc++(List.replicate (k+1) its).flatten:=by
   rw [List.replicate_succ,List.flatten_cons,List.append_assoc]
  rw [← e2,← foldl_rep its k (acc++its),← e,List.replicate_succ,List.foldl_cons]
section
variable {X:Cx}{pins:List (Addr×Obj)}{σ:St}{H:Hp}{s:Shared}{l b:Addr}{xs ys zs:List V}
theorem Inv.lset {its its':List Value}{n:Nat}{f:Array Value→Array Value}{t':Nat}(I:Inv X pins σ H s) (hH:H l=some (.lst xs))
 (e:s.heap.get? l=some { cls:=.type "list",data:=.seq its.toArray n }) (hf:f its.toArray=its'.toArray) (hv:Vals ys its') (hz:ys.length≤sizeLine) :
 Inv X pins σ (upd H l (.lst ys)) { s with heap:=s.heap.update l (Obj.mapSeq f),toks:=t' }:=by
 have q:=PySem.IsL.update e f
 rw [hf] at q
 refine I.write (x:=l) (e:=l) (by rw [hH];exact trivial) (.inl rfl) (fun b' u hb hu=>(Heap.get?_update_other s.heap (Obj.mapSeq f) (Ne.symm hb)).trans hu) ⟨_,q⟩ ?_
 exact ⟨hz,its',_,hv,q⟩
theorem Inv.lnew {its:List Value}{t':Nat}(I:Inv X pins σ H s) (hv:Vals ys its) (hz:ys.length≤sizeLine) :
 Inv X pins σ (upd H s.heap.objs.size (.lst ys)) { s with heap:=s.heap.push { cls:=.type "list",data:=.seq its.toArray },toks:=t' }:=
 I.laid (fun _ _ q=>Heap.get?_push_of_some _ q) (Nat.le_refl _) ⟨hz,its,0,hv,Heap.get?_push_size _ rfl⟩
theorem Inv.fresh (I:Inv X pins σ H s):H s.heap.objs.size=none:=I.hok.fresh (Nat.le_refl _)
theorem Inv.lstM (I:Inv X pins σ H s) (hH:H l=some (.lst xs)):xs.length≤sizeLine∧∃ (its:List Value) (n:Nat),Vals xs its∧xs.length=its.length∧s.heap.get? l=some { cls:=.type "list",data:=.seq its.toArray n }:=by
 obtain ⟨z,its,n,r,e⟩:=I.hok l _ hH
 exact ⟨z,its,n,r,r.length,e⟩
theorem notLongL {n:Nat}(h:n≤sizeLine):Builtin.List.listTooLong n=false:=by
 unfold Builtin.List.listTooLong
 exact decide_eq_false (by omega)
end
section
variable {X:Cx}
noncomputable def rAppend:V→List V→Hp→VK→Prop:=fun x vs H Q=>∃ l xs y,x = .ref l∧vs=[y]∧H l=some (.lst xs)∧xs.length<sizeLine∧Q .non (upd H l (.lst (xs++[y])))
theorem mt_append:MtM X "list.append" rAppend:=by
 intro pins s σ H x vs v us Q I rx rv h
 obtain ⟨l,xs,y,rfl,rfl,hH,hz,q⟩:=h
 cases rx
 obtain ⟨u,rfl,ru⟩:=rv.one
 obtain ⟨z,its,n,r,hl,e⟩:=I.lstM hH
 refine call_meets F.slot_list_append ⟨_,e,rfl⟩ F.entry_list_append (F.args_list_append_2 _ _) (PySem.list_append l its.toArray n u (by rw [List.size_toArray];omega)) ⟨e,?_⟩
 refine ⟨.non,_,I.lset (its':=its++[u]) hH e (by simp) (r.append (.cons ru .nil)) ?_,rfl,q⟩
 rw [List.length_append,List.length_singleton]
 omega
noncomputable def rExtend:V→List V→Hp→VK→Prop:=fun x vs H Q=>∃ l b xs zs,x = .ref l∧vs=[.ref b]∧H l=some (.lst xs)∧H b=some (.lst zs)∧xs.length+zs.length≤sizeLine∧Q .non (upd H l (.lst (xs++zs)))
theorem mt_extend:MtM X "list.extend" rExtend:=by
 intro pins s σ H x vs v us Q I rx rv h
 obtain ⟨l,b,xs,zs,rfl,rfl,hH,hB,hz,q⟩:=h
 cases rx
 obtain ⟨u,rfl,ru⟩:=rv.one
 cases ru
 obtain ⟨z,its,n,r,hl,e⟩:=I.lstM hH
 obtain ⟨z2,its2,n2,r2,hl2,e2⟩:=I.lstM hB
 have hsz:its.toArray.size+its2.toArray.size≤sizeLine:=by rw [List.size_toArray,List.size_toArray];omega
 have hlong:¬ (!its.toArray.isEmpty&&Builtin.List.listTooLong (its.toArray.size+its2.toArray.size))=true:=by
  rw [notLongL hsz,Bool.and_false]
  exact Bool.false_ne_true
 refine call_meets F.slot_list_extend ⟨_,e,rfl⟩ F.entry_list_extend (F.args_list_extend_2 _ _)
  (AutoSeq1.list_extend_list_list_0 l its.toArray n b its2.toArray n2 hlong (by rw [List.size_toArray];omega) (by omega)) ⟨e,e2,?_⟩
 refine ⟨.non,_,I.lset (its':=its++its2) hH e (by simp) (r.append r2) ?_,rfl,q⟩
 rw [List.length_append]
 omega
noncomputable def rPop:V→List V→Hp→VK→Prop:=fun x vs H Q=>∃ l xs y,x = .ref l∧vs=[]∧H l=some (.lst xs)∧xs[xs.length-1]? = some y∧Q y (upd H l (.lst xs.dropLast))
theorem mt_pop:MtM X "list.pop" rPop:=by
 intro pins s σ H x vs v us Q I rx rv h
 obtain ⟨l,xs,y,rfl,rfl,hH,hy,q⟩:=h
 cases rx
 have hus:=rv.zero
 subst hus
 obtain ⟨z,its,n,r,hl,e⟩:=I.lstM hH
 obtain ⟨u,hu,ru⟩:=r.get hy
 have hy':its.toArray[its.toArray.size-1]? = some u:=by
  show its.toArray[its.length-1]? = some u
  rw [← Array.getElem?_toList,← hl]
  exact hu
 refine call_meets F.slot_list_pop ⟨_,e,rfl⟩ F.entry_list_pop (F.args_list_pop_1 _) (MeetsSeq.list_pop_last l its.toArray n u hy' (by rw [List.size_toArray];omega)) ⟨e,?_⟩
 refine ⟨y,_,I.lset (its':=its.dropLast) hH e ?_ r.dropLast ?_,ru,q⟩
 · show its.toArray.eraseIdxIfInBounds (its.toArray.size-1)=its.dropLast.toArray
   rw [List.size_toArray,List.eraseIdxIfInBounds_toArray,erase_last]
 · rw [List.length_dropLast]
   omega
noncomputable def rPopAt:V→List V→Hp→VK→Prop:=fun x vs H Q=>∃ l xs i k y,x = .ref l∧vs=[.int i]∧H l=some (.lst xs)∧-(2^63)≤i∧i<2^63∧seqIndex? i xs.length=some k∧xs[k]? = some y∧Q y (upd H l (.lst (xs.eraseIdx k)))
theorem mt_popAt:MtM X "list.pop" rPopAt:=by
 intro pins s σ H x vs v us Q I rx rv h
 obtain ⟨l,xs,i,k,y,rfl,rfl,hH,h1,h2,hk,hy,q⟩:=h
 cases rx
 obtain ⟨u,rfl,ru⟩:=rv.one
 obtain ⟨t,rfl⟩:=ru
 obtain ⟨z,its,n,r,hl,e⟩:=I.lstM hH
 obtain ⟨w,hw,rw'⟩:=r.get hy
 refine call_meets F.slot_list_pop ⟨_,e,rfl⟩ F.entry_list_pop (F.args_list_pop_2 _ _)
  (MeetsSeq.list_pop_at l its.toArray n i t k w (fitsIndex_both h1 h2) (by rw [List.size_toArray,← hl];exact hk) (by rw [← Array.getElem?_toList];exact hw) (by rw [List.size_toArray];omega)) ⟨e,?_⟩
 refine ⟨y,_,I.lset (its':=its.eraseIdx k) hH e ?_ (r.eraseIdx k) ?_,rw',q⟩
 · show its.toArray.eraseIdxIfInBounds k=(its.eraseIdx k).toArray
   rw [List.eraseIdxIfInBounds_toArray]
 · have:=len_erase xs k
   omega
noncomputable def rCat:R2:=fun x y H Q=>∃ l b xs zs,x = .ref l∧y = .ref b∧H l=some (.lst xs)∧H b=some (.lst zs)∧xs.length+zs.length≤sizeLine∧∀ p,H p=none→Q (.ref p) (upd H p (.lst (xs++zs)))
theorem op_cat:OpR X (binaryOp .Add) rCat:=by
 intro pins s σ H x y v u Q I rx ry h
 obtain ⟨l,b,xs,zs,rfl,rfl,hH,hB,hz,q⟩:=h
 cases rx
 cases ry
 obtain ⟨z,its,n,r,hl,e⟩:=I.lstM hH
 obtain ⟨z2,its2,n2,r2,hl2,e2⟩:=I.lstM hB
 refine PySem.P.add_list e e2 ?_ (by rw [List.size_toArray,List.size_toArray];omega)
 have ea:its.toArray++its2.toArray=(its++its2).toArray:=by simp
 rw [ea]
 exact ⟨.ref _,_,I.lnew (t':=s.toks) (r.append r2) (by rw [List.length_append];omega),rfl,q _ I.fresh⟩
noncomputable def rRep:R2:=fun x y H Q=>∃ l k xs,x = .ref l∧y = .int k∧H l=some (.lst xs)∧-(2^63)≤k∧k<2^63∧xs.length*k.toNat≤sizeLine ∧
 ∀ p,H p=none→Q (.ref p) (upd H p (.lst (List.replicate k.toNat xs).flatten))
theorem len_rep {α:Type}(xs:List α) (k:Nat):(List.replicate k xs).flatten.length=k*xs.length:=by
 induction k with
 | zero=>simp
 | succ k ih=>rw [List.replicate_succ,List.flatten_cons,List.length_append,ih,Nat.succ_mul,Nat.add_comm]
theorem op_rep:OpR X (binaryOp .Mult) rRep:=by
 intro pins s σ H x y v u Q I rx ry h
 obtain ⟨l,k,xs,rfl,rfl,hH,h1,h2,hz,q⟩:=h
 cases rx
 obtain ⟨t,rfl⟩:=ry
 obtain ⟨z,its,n,r,hl,e⟩:=I.lstM hH
 have hlen:its.toArray.size*k.toNat≤sizeLine:=by rw [List.size_toArray,← hl];exact hz
 have hcap:¬ its.toArray.size*k.toNat>(2^63-1)/8:=by
  have:(sizeLine:Nat)≤(2^63-1)/8:=by decide
  omega
 have hfit:¬ (!Builtin.List.listFitsIndex k)=true:=by
  rw [fitsIndex_both h1 h2]
  exact Bool.false_ne_true
 have hlong:¬ Builtin.List.listTooLong (its.toArray.size*k.toNat)=true:=by
  rw [notLongL hlen]
  exact Bool.false_ne_true
 have hnew:List.foldl (fun x1 x2=>x1++x2) #[] (List.replicate (if its.toArray.isEmpty=true then 0 else k.toNat) its.toArray)=(List.replicate k.toNat its).flatten.toArray:=by
  have f0:∀ m:Nat,List.foldl (fun x1 x2=>x1++x2) #[] (List.replicate m its.toArray)=(List.replicate m its).flatten.toArray:=fun m=>by
   have:=foldl_rep its m []
   rw [List.nil_append] at this
   exact this
  rw [f0]
  cases its with
  | nil=>simp
  | cons a r'=>rw [if_neg (by simp)]
 refine wpAny_binaryOp_repeat_ref (T:="list") (U:="int") (by decide) ⟨_,e,rfl⟩ (fun s'=>typeIs_int s' k t) noFill_list_mul F.fills_int_mul F.slot_int_rmul repeat_list F.slot_int_index.lookup
  (call_meets F.slot_int_rmul (typeIs_int s k t) F.entry_int_rmul (F.args_int_rmul_2 _ _) (int___rmul___int_list k t l its.toArray n)
   ⟨e,rfl,⟨_,e,rfl⟩,call_meets F.slot_list_mul ⟨_,e,rfl⟩ F.entry_list_mul (F.args_list_mul_2 _ _) (AutoListH.list___mul___list_int_3 l its.toArray n k t hfit hcap hlong) ⟨e,?_⟩⟩)
 rw [hnew]
 exact ⟨.ref _,_,I.lnew (t':=s.toks) (r.rep k.toNat) (by rw [len_rep,Nat.mul_comm];exact hz),rfl,q _ I.fresh⟩
end
section
variable {prog:Program}{w:World}{A:Around}{E:Value→Shared→Prop}{s:Shared}
end
section
variable {X:Cx}
end
section
variable {κ:Type} [DecidableEq κ]
noncomputable def valV (kvs:List (κ×V)) (k:κ):Option V:=(kvs.find? fun kv=>decide (kv.1=k)).map (·.2)
noncomputable def putK (kvs:List (κ×V)) (k:κ) (v:V):List (κ×V):=
 if (kvs.any fun kv=>decide (kv.1=k))=true then kvs.map (fun kv=>if kv.1=k then (kv.1,v) else kv) else kvs++[(k,v)]
theorem valV_nil {k:κ}:valV ([]:List (κ×V)) k=none:=rfl
theorem valV_pos {p:κ×V}{r:List (κ×V)}{k:κ}(e:p.1=k):valV (p::r) k=some p.2:=by simp [valV,List.find?_cons,e]
theorem valV_neg {p:κ×V}{r:List (κ×V)}{k:κ}(e:¬ p.1=k):valV (p::r) k=valV r k:=by simp [valV,List.find?_cons,e]
theorem valV_any (k:κ):∀ kvs:List (κ×V),(kvs.any fun kv=>decide (kv.1=k))=(valV kvs k).isSome
 | []=>rfl
 | p::r=>by
  rw [List.any_cons]
  by_cases e:p.1=k
  · simp only [valV_pos e,decide_eq_true e,Bool.true_or,Option.isSome_some]
  · rw [valV_neg e,decide_eq_false e,Bool.false_or];exact valV_any k r
theorem length_putK (kvs:List (κ×V)) (k:κ) (v:V):(putK kvs k v).length≤kvs.length+1:=by
 unfold putK
 split
 · rw [List.length_map];omega
 · rw [List.length_append,List.length_cons,List.length_nil];omega
theorem putK_new {kvs:List (κ×V)}{k:κ}(v:V) (h:valV kvs k=none):putK kvs k v=kvs++[(k,v)]:=by
 unfold putK
 rw [valV_any,h]
 exact if_neg (by decide)
theorem RelO.isSome_eq {o:Option V}{u:Option Value}(r:RelO o u):o.isSome=u.isSome:=by
 cases o with
 | none=>cases u with
  | none=>rfl
  | some _=>exact (show False from r).elim
 | some _=>cases u with
  | none=>exact (show False from r).elim
  | some _=>rfl
theorem KV.val {kvs:List (κ×V)}{vs:List (κ×Value)}(r:KV kvs vs) (k:κ):RelO (valV kvs k) (valueAt vs k):=by
 unfold KV at r
 induction r with
 | nil=>exact True.intro
 | @cons p q ps qs h t ih=>
  obtain ⟨h1,h2⟩:=h
  by_cases e:p.1=k
  · have e':q.1=k:=h1.symm.trans e
    have b:valueAt (q::qs) k=some q.2:=by simp [valueAt,List.find?_cons,e']
    rw [valV_pos e,b];exact h2
  · have e':¬ q.1=k:=fun z=>e (h1.trans z)
    have b:valueAt (q::qs) k=valueAt qs k:=by simp [valueAt,List.find?_cons,e']
    rw [valV_neg e,b];exact ih
theorem KV.any {kvs:List (κ×V)}{vs:List (κ×Value)}(r:KV kvs vs) (k:κ):(kvs.any fun kv=>decide (kv.1=k))=vs.any fun kv=>decide (kv.1=k):=by
 unfold KV at r
 induction r with
 | nil=>rfl
 | cons h t ih=>rw [List.any_cons,List.any_cons,ih,h.1]
theorem KV.repl {kvs:List (κ×V)}{vs:List (κ×Value)}(r:KV kvs vs) (k:κ) {y:V}{u:Value}(ry:RelV y u) :
 KV (kvs.map fun kv=>if kv.1=k then (kv.1,y) else kv) (vs.map fun kv=>if kv.1=k then (kv.1,u) else kv):=by
 unfold KV at r ⊢
 induction r with
 | nil=>exact .nil
 | @cons p q ps qs h t ih=>
  rw [List.map_cons,List.map_cons]
  refine .cons ?_ ih
  obtain ⟨h1,h2⟩:=h
  by_cases e:p.1=k
  · rw [if_pos e,if_pos (h1.symm.trans e)];exact ⟨h1,ry⟩
  · rw [if_neg e,if_neg (fun z=>e (h1.trans z))];exact ⟨h1,h2⟩
theorem KV.put {kvs:List (κ×V)}{vs:List (κ×Value)}(r:KV kvs vs) (k:κ) {y:V}{u:Value}(ry:RelV y u):KV (putK kvs k y) (stored vs k u):=by
 unfold putK stored
 rw [r.any k]
 by_cases e:(vs.any fun kv=>decide (kv.1=k))=true
 · rw [if_pos e,if_pos e];exact r.repl k ry
 · rw [if_neg e,if_neg e];exact Paired.snoc r ⟨rfl,ry⟩
theorem KV.length {kvs:List (κ×V)}{vs:List (κ×Value)}(r:KV kvs vs):kvs.length=vs.length:=Paired.length r
end
theorem kV_is {P:Program}{w:World}{k:Key}{u:Value}(r:RelV (kV k) u):(mixKind P w).is k u=true:=by
 cases k with
 | inl i=>obtain ⟨t,e⟩:=(show ∃ t,u=Value.int i t from r);subst e;exact mixKind_int P w i t
 | inr x=>obtain ⟨t,e⟩:=(show ∃ t,u=Value.str x t from r);subst e;exact mixKind_str P w x t
theorem items_are {P:Program}{w:World}:∀ {ks:List Key}{us:List Value},Vals (ks.map kV) us→ItemsAre (mixKind P w) ks us
 | [],_,r=>by rw [List.map_nil] at r;cases r;exact .nil
 | k::ks,_,r=>by
  rw [List.map_cons] at r
  cases r with
  | cons h t=>exact .cons (kV_is h) (items_are t)
noncomputable abbrev KT (H:Hp):List (List Key×V)→List (List Key×Addr×Value)→Prop:=Paired fun p q=>p.1=q.1∧H q.2.1=some (.tup (p.1.map kV))∧RelV p.2 q.2.2
theorem KT.val {H:Hp}{kvs:List (List Key×V)}{xs:List (List Key×Addr×Value)}(r:KT H kvs xs) (k:List Key):RelO (valV kvs k) ((atKey xs k).map (·.2)):=by
 induction r with
 | nil=>exact True.intro
 | @cons p q ps qs h t ih=>
  obtain ⟨h1,_,h2⟩:=h
  by_cases e:p.1=k
  · have e':q.1=k:=h1.symm.trans e
    have b:atKey (q::qs) k=some q.2:=by simp [atKey,List.find?_cons,e']
    rw [valV_pos e,b];exact h2
  · have e':¬ q.1=k:=fun z=>e (h1.trans z)
    have b:atKey (q::qs) k=atKey qs k:=by simp [atKey,List.find?_cons,e']
    rw [valV_neg e,b];exact ih
theorem KT.repl {H:Hp}{kvs:List (List Key×V)}{xs:List (List Key×Addr×Value)}(r:KT H kvs xs) (k:List Key) {y:V}{u:Value}(ry:RelV y u) :
 KT H (kvs.map fun kv=>if kv.1=k then (kv.1,y) else kv) (xs.map (putAt k u)):=by
 induction r with
 | nil=>exact .nil
 | @cons p q ps qs h t ih=>
  rw [List.map_cons,List.map_cons]
  refine .cons ?_ ih
  obtain ⟨h1,h2,h3⟩:=h
  unfold putAt
  by_cases e:p.1=k
  · rw [if_pos e,if_pos (h1.symm.trans e)];exact ⟨h1,h2,ry⟩
  · rw [if_neg e,if_neg (fun z=>e (h1.trans z))];exact ⟨h1,h2,h3⟩
theorem KT.put {H:Hp}{kvs:List (List Key×V)}{xs:List (List Key×Addr×Value)}(r:KT H kvs xs) (k:List Key) {b:Addr}{y:V}{u:Value}(hb:H b=some (.tup (k.map kV))) (ry:RelV y u) :
 KT H (putK kvs k y) (storedH xs k b u):=by
 have e:(kvs.any fun kv=>decide (kv.1=k))=(atKey xs k).isSome:=by
  rw [valV_any,(r.val k).isSome_eq,Option.isSome_map]
 unfold putK storedH
 rw [e]
 by_cases q:(atKey xs k).isSome=true
 · rw [if_pos q,if_pos q];exact r.repl k ry
 · rw [if_neg q,if_neg q];exact Paired.snoc r ⟨rfl,hb,ry⟩
theorem KT.keeps {H H':Hp}{kvs:List (List Key×V)}{xs:List (List Key×Addr×Value)}(r:KT H kvs xs) (ht:∀ b ys,H b=some (.tup ys)→H' b=some (.tup ys)):KT H' kvs xs:=
 Paired.mapP r fun _ _ z=>⟨z.1,ht _ _ z.2.1,z.2.2⟩
section
variable {P:Program}{w:World}{H:Hp}{h:Heap}{a:Addr}
theorem rd_of {u:HO}(ok:HOk P w H h) (e:Rd H a u):ObjOk P w H h a u:=e.ok ok
theorem dk_rd {kvs:List (Key×V)}(ok:HOk P w H h) (e:Rd H a (.dK kvs)):kvs.length≤sizeLine∧(a==sysModules)=false∧∃ vs,KV kvs vs∧h.DictOf (mixKind P w) a vs:=
 show ObjOk P w H h a (.dK kvs) from rd_of ok e
theorem dk_of {kvs:List (Key×V)}(ok:HOk P w H h) (e:H a=some (.dK kvs)):kvs.length≤sizeLine∧(a==sysModules)=false∧∃ vs,KV kvs vs∧h.DictOf (mixKind P w) a vs:=dk_rd ok (.inl e)
theorem key_of {ks:List Key}(ok:HOk P w H h) (e:H a=some (.tup (ks.map kV))):(tupleKind (mixKind P w)).is h ks a:=by
 obtain ⟨_,its,r,o,h1,h2,n,h3⟩:=(show ObjOk P w H h a (.tup (ks.map kV)) from ok a _ e)
 exact ⟨o,its.toArray,n,h1,h2,h3,by simpa using items_are r⟩
theorem dt_rd {kvs:List (List Key×V)}(ok:HOk P w H h) (e:Rd H a (.dT kvs)):kvs.length≤sizeLine∧(a==sysModules)=false ∧
 ∃ xs,KT H kvs xs∧h.DictOfH (tupleKind (mixKind P w)) a xs:=by
 obtain ⟨z,y,xs,r,o,es,ep,h1,h2,h3,h4,h5⟩:=(show ObjOk P w H h a (.dT kvs) from rd_of ok e)
 refine ⟨z,y,xs,r,o,es,ep,h1,h2,h3,h4,fun x hx=>?_,h5⟩
 have all:∀ {l:List (List Key×V)} {m:List (List Key×Addr×Value)},KT H l m→∀ x∈m,(tupleKind (mixKind P w)).is h x.1 x.2.1:=by
  intro l m q
  induction q with
  | nil=>intro x hx;exact nomatch hx
  | @cons p q ps qs hq t ih=>
   intro x hx
   rcases List.mem_cons.mp hx with e | hx
   · subst e
     exact key_of ok (by rw [← hq.1];exact hq.2.1)
   · exact ih x hx
 exact all r x hx
theorem dt_of {kvs:List (List Key×V)}(ok:HOk P w H h) (e:H a=some (.dT kvs)):kvs.length≤sizeLine∧(a==sysModules)=false ∧
 ∃ xs,KT H kvs xs∧h.DictOfH (tupleKind (mixKind P w)) a xs:=dt_rd ok (.inl e)
end
noncomputable def DGet (H:Hp) (a:Addr) (y:V) (r:Option V):Prop:=
 (∃ kvs k,Rd H a (.dK kvs)∧y=kV k∧r=valV kvs k)∨∃ kvs k b,Rd H a (.dT kvs)∧y = .ref b∧H b=some (.tup (k.map kV))∧r=valV kvs k
noncomputable def DPut (H:Hp) (a:Addr) (y v:V) (H':Hp):Prop:=
 (∃ kvs k,H a=some (.dK kvs)∧y=kV k∧kvs.length<sizeLine∧H'=upd H a (.dK (putK kvs k v))) ∨
 ∃ kvs k b,H a=some (.dT kvs)∧y = .ref b∧H b=some (.tup (k.map kV))∧kvs.length<sizeLine∧H'=upd H a (.dT (putK kvs k v))
theorem DGet.k {H:Hp}{a:Addr}{kvs:List (Key×V)}{k:Key}(e:H a=some (.dK kvs)):DGet H a (kV k) (valV kvs k):=.inl ⟨kvs,k,.inl e,rfl,rfl⟩
theorem DPut.k {H:Hp}{a:Addr}{kvs:List (Key×V)}{k:Key}{v:V}(e:H a=some (.dK kvs)) (hl:kvs.length<sizeLine):DPut H a (kV k) v (upd H a (.dK (putK kvs k v))):=.inl ⟨kvs,k,e,rfl,hl,rfl⟩
section
variable {X:Cx}{pins:List (Addr×Obj)}{σ:St}{H:Hp}{s:Shared}{a:Addr}{y v:V}{u r:Value}{o:Option V}{A:Around}{E:Value→Shared→Prop}
theorem Inv.big (I:Inv X pins σ H s):sysModules<s.heap.objs.size:=by
 have h:mainGlobals<s.heap.objs.size:=(I.mod.glob.keeps I.bk).lt
 exact Nat.lt_trans (by decide) h
theorem d_getItem {Q:Value→Shared→Prop}(hu:A.units+1<cLine) (I:Inv X pins σ H s) (g:DGet H a y (some v)) (ry:RelV y u) (h:∀ w' s',Inv X pins σ H s'→RelV v w'→Q w' s') :
 wpAny (model X.prog X.w) A (getItem (.ref a) u) Q E s:=by
 rcases g with ⟨kvs,k,e,ey,l⟩ | ⟨kvs,k,b,e,ey,eb,l⟩
 · subst ey
   obtain ⟨z,hd,vs,rel,dd⟩:=dk_rd I.hok e
   obtain ⟨w',hw,rw'⟩:=RelO.some_of (v:=v) (o:=valueAt vs k) (by rw [l];exact rel.val k)
   exact wpAny_getItem_of (kV_is ry) dd.mapOf hw (h w' _ (I.tok _) rw')
 · subst ey
   cases (show u=Value.ref b from ry)
   obtain ⟨z,hd,xs,rel,dd⟩:=dt_rd I.hok e
   obtain ⟨w',hw,rw'⟩:=RelO.some_of (v:=v) (o:=(atKey xs k).map (·.2)) (by rw [l];exact rel.val k)
   obtain ⟨p,hp,hp2⟩:=Option.map_eq_some_iff.mp hw
   refine wpAny_getItem_heap (tupleKind_room_in1 hu) (key_of I.hok eb) dd hp ?_
   rw [hp2]
   exact h w' _ (I.tok _) rw'
theorem d_write {h':Heap}{t':Nat}{ob:HO}(I:Inv X pins σ H s) (mu:Mut (H a)) (hs:Heap.SameBut a s.heap h') (he:∃ q,h'.get? a=some q) (new:ObjOk X.prog X.w (upd H a ob) h' a ob) :
 Inv X pins σ (upd H a ob) { s with heap:=h',toks:=t' }:=
 I.write (x:=a) (e:=a) mu (.inl rfl) (fun b q hb z=>(hs.2 b hb).trans z) he new
theorem dk_new {P:Program}{w:World}{H':Hp}{h':Heap}{kvs:List (Key×V)}{vs:List (Key×Value)}(z:kvs.length≤sizeLine) (hd:(a==sysModules)=false) (rel:KV kvs vs) (dd:h'.DictOf (mixKind P w) a vs) :
 ObjOk P w H' h' a (.dK kvs):=⟨z,hd,vs,rel,dd⟩
theorem d_setItem {H':Hp}{Q:Unit→Shared→Prop}(hu:A.units+1<cLine) (I:Inv X pins σ H s) (g:DPut H a y v H') (ry:RelV y u) (rv:RelV v r) (h:∀ s',Inv X pins σ H' s'→Q () s') :
 wpAny (model X.prog X.w) A (setItem (.ref a) u r) Q E s:=by
 rcases g with ⟨kvs,k,e,ey,l,eH⟩ | ⟨kvs,k,b,e,ey,eb,l,eH⟩
 · subst ey eH
   obtain ⟨z,hd,vs,rel,dd⟩:=dk_of I.hok e
   have hz:vs.length≤sizeLine:=by rw [← rel.length];exact z
   have hl:(putK kvs k v).length≤sizeLine:=by have:=length_putK kvs k v;omega
   refine wpAny_setItem_pairs (hsz:=hz) (kV_is ry) dd fun h' dd' hs=>h _ ?_
   have he:∃ q,h'.get? a=some q:=let ⟨q,_,_,hq,_⟩:=dd';⟨q,hq⟩
   exact d_write I (by rw [e];exact True.intro) hs he (dk_new hl hd (rel.put k rv) dd')
 · subst ey eH
   cases (show u=Value.ref b from ry)
   obtain ⟨z,hd,xs,rel,dd⟩:=dt_of I.hok e
   have hz:xs.length≤sizeLine:=by rw [← Paired.length rel];exact z
   have hl:(putK kvs k v).length≤sizeLine:=by have:=length_putK kvs k v;omega
   refine wpAny_setItem_heap (hsz:=hz) (tupleKind_room_in1 hu) (key_of I.hok eb) dd fun h' dd' hs=>h _ ?_
   obtain ⟨q,es,ep,hq,h2,h3,h4,_,h5⟩:=dd'
   refine d_write I (by rw [e];exact True.intro) hs ⟨q,hq⟩ ⟨hl,hd,_,(rel.put k eb rv).keeps fun c ys ec=>?_,q,es,ep,hq,h2,h3,h4,h5⟩
   rw [upd_ne (ne_of ec e (fun z=>nomatch z))]
   exact ec
end
section
variable {X:Cx}{pins:List (Addr×Obj)}{σ:St}{H:Hp}{s:Shared}{a:Addr}{kvs:List (Key×V)}{k:Key}{u:Value}{A:Around}{E:Value→Shared→Prop}
end
noncomputable def NoSl (i:Expr):Prop:=∀ ov iv,subscripted i false ov iv=operate [ov,iv] (getItem ov iv)
theorem subD_of {prog:Program}{w:World}{A:Around}{E:Value→Shared→Prop}{s:Shared}{env:Env}{value slice:Expr}{pos:Pos}{T id:String}{Q:Value→Shared→Prop}
 (hl:typeLookup (.type T) "__getitem__" = pure (some (.builtin id))) (hs:NoSl slice)
 (h:wpAny (model prog w) A (eval value env) (fun o s₁=>wpAny (model prog w) A (eval slice env) (fun i s₂=>s₂.TypeIs o T∧wpAny (model prog w) A (getItem o i) Q E s₂) E s₁) E s) :
 wpAny (model prog w) A (eval (.Subscript value slice pos) env) Q E s:=by
 refine Subscript_ (wpAny_mono h (fun o s₁ h₁=>wpAny_mono h₁ (fun i s₂ h₂=>?_) fun _ _ x=>x) fun _ _ x=>x)
 obtain ⟨hT,h₂⟩:=h₂
 unfold subscriptTail
 refine wpAny_bind ?_
 rw [getitemInPython_of_ne hT.not_modules]
 refine wpAny_bind (wpAny_specialOf hT hl ?_)
 have fin:wpAny (model prog w) A (subscripted slice false o i) (fun r s₃=>wpAny (model prog w) A (letTemporaryGo value o r >>= fun _=>pure r) Q E s₃) E s₂:=by
  rw [hs o i]
  exact wpAny_operating (wpAny_mono h₂ (fun r s₃ h₃=>wpAny_bind (wpAny_letTemporaryGo (wpAny_pure h₃))) fun _ _ x=>x)
 first
  | exact wpAny_pure (wpAny_bind fin)
  | exact wpAny_bind (wpAny_pure (wpAny_bind fin))
  | exact wpAny_bind fin
theorem dict_typeIs {X:Cx}{pins:List (Addr×Obj)}{σ:St}{H:Hp}{s:Shared}{a:Addr}{y:V}{o:Option V}(I:Inv X pins σ H s) (g:DGet H a y o):s.TypeIs (.ref a) "dict":=by
 rcases g with ⟨kvs,k,e,_,_⟩ | ⟨kvs,k,b,e,_,_,_⟩
 · obtain ⟨_,_,vs,_,dd⟩:=dk_rd I.hok e
   exact dd.typeIs
 · obtain ⟨_,_,xs,_,dd⟩:=dt_rd I.hok e
   exact dd.typeIs
noncomputable def tDGet (td ty:TE):TE:=fun σ H Q=>td σ H fun x H1=>ty σ H1 fun y H2=>∃ a v,x = .ref a∧DGet H2 a y (some v)∧Q v H2
noncomputable def sDPut (td ty tv:TE):TS:=fun D σ H=>tv σ H fun v H1=>td σ H1 fun x H2=>ty σ H2 fun y H3=>∃ a H4,x = .ref a∧DPut H3 a y v H4∧D.nx σ H4
section
variable {X:Cx}{o i e value:Expr}{pos pos' tpos:Pos}{td ty tv:TE}
theorem pe_dget (hu:X.A.units+1<cLine) (ho:PE X o td) (hi:PE X i ty) (hs:NoSl i):PE X (.Subscript o i pos) (tDGet td ty):=by
 intro pins s σ H Q I h
 refine subD_of PySem.F.slot_dict_getitem.lookup hs (thn (ho pins s σ H _ I h) fun u s1 ⟨x,H1,I1,rx,q1⟩=>thn (hi pins s1 σ H1 _ I1 q1) fun iv s2 ⟨y,H2,I2,ry,a,v,ex,g,q2⟩=>?_)
 subst ex
 obtain rfl:u=Value.ref a:=rx
 exact ⟨dict_typeIs I2 g,d_getItem hu I2 g ry fun w' s3 I3 rw'=>⟨v,H2,I3,rw',q2⟩⟩
theorem ps_dput (hu:X.A.units+1<cLine) (ho:PE X o td) (hi:PE X i ty) (hv:PE X value tv) (hs:swapsWith value (some (.Subscript o i pos')) pos.line X.env=pure false) :
 PS X (.Assign [.Subscript o i pos'] value pos) (sDPut td ty tv):=by
 intro pins s σ H D I h
 refine wpAny_Assign_Subscript (thn (hv pins s σ H _ I h) fun r s1 ⟨v,H1,I1,rv,q1⟩=>thn (ho pins s1 σ H1 _ I1 q1) fun u s2 ⟨x,H2,I2,rx,q2⟩=>thn (hi pins s2 σ H2 _ I2 q2) fun iv s3 ⟨y,H3,I3,ry,a,H4,ex,g,q3⟩=>?_) hs
 subst ex
 obtain rfl:u=Value.ref a:=rx
 exact d_setItem hu I3 g ry rv fun s4 I4=>⟨σ,H4,I4,q3⟩
end
theorem dk_empty {P:Program}{w:World}{H:Hp}(h:Heap) (hb:sysModules<h.objs.size):ObjOk P w H (h.push { cls:=.type "dict",data:=.dict #[] }) h.objs.size (.dK []):=
 ⟨Nat.zero_le _,beq_eq_false_iff_ne.mpr (Ne.symm (Nat.ne_of_lt hb)),[],.nil,Heap.DictOf.new h⟩
section
variable {X:Cx}{pos:Pos}
end
noncomputable def tPairs:List (TE×TE)→St→Hp→(List (V×V)→Hp→Prop)→Prop
 | [],_,H,Q=>Q [] H
 | (tk,tv)::r,σ,H,Q=>tk σ H fun x H1=>tv σ H1 fun y H2=>tPairs r σ H2 fun ps H3=>Q ((x,y)::ps) H3
noncomputable abbrev VV:List (V×V)→List (Value×Value)→Prop:=Paired fun p q=>RelV p.1 q.1∧RelV p.2 q.2
noncomputable def PPs (X:Cx) (pos:Pos) (keys:List (Option Expr)) (values:List Expr) (trs:List (TE×TE)):Prop:=
 ∀ (pins:List (Addr×Obj)) (s:Shared) (σ:St) (H:Hp) (Q:List (V×V)→Hp→Prop),Inv X pins σ H s→tPairs trs σ H Q →
  wpAny (model X.prog X.w) X.A (evalPairs (pairTrees keys values X.env pos)) (fun vs s'=>∃ ps H',Inv X pins σ H' s'∧VV ps vs∧Q ps H') X.xe s
theorem pps_nil {X:Cx}{pos:Pos}:PPs X pos [] [] []:=fun pins s σ H Q I h=>pairTrees_nil_walk ⟨[],H,I,.nil,h⟩
theorem pps_cons {X:Cx}{pos:Pos}{k v:Expr}{ks:List (Option Expr)}{vs:List Expr}{tk tv:TE}{trs:List (TE×TE)}(hk:PE X k tk) (hv:PE X v tv) (hr:PPs X pos ks vs trs) :
 PPs X pos (some k::ks) (v::vs) ((tk,tv)::trs):=fun pins s σ H Q I h=>
 pairTrees_cons_walk (thn (hk pins s σ H _ I h) fun u s1 ⟨x,H1,I1,rx,q1⟩=>thn (hv pins s1 σ H1 _ I1 q1) fun w2 s2 ⟨y,H2,I2,ry,q2⟩=>
  thn (hr pins s2 σ H2 _ I2 q2) fun ws s3 ⟨ps,H3,I3,rel,q3⟩=>⟨(x,y)::ps,H3,I3,.cons ⟨rx,ry⟩ rel,q3⟩)
noncomputable def mergeK (kvs more:List (Key×V)):List (Key×V):=more.foldl (fun acc kv=>putK acc kv.1 kv.2) kvs
theorem KV.merge:∀ {more:List (Key×V)}{rs:List (Key×Value)}{kvs:List (Key×V)}{vs:List (Key×Value)},KV more rs→KV kvs vs→KV (mergeK kvs more) (merged vs rs):=by
 intro more rs kvs vs r
 unfold KV at r
 induction r generalizing kvs vs with
 | nil=>intro q;exact q
 | @cons p q ps qs h t ih=>
  intro r0
  have e:KV (putK kvs p.1 p.2) (stored vs q.1 q.2):=by
   have:=r0.put p.1 h.2
   rw [← h.1];exact this
  exact ih e
theorem length_mergeK:∀ (more kvs:List (Key×V)),(mergeK kvs more).length≤kvs.length+more.length
 | [],kvs=>by show kvs.length≤kvs.length+0;omega
 | p::r,kvs=>by
  have h1:=length_mergeK r (putK kvs p.1 p.2)
  have h2:=length_putK kvs p.1 p.2
  show (mergeK (putK kvs p.1 p.2) r).length≤_
  rw [List.length_cons];omega
theorem carries_of {P:Program}{w:World}:∀ {kvs:List (Key×V)}{ws:List (Value×Value)},VV (kvs.map fun kv=>(kV kv.1,kv.2)) ws→∃ rs,Carries (mixKind P w) ws rs∧KV kvs rs
 | [],_,r=>by rw [List.map_nil] at r;cases r;exact ⟨[],True.intro,.nil⟩
 | p::kvs,_,r=>by
  rw [List.map_cons] at r
  cases r with
  | @cons a b as bs h t=>
   obtain ⟨rs,c,q⟩:=carries_of (P:=P) (w:=w) t
   obtain ⟨b1,b2⟩:=b
   exact ⟨(p.1,b2)::rs,⟨kV_is h.1,rfl,c⟩,.cons ⟨rfl,h.2⟩ q⟩
noncomputable def tDisp (trs:List (TE×TE)):TE:=fun σ H Q=>∀ p,H p=none→tPairs trs σ (upd H p (.dK [])) fun ps H2=>H2 p=some (.dK [])∧∃ kvs:List (Key×V),ps=kvs.map (fun kv=>(kV kv.1,kv.2))∧kvs.length≤15∧Q (.ref p) (upd H2 p (.dK (mergeK [] kvs)))
theorem pe_disp {X:Cx}{pos:Pos}{keys:List (Option Expr)}{values:List Expr}{trs:List (TE×TE)}(h:PPs X pos keys values trs) (hall:keys.all (·.isSome)=true) (hl:keys.length=values.length) (h0:keys≠[])
 (h15:keys.length≤15):PE X (.Dict keys values pos) (tDisp trs):=by
 intro pins s σ H Q I q
 have hn:=I.hok.fresh (Nat.le_refl s.heap.objs.size)
 have I1:=I.laid (a:=s.heap.objs.size) (o:=.dK []) (h':=s.heap.push { cls:=.type "dict",data:=.dict #[] }) (t':=s.toks) (fun _ _ q=>Heap.get?_push_of_some _ q) (Nat.le_refl _) (dk_empty s.heap I.big)
 refine wpAny_Dict_walk (knd:=mixKind X.prog X.w) hall hl h0 h15 (thn (h pins _ σ _ _ I1 (q _ hn)) fun ws s2 ⟨ps,H2,I2,rel,e,kvs,ep,lk,q2⟩=>?_)
 subst ep
 obtain ⟨rs,c,rk⟩:=carries_of (P:=X.prog) (w:=X.w) rel
 obtain ⟨z,hd,vs0,r0,dd⟩:=dk_of I2.hok e
 cases r0
 refine ⟨rs,c,dd,fun h' dd' hs=>⟨.ref s.heap.objs.size,_,?_,rfl,q2⟩⟩
 have hz:(mergeK [] kvs).length≤sizeLine:=by
  have h1:=length_mergeK kvs []
  rw [List.length_nil] at h1
  rw [sizeLine_eq];omega
 have he:∃ q,h'.get? s.heap.objs.size=some q:=let ⟨q,_,_,hq,_⟩:=dd';⟨q,hq⟩
 exact d_write I2 (by rw [e];exact True.intro) hs he (dk_new hz hd (rk.merge .nil) dd')
structure M2 (X:Cx) (o:Expr) (m:Str) (apos:Pos) (e f:Expr) (cpos:Pos):Prop where
 base:attributeBase o m X.env (eval o X.env)=eval o X.env
 few:((backTo cpos (starEach [e,f] X.env)).all (fun x=>!x.1)&&(backToKw cpos (keywordEach [] X.env)).all (fun x=>x.1.isSome)
  && decide (([e,f]:List Expr).length+([]:List Keyword).length+(if ([]:List Keyword).isEmpty then 0 else 1)<30))=true
 line:(apos.endLine==cpos.line)=true
 trees:backTo cpos (starEach [e,f] X.env)=[(false,eval e X.env),(false,eval f X.env)]
section
variable {X:Cx}{pins:List (Addr×Obj)}{σ:St}{H:Hp}{s:Shared}{a:Addr}{y d:V}{u r:Value}{o:Option V}{A:Around}{E:Value→Shared→Prop}
end
section
variable {X:Cx}{o e f:Expr}{apos cpos:Pos}{td ty tx:TE}
end
section
variable {X:Cx}{pins:List (Addr×Obj)}{σ:St}{H:Hp}{s:Shared}{a:Addr}{kvs:List (Key×V)}{A:Around}{E:Value→Shared→Prop}
end
section
variable {X:Cx}{pins:List (Addr×Obj)}{σ:St}{H:Hp}{s:Shared}{a:Addr}{y:V}{u:Value}{A:Around}{E:Value→Shared→Prop}
end
end L2
namespace Att
open PySem PySem.W PySem.Calls PyProof.Rows
theorem ints_of_wellAll {P:Params}{h:Heap}:∀ (ns:List Int) (vs:List Value),WellAll P h vs (ns.map WData.int)→IntsAre vs ns:=by
 intro ns
 induction ns with
 | nil=>
  intro vs w
  rw [List.map_nil] at w
  cases w
  exact .nil
 | cons n ns ih=>
  intro vs w
  rw [List.map_cons] at w
  cases w with
  | cons a b=>
   cases a
   exact .cons _ _ (ih _ b)
theorem script_of {l:OpenLaw}{n:Nat}(hn:l.most=some n) {P:Params}{h:Heap}{args:List WData}{vals:List Value}
 (hpre:l.row.toRowW.claim.pre args=true) (hwl:WellAll P h vals args) :
 ∃ a vs ns,vals=[Value.ref a]∧args=[WData.list (ns.map WData.int)]∧h.get? a=some { cls:=.type "list",data:=.seq vs.toArray }∧IntsAre vs ns∧ns.length≤n:=by
 have hsh:WShape.hasAll [] args [.list .int]=true:=(pre_splitW hpre).1
 have hc:l.pre.holds [] { args:=args }=true:=(pre_splitW hpre).2
 obtain ⟨d,r,rfl,h1,h2⟩:=hasAllW_cons hsh
 obtain rfl:=hasAllW_nil h2
 obtain ⟨xs,rfl,h3⟩:=hasW_list h1
 obtain ⟨ns,rfl⟩:=items_int h3
 have hlen:ns.length≤n:=by
  unfold OpenLaw.pre at hc
  have h4:(WTm.not (.lt (.lit (.int (n:Int))) (.len (.arg 0)))).holds [] { args:=[.list (ns.map .int)] }=true:=by
   have h4:=(holds_andW hc).1
   rw [hn] at h4
   exact h4
  have h5:=condW_of h4 (w_not (w_lt w_lit (w_len_list (w_arg rfl))))
  rw [List.length_map] at h5
  refine Nat.le_of_not_lt fun q=>?_
  have q':(n:Int)<((ns.length:Nat):Int):=by omega
  first
   | (rw [decide_eq_true q'] at h5;exact absurd h5 (by decide))
   | (simp at h5;omega)
 cases hwl with
 | cons w1 w2=>
  cases w2
  cases w1 with
  | list ho hall=>exact ⟨_,_,ns,rfl,rfl,ho,ints_of_wellAll ns _ hall,hlen⟩
theorem post_true (l:OpenLaw) (args:List WData):l.row.toRowW.claim.post args (.bool true) args=true:=
 postW_of (r:=l.row.toRowW) (X:=(true==true))
  (show WShape.has [] (.bool true) .bool=true by first | rfl | decide | simp [WShape.has,WShape.arms,WShape.armsAll])
  (show (WTm.eq .res (.lit (.bool true))).value [] { args:=args,res:=some (.bool true),after:=args }=some (.bool (true==true)) from w_eq_bool (w_res rfl) w_lit) rfl
theorem attach_call {l:OpenLaw}{n:Nat}{q:Program}{loose:List Str}{XP:(Str→Option Value)→Heap→Prop}{YP:World→Heap→Prop}{d:DefRec}
 (hn:l.most=some n) (hdf:d.params.defaults=[])
 (call:∀ (w:World) (s₀ s₁:Shared) (mg mb:Str→Option Value) (fa:Addr) (o:Obj) (pm cd doc:Value) (a:Addr) (vs:List Value) (ns:List Int),
  Ground q loose [] XP w s₀ mg mb s₁.heap→YP w s₁.heap →
  s₁.heap.get? fa=some o→o.data = .func (docDef d.name d.params d.body d.scope pm cd doc)→s₁.heap.CodeRec cd d.name→mg d.name=some (.ref fa) →
  s₁.heap.get? a=some { cls:=.type "list",data:=.seq vs.toArray }→IntsAre vs ns→ns.length≤n→s₁.gens = #[] →
  codeAny (model l.prog w) callerA (.call (.ref fa) ⟨[.ref a],[]⟩) (fun r s'=>r = .ok (.ret (.bool true))∧OldK s₁.heap s'.heap∧s'.os=s₁.os∧AllBare s'.gens) s₁) :
 WalkO q loose XP YP l.row.toRowW d [] (fun f vs=>PySem.call f vs):=by
 intro w s₀ s₁ mg mb G Y fa o pm cd doc dV kV ho hd hcd hD hmg hg args vals as hpre hlay hrd hwl hlo
 obtain rfl:dV = .none:=Dflts.none hD hdf
 obtain rfl:kV = .none:=Dflts.noKw hD
 obtain ⟨a,vs,ns,rfl,rfl,hobj,hints,hlen⟩:=script_of hn hpre hwl
 refine enter_call (codeAny_mono (call w s₀ s₁ mg mb fa o pm cd doc a vs ns G Y ho (fd_plain hd) hcd hmg hobj hints hlen hg) fun r s' hq=>?_)
 obtain ⟨rfl,h2,h3,h4⟩:=hq
 exact ⟨.inl ⟨.bool true,.bool true,[],rfl,fun _=>rfl,.bool true,post_true l _,fun _=>⟨List.Pairwise.nil,fun _ hm=>(nomatch hm)⟩⟩,h2,h3,h4⟩
section
variable {prog:Program}{w:World}{A:Around}{E:Value→Shared→Prop}{s:Shared}{K:Frag}
end
end Att
namespace L2
open PySem PySem.Spec PyProof.Rows
theorem vals_ints:∀ {vs:List Value}{ns:List Int},IntsAre vs ns→Vals (ns.map V.int) vs
 | _,_,.nil=>.nil
 | _,_,.cons n t h=>.cons ⟨t,rfl⟩ (vals_ints h)
noncomputable def Only (H:Hp):Prop:=∀ b,H b=none∨∃ o xs,H b=some (.frz o (.lst xs))
theorem law_call {P:Program}{w:World}{K:PySem.W.Frag}{mg mb:Str→Option Value}{CX:CXT}{k:Nat}{fa a:Addr}{fd:FuncData}{x:Str}{sp:Sp}{s₁:Shared}{vs:List Value}{ns:List Int}
 (KX:K.In s₁.heap) (hns:s₁.heap.Ns mainGlobals mg) (hb:s₁.heap.Ns builtinsNs mb) (hbb:∀ x:Str,x≠"__name__"→mb x=bootBuiltins x) (hlim:s₁.heap.NoLimit) (hg:s₁.gens = #[])
 (ha:s₁.heap.get? a=some { cls:=.type "list",data:=.seq vs.toArray }) (hi:IntsAre vs ns) (hl:ns.length≤sizeLine) (hr:Room k callerA)
 (F:∀ base:Heap,K.In base→base.Ns mainGlobals mg→FnOk P w K mg base CX k fa fd [x] sp) (hbind:∀ (s:Shared) (u:Value),BindsTo s fd ⟨[u],[]⟩ [(x,u)])
 (hsp:∀ H:Hp,Only H→SqL K H a (ns.map V.int)→sp [.ref a] H (fun v _=>v = .bl true) fun _ _ _=>False)
 (hCX:∀ H e s',CX [] H s₁ (fun _ _ _=>False) e s'→False) :
 codeAny (model P w) callerA (.call (.ref fa) ⟨[.ref a],[]⟩) (fun r s'=>r = .ok (.ret (.bool true))∧OldK s₁.heap s'.heap∧s'.os=s₁.os∧AllBare s'.gens) s₁:=by
 have rv:=vals_ints hi
 have lenV:=hi.length
 -- from an abstract heap in which nothing but the script may be tracked
 have core:∀ H:Hp,Only H→SqL K H a (ns.map V.int)→HOk P w H s₁.heap→(∀ b,H b≠none→b=a)→(H a≠none→K.lookup a=none) →
  codeAny (model P w) callerA (.call (.ref fa) ⟨[.ref a],[]⟩) (fun r s'=>r = .ok (.ret (.bool true))∧OldK s₁.heap s'.heap∧s'.os=s₁.os∧AllBare s'.gens) s₁:=by
  intro H hO hS hok hA hK
  have base_of:∀ {b:Addr} {o:Obj},s₁.heap.get? b=some o→H b=none→(hidT s₁.heap H).get? b=some o:=fun e n=>hidT_get e n
  have noA:∀ {b:Addr} {o:Obj} {es:Array DictEntry} {ep:Nat},s₁.heap.get? b=some o→o.data = .dict es ep→H b=none:=fun {b o es ep} e d=>by
   cases q:H b with
   | none=>rfl
   | some u=>
    have e':b=a:=hA b (by rw [q];simp)
    subst e'
    rw [ha] at e;cases e
    have d':Data.seq vs.toArray _=Data.dict es ep:=d
    cases d'
  have nsK:∀ {b:Addr} {m:Str→Option Value},s₁.heap.Ns b m→(hidT s₁.heap H).Ns b m:=fun {b m} ⟨o,es,ep,e,d,r⟩=>⟨o,es,ep,base_of e (noA e d),d,r⟩
  have hKb:K.In (hidT s₁.heap H):=fun b o e=>base_of (KX b o e) (by
   cases q:H b with
   | none=>rfl
   | some u=>
    have e':b=a:=hA b (by rw [q];simp)
    subst e'
    rw [hK (by rw [q];simp)] at e;cases e)
  have hM:Mod K mg (hidT s₁.heap H):=⟨hKb,nsK hns,⟨mb,nsK hb,hbb⟩,let ⟨mc,h1,h2⟩:=hlim;⟨mc,nsK h1,h2⟩⟩
  have e0:Env0 P w K mg (hidT s₁.heap H) callerA [] s₁ H:=⟨rfl,hM,fun b o e=>of_hidT e,Nat.le_of_eq (hidT_size _ _),trivial,fun b hb=>absurd (show b∈([]:List Addr) from hb) (by simp),hok,.of_eq hg⟩
  refine codeAny_mono ((F _ hKb (nsK hns)).run callerA [] s₁ H ⟨[.ref a],[]⟩ [.ref a] [.ref a] _ _ hr e0 (hbind s₁ (.ref a)) (.cons rfl .nil) (hsp H hO hS)) fun r s' h=>?_
  cases r with
  | error e=>exact (hCX H e s' h).elim
  | ok fl=>
   cases fl with
   | next=>exact False.elim h
   | brk=>exact False.elim h
   | cont=>exact False.elim h
   | ret u=>
    obtain ⟨v,H',os,bare,un,hok',r',q⟩:=h
    have q':v = .bl true:=q
    subst q'
    obtain rfl:u=Value.bool true:=r'
    refine ⟨rfl,OldK.of_keep fun b o e=>?_,os,bare⟩
    cases q:H b with
    | none=>exact un.keep b o e q (by intro z;exact absurd (show b∈([]:List Addr) from z) (by simp)) (by simp)
    | some u=>
     rcases hO b with z | ⟨ob,xs,z⟩
     · rw [q] at z;cases z
     · have z2:=un.frzs b ob _ z
       obtain ⟨e1,_⟩:=hok b _ z
       obtain ⟨e2,_⟩:=hok' b _ z2
       rw [e] at e1;cases e1
       exact e2
 cases hk:K.lookup a with
 | some o=>
  -- the script is one of the module's own objects
  have e:=KX a o hk
  rw [ha] at e
  cases e
  refine core (fun _=>none) (fun _=>.inl rfl) (.inr ⟨_,vs.toArray,_,hk,rfl,rfl,rfl,by rw [List.size_toArray,lenV];exact hl,by simpa using rv⟩) (fun b u z=>by have z':(none:Option HO)=some u:=z;cases z') (fun b z=>absurd rfl z) fun z=>absurd rfl z
 | none=>
  refine core (fun b=>if b=a then some (.frz { cls:=.type "list",data:=.seq vs.toArray } (.lst (ns.map V.int))) else none) (fun b=>?_) (.inl (.inr ⟨{ cls:=.type "list",data:=.seq vs.toArray },if_pos rfl⟩)) (fun b u z=>?_) (fun b z=>?_) fun _=>hk
  · by_cases hb:b=a
    · exact .inr ⟨_,_,if_pos hb⟩
    · exact .inl (if_neg hb)
  · by_cases hb:b=a
    · have z':=(if_pos hb).symm.trans z
      cases z'
      subst hb
      exact ⟨ha,by rw [List.length_map];exact hl,vs,_,rv,ha⟩
    · have z':=(if_neg hb).symm.trans z
      cases z'
  · by_cases hb:b=a
    · exact hb
    · exact absurd (if_neg hb) z
theorem walk_of {l:PySem.W.OpenLaw}{n k:Nat}{q:Program}{loose:List Str}{XP:(Str→Option Value)→Heap→Prop}{YP:World→Heap→Prop}{d:DefRec}{K:Params→PySem.W.Frag}{CX:World→CXT}{sp:World→Sp}{x:Str}
 (hn:l.most=some n) (hn2:n≤sizeLine) (hdf:d.params.defaults=[]) (hr:Room k callerA)
 (hY:∀ (w:World) (h:Heap),YP w h→(K w.params).In h)
 (F:∀ (w:World) (mg:Str→Option Value) (fa:Addr) (h:Heap),(K w.params).In h→h.Ns mainGlobals mg→mg d.name=some (.ref fa) →
  ∃ fd:FuncData,(∀ (s:Shared) (u:Value),BindsTo s fd ⟨[u],[]⟩ [(x,u)]) ∧
   ∀ base:Heap,(K w.params).In base→base.Ns mainGlobals mg→FnOk l.prog w (K w.params) mg base (CX w) k fa fd [x] (sp w))
 (hsp:∀ (w:World) (H:Hp) (a:Addr) (ns:List Int),ns.length≤n→Only H→SqL (K w.params) H a (ns.map V.int)→sp w [.ref a] H (fun v _=>v = .bl true) fun _ _ _=>False)
 (hCX:∀ (w:World) (H:Hp) (s:Shared) (e:Value) (s':Shared),CX w [] H s (fun _ _ _=>False) e s'→False) :
 PySem.W.WalkO q loose XP YP l.row.toRowW d [] (fun f vs=>PySem.call f vs):=by
 refine Att.attach_call hn hdf fun w s₀ s₁ mg mb fa o pm cd doc a vs ns G Y ho hd hcd hmg hobj hints hlen hg=>?_
 have KX:=hY w _ Y
 obtain ⟨fd,hb,hF⟩:=F w mg fa _ KX G.T.g hmg
 exact law_call KX G.T.g G.T.b G.T.builtins G.T.nolimit hg hobj hints (Nat.le_trans hlen hn2) hr hF hb (fun H hO hS=>hsp w H a ns hlen hO hS) fun H e s'=>hCX w H s₁ e s'
noncomputable def defArgs (s:Stmt):Arguments:=match s with
 | .FunctionDef _ a _ _ _ _ _ _ _ _=>a
 | _=>{ posonlyargs:=[],args:=[],vararg:=none,kwonlyargs:=[],kw_defaults:=[],kwarg:=none,defaults:=[] }
noncomputable def defBody (s:Stmt):List Stmt:=match s with
 | .FunctionDef _ _ b _ _ _ _ _ _ _=>b
 | _=>[]
noncomputable def defScope (s:Stmt):Scope:=match s with
 | .FunctionDef _ _ _ _ _ _ sc _ _ _=>sc
 | _=>{ kind:=.function,names:=[],isGenerator:=false,isCoroutine:=false }
noncomputable abbrev CX0:CXT:=fun _ _ _ _ _ _=>False
noncomputable abbrev E0:XK:=fun _ _ _=>False
theorem pass0 {X:Cx}:Passes CX0 X E0:=fun _ _ _ _ _ _ _ h=>h.elim
structure Fun (K:PySem.W.Frag) (x qual:Str) (st:Stmt) (f:Addr) (fd:FuncData):Prop where
 ex:∃ (oc:Value) (od:Option Addr) (kV doc pm:Value) (an:Option Addr) (cdv ct:Value) (osl:Array (Option Value)),
  fd=PySem.W.fnOf x qual (defArgs st) (defBody st) (defScope st) .none kV doc pm an cdv ct∧K.lookup f=some ⟨oc,od,.func fd,osl⟩∧PySem.W.codeIn K cdv qual=true
 kp:PySem.W.keepIn K (.ref f)=true
section
variable {P:Program}{w:World}{K:PySem.W.Frag}{mg:Str→Option Value}{base:Heap}
theorem Fun.ok {x qual:Str}{st:Stmt}{f:Addr}{fd:FuncData}{N ps:List Str}{k:Nat}{sp:Sp}(F:Fun K x qual st f fd) (S:FnScope N ps (defScope st)) (len:∀ vs H Q E,sp vs H Q E→vs.length=ps.length)
 (hbody:∀ (cdv:Value) (A:Around) (outer:List Env) (s:Shared) (H:Hp) (vs:List V) (Q:VK) (E:XK),Room k (A.deeper (envOfC qual (defScope st) s.heap.objs.size f cdv))→sp vs H Q E →
  ∃ t,PSs (cxOf CX0 P w K mg base N qual (defScope st) f cdv A outer s H E).nox (defBody st) t∧t { nx:=fun _ H'=>Q .non H',rt:=Q } (start N vs) H):FnOk P w K mg base CX0 (k+1) f fd ps sp:=by
 obtain ⟨oc,od,kV,doc,pm,an,cdv,ct,osl,rfl,lk,hcd⟩:=F.ex
 refine fn_of lk hcd S len fun A outer s H vs Q E hr hsp=>?_
 obtain ⟨t,h,q⟩:=hbody cdv A outer s H vs Q E hr hsp
 exact ⟨t,h.nox,q⟩
theorem Fun.binds {x qual:Str}{st:Stmt}{f:Addr}{fd:FuncData}{ps:List Str}(F:Fun K x qual st f fd)
 (h:∀ (kV doc pm:Value) (an:Option Addr) (cdv ct:Value) (us:List Value),us.length=ps.length→bindArgs (PySem.W.fnOf x qual (defArgs st) (defBody st) (defScope st) .none kV doc pm an cdv ct) ⟨us,[]⟩=pure (ps.zip us)):Binds K fd ps []:=by
 obtain ⟨oc,od,kV,doc,pm,an,cdv,ct,osl,rfl,lk,hcd⟩:=F.ex
 exact .all (h kV doc pm an cdv ct)
theorem fun_mk {x qual:Str}{st:Stmt}{f:Addr}{oc:Value}{od an:Option Addr}{osl:Array (Option Value)}{kV doc pm cdv ct:Value}(l:K.lookup f=some ⟨oc,od,.func (PySem.W.fnOf x qual (defArgs st) (defBody st) (defScope st) .none kV doc pm an cdv ct),osl⟩)
 (c:PySem.W.codeIn K cdv qual=true) (k:PySem.W.keepIn K (.ref f)=true):Fun K x qual st f (PySem.W.fnOf x qual (defArgs st) (defBody st) (defScope st) .none kV doc pm an cdv ct):=⟨⟨oc,od,kV,doc,pm,an,cdv,ct,osl,rfl,l,c⟩,k⟩
end
theorem hu_of {A:Around}{k:Nat}(hr:Room k A):A.units+1<cLine:=Nat.lt_of_le_of_lt (Nat.add_le_add_left (by decide:1≤64) _) hr.units
theorem small1000 {n:Nat}(h:n≤1000):n<sizeLine:=Nat.lt_of_le_of_lt h (by decide)
section
variable {X:Cx}
theorem pv (i:Nat) {x:Str}{pos:Pos}(hN:X.N[i]? = some x:=by rfl) (hv:Vis X.env.scope x:=by first | exact Or.inl rfl | exact Or.inr (Or.inl rfl) | exact Or.inr (Or.inr rfl)) (hd:(x==("__debug__":Str))=false:=by decide)
 (hcd:(x==("__classdict__":Str))=false:=by decide):PE X (.Name x pos) (tVar i):=pe_var hN hv hd hcd
end
theorem iteF {A B:Prop}(h:B):if false=true then A else B:=by
 rw [if_neg Bool.false_ne_true]
 exact h
theorem iteT {A B:Prop}(h:A):if true=true then A else B:=by
 rw [if_pos rfl]
 exact h
noncomputable def Same (H H':Hp):Prop:=∀ b o,H b=some o→H' b=some o
theorem Same.free {H H':Hp}(e:Same H H') {l:Addr}(h:H' l=Option.none):H l=Option.none:=by
 cases q:H l with
 | none=>rfl
 | some o=>
  rw [e l o q] at h
  cases h
theorem Same.seq {K:PySem.W.Frag}{H H':Hp}{a:Addr}{xs:List V}(e:Same H H') (h:SqL K H a xs):SqL K H' a xs:=by
 rcases h with (h | ⟨o,h⟩) | h
 · exact .inl (.inl (e _ _ h))
 · exact .inl (.inr ⟨o,e _ _ h⟩)
 · exact .inr h
section
variable {κ:Type} [DecidableEq κ]
end
end L2
set_option maxHeartbeats 4000000
namespace L2
open PySem PySem.Spec PyProof.Rows
noncomputable abbrev NoE:Value→Shared→Prop:=fun _ _=>False
theorem compLoop_go {prog:Program}{w:World}{A:Around}{R:Result→Shared→Prop}{s:Shared}{elt target iter:Expr}{ifs:List Expr}{scope:Scope}{pos:Pos}{it acc:Value}{env:Env}(I:Nat→Shared→Prop)
 (turn:∀ n s,I n s→wpAny (model prog w) A (pyNext it) (fun r s₁=>match r with
  | none=>R (.ok .next) s₁
  | some v=>wpAny (model prog w) A (letOwnedTupleGo target it v) (fun _ s₁'=>wpAny (model prog w) A (assign target env v) (fun _ s₂=>
   wpAny (model prog w) A (forIn ifs true fun c r=>if r=true then do let ok ← isTrue c env (eval c env);pure (ForInStep.yield ok) else pure (ForInStep.yield r)) (fun ok s₃=>
    if ok=true then wpAny (model prog w) A (eval elt env) (fun x s₄=>
     wpAny (model prog w) A (call (.builtin "list.append") [acc,x]) (fun _ s₅=>∃ m,m<n∧I m s₅) NoE s₄) NoE s₃
    else ∃ m,m<n∧I m s₃) NoE s₂) NoE s₁') NoE s₁) NoE s)
 (n:Nat) (h:I n s) :
 codeAny (model prog w) A (.compLoop (.ListComp elt [⟨target,iter,ifs,0⟩] scope pos) 0 it acc env) R s:=by
 refine codeAny_loop rfl I (fun n s hI=>?_) n h
 show wpAny _ A ((compTurn (.ListComp elt [⟨target,iter,ifs,0⟩] scope pos) 0 it acc env).onRaise (fun x=>do noteFrame x env;theTreesLotGoes x)) _ _ s
 refine wpAny_noted ?_
 rw [compTurn_list]
 refine wpAny_bind (wpAny_standAt (wpAny_bind (wpAny_mono (turn n s hI) (fun r s₁ h₁=>?_) fun _ _ f=>f.elim)))
 cases r with
 | none=>exact wpAny_pure h₁
 | some v=>
  refine wpAny_bind (wpAny_mono h₁ (fun _ s₁' h₁'=>wpAny_bind (wpAny_mono h₁' (fun _ s₂ h₂=>wpAny_bind (wpAny_mono h₂ (fun ok s₃ h₃=>?_) fun _ _ f=>f.elim)) fun _ _ f=>f.elim)) fun _ _ f=>f.elim)
  cases ok with
  | false=>exact wpAny_pure ⟨rfl,h₃⟩
  | true=>
   exact wpAny_bind (wpAny_bind (wpAny_mono h₃ (fun x s₄ h₄=>wpAny_bind (wpAny_mono h₄ (fun _ s₅ h₅=>wpAny_pure (wpAny_pure ⟨rfl,h₅⟩)) fun _ _ f=>f.elim)) fun _ _ f=>f.elim))
noncomputable def closeL (env:Env):List (Str×NameKind)→List (Str×Addr)→List (Str×Addr)
 | [],cs=>cs
 | (n,k)::r,cs=>closeL env r (if (k==NameKind.free)=true then (n,(env.cells.lookup n).getD 0)::cs else cs)
theorem closureFor_eq {scope:Scope}{env:Env}(h:∀ x∈scope.names,x.2 = .free→∃ c,env.cells.lookup x.1=some c):closureFor scope env=pure (closeL env scope.names []):=by
 have key:∀ (l:List (Str×NameKind)) (cs:List (Str×Addr)),(∀ x∈l,x.2 = .free→∃ c,env.cells.lookup x.1=some c) →
  (forIn (m:=Sem) l cs fun (x:Str×NameKind) (r:List (Str×Addr))=>if (x.2==NameKind.free)=true then (do let c ← cellOf env x.1;pure (ForInStep.yield ((x.1,c)::r))) else (do pure PUnit.unit;pure (ForInStep.yield r)))=pure (closeL env l cs):=by
  intro l
  induction l with
  | nil=>intro cs _;rfl
  | cons x r ih=>
   intro cs hx
   obtain ⟨n,k⟩:=x
   rw [List.forIn_cons]
   by_cases hk:k = .free
   · subst hk
     obtain ⟨c,hc⟩:=hx _ List.mem_cons_self rfl
     have e:cellOf env n=pure c:=by unfold cellOf;rw [show env.cells.lookup n=some c from hc]
     simp only [beq_self_eq_true,if_true,e,pure_bind]
     rw [ih _ fun y hy=>hx y (List.mem_cons_of_mem _ hy)]
     simp only [closeL,beq_self_eq_true,if_true]
     rw [show env.cells.lookup n=some c from hc]
     rfl
   · have hb:(k==NameKind.free)=false:=by simpa using hk
     simp only [hb,Bool.false_eq_true,if_false,pure_bind]
     rw [ih _ fun y hy=>hx y (List.mem_cons_of_mem _ hy)]
     simp only [closeL,hb,Bool.false_eq_true,if_false]
 unfold closureFor
 have:=key scope.names [] h
 show ((forIn (m:=Sem) scope.names ([]:List (Str×Addr)) _) >>= _)=_
 refine Eq.trans (congrArg (fun z=>z >>= _) (Eq.trans ?_ this)) ?_
 · congr 1
 · rfl
theorem closeL_mem {env:Env}:∀ {l:List (Str×NameKind)}{cs:List (Str×Addr)},(∀ x∈l,x.2 = .free→∃ c,env.cells.lookup x.1=some c)→(∀ p∈cs,env.cells.lookup p.1=some p.2)→∀ p∈closeL env l cs,env.cells.lookup p.1=some p.2
 | [],_,_,hc=>hc
 | (n,k)::r,cs,hx,hc=>by
  unfold closeL
  refine closeL_mem (fun y hy=>hx y (List.mem_cons_of_mem _ hy)) fun p hp=>?_
  by_cases hk:k = .free
  · subst hk
    simp only [beq_self_eq_true,if_true] at hp
    rcases List.mem_cons.mp hp with rfl | hp
    · obtain ⟨c,e⟩:=hx _ List.mem_cons_self rfl
      have e:env.cells.lookup n=some c:=e
      show env.cells.lookup n=some ((env.cells.lookup n).getD 0)
      rw [e]
      rfl
    · exact hc p hp
  · have hb:(k==NameKind.free)=false:=by simpa using hk
    simp only [hb,Bool.false_eq_true,if_false] at hp
    exact hc p hp
theorem closeL_sub {env:Env}:∀ {l:List (Str×NameKind)}{cs:List (Str×Addr)}{p:Str×Addr},p∈cs→p∈closeL env l cs
 | [],_,_,h=>h
 | (n,k)::r,cs,p,h=>by
  unfold closeL
  refine closeL_sub ?_
  split
  · exact List.mem_cons_of_mem _ h
  · exact h
theorem closeL_has {env:Env}:∀ {l:List (Str×NameKind)}{cs:List (Str×Addr)}{x:Str},(x,NameKind.free)∈l→∃ c,(x,c)∈closeL env l cs
 | [],_,_,h=>by cases h
 | (n,k)::r,cs,x,h=>by
  unfold closeL
  rcases List.mem_cons.mp h with e | h
  · cases e
    simp only [beq_self_eq_true,if_true]
    exact ⟨_,closeL_sub List.mem_cons_self⟩
  · exact closeL_has h
theorem lookup_mem_some {α:Type}{x:Str}{c:α}:∀ {l:List (Str×α)},(x,c)∈l→∃ d,l.lookup x=some d
 | [],h=>by cases h
 | (n,k)::r,h=>by
  rw [List.lookup_cons]
  cases hx:x==n with
  | true=>exact ⟨k,rfl⟩
  | false=>
   rcases List.mem_cons.mp h with e | h
   · cases e;simp at hx
   · exact lookup_mem_some h
theorem relabel_cases {env:Env}{x:Str}:∀ {names:List (Str×NameKind)}{k:NameKind},
 (names.map fun (n,k)=>if (k==NameKind.free&&env.scope.kind == .function&&env.kindOf n==some .cell) then (n,NameKind.cell) else (n,k)).lookup x=some k→names.lookup x=some k∨(k = .cell∧names.lookup x=some .free)
 | [],_,h=>by simp at h
 | (n,j)::r,k,h=>by
  have ih:=@relabel_cases env x r k
  rw [List.map_cons] at h
  rw [List.lookup_cons]
  dsimp only at h
  by_cases hc:(j==NameKind.free&&env.scope.kind == .function&&env.kindOf n==some .cell)=true
  · rw [if_pos hc,List.lookup_cons] at h
    cases hx:x==n with
    | true=>
     rw [hx] at h
     simp only [Bool.and_eq_true] at hc
     have:j = .free:=by simpa using hc.1.1
     subst this
     cases h
     exact .inr ⟨rfl,rfl⟩
    | false=>rw [hx] at h;exact ih h
  · rw [if_neg hc,List.lookup_cons] at h
    cases hx:x==n with
    | true=>rw [hx] at h;exact .inl h
    | false=>rw [hx] at h;exact ih h
theorem relabel_free {env:Env}{x:Str}:∀ {names:List (Str×NameKind)},names.lookup x=some .free →
 (names.map fun (n,k)=>if (k==NameKind.free&&env.scope.kind == .function&&env.kindOf n==some .cell) then (n,NameKind.cell) else (n,k)).lookup x=some .cell ∨
 (names.map fun (n,k)=>if (k==NameKind.free&&env.scope.kind == .function&&env.kindOf n==some .cell) then (n,NameKind.cell) else (n,k)).lookup x=some .free
 | [],h=>by simp at h
 | (n,j)::r,h=>by
  have ih:=@relabel_free env x r
  rw [List.lookup_cons] at h
  rw [List.map_cons]
  dsimp only
  by_cases hc:(j==NameKind.free&&env.scope.kind == .function&&env.kindOf n==some .cell)=true
  · rw [if_pos hc,List.lookup_cons]
    cases hx:x==n with
    | true=>exact .inl rfl
    | false=>rw [hx] at h;exact ih h
  · rw [if_neg hc,List.lookup_cons]
    cases hx:x==n with
    | true=>rw [hx] at h;cases h;exact .inr rfl
    | false=>rw [hx] at h;exact ih h
noncomputable def cxComp (X:Cx) (N':List Str) (scope:Scope) (C:Addr) (s:Shared) (H:Hp) (fp:List Addr):Cx where
 prog:=X.prog
 w:=X.w
 K:=X.K
 mg:=X.mg
 base:=X.base
 A:=X.A
 N:=N'
 s₀:=s
 H₀:=H
 env:=compEnvC scope (closeL X.env scope.names []) C X.env
 outer:=X.stack
 stack:=X.stack
 ex:=fp
 fn:=fun _=>false
 calm:=X.calm
 pn:=[]
 xe:=NoE
structure CompScope (sc:Scope) (N:List Str) (scope:Scope) (N':List Str) (k:Nat) (idx:List Nat):Prop where
 kind:scope.kind = .function
 nocell:∀ x∈scope.names,x.2≠.cell
 loc:∀ x∈scope.names,x.2 = .local → scope.names.lookup x.1=some .local
 fr:∀ x∈scope.names,x.2 = .free→sc.names.lookup x.1=some .cell∨sc.names.lookup x.1=some .free
 nd:N'.Nodup
 free:∀ x∈N'.drop k,scope.names.lookup x=some .free
 ix:(N'.drop k).map some=idx.map fun i=>N[i]?
 len:N'.length=k+idx.length
noncomputable def startC (k:Nat) (idx:List Nat) (σ:St):St:=List.replicate k none++idx.map fun i=>(σ[i]?).join
section
variable {X:Cx}{pins:List (Addr×Obj)}{σ:St}{H:Hp}{s:Shared}{scope:Scope}{N':List Str}{k:Nat}{idx:List Nat}{sc:Scope}{N:List Str}
theorem comp_start (I:Inv X pins σ H s) (S:CompScope sc N scope N' k idx) (hsc:X.env.scope=sc) (hNN:X.N=N) {fp:List Addr}(hf:∀ b∈fp,FpOk X pins H b) (hlt:∀ b∈fp,b<s.heap.objs.size) {h':Heap}{t':Nat}
 (hn:h'.Ns s.heap.objs.size (fun _=>none)) (hk:∀ b o,s.heap.get? b=some o→h'.get? b=some o) :
 Inv (cxComp X N' scope s.heap.objs.size s H fp) [] (startC k idx σ) H { s with heap:=h',toks:=t' }:=by
 have hcell:∀ x∈scope.names,x.2 = .free→∃ c,X.env.cells.lookup x.1=some c:=fun x hx hfree=>I.ok.has x.1 (by
  show X.env.scope.names.lookup x.1=_∨X.env.scope.names.lookup x.1=_
  rw [hsc];exact S.fr x hx hfree)
 have hcl:∀ x c,(closeL X.env scope.names []).lookup x=some c→X.env.cells.lookup x=some c:=fun x c e=>closeL_mem hcell (fun p hp=>by cases hp) (x,c) (PySem.mem_of_lookup e)
 have hok:(cxComp X N' scope s.heap.objs.size s H fp).Ok:={
  mod:=I.ok.mod
  kind:=S.kind
  glob:=I.ok.glob
  blt:=I.ok.blt
  above:=Nat.le_refl _
  inj:=fun x y c e1 e2=>I.ok.inj x y c (hcl x c e1) (hcl y c e2)
  has:=fun x hx=>by
   have hfree:scope.names.lookup x=some .free:=by
    rcases hx with hx | hx
    · rcases relabel_cases (env:=X.env) (names:=scope.names) hx with h | ⟨_,h⟩
      · exact absurd rfl (S.nocell _ (PySem.mem_of_lookup h))
      · exact h
    · rcases relabel_cases (env:=X.env) (names:=scope.names) hx with h | ⟨h,_⟩
      · exact h
      · cases h
   obtain ⟨c,hc⟩:=closeL_has (env:=X.env) (cs:=[]) (PySem.mem_of_lookup hfree)
   exact lookup_mem_some hc
  cab:=fun x c h=>by cases h
  hd:=I.ok.hd
  frames:=I.ok.frames
  stk:=.inl rfl
  exf:=fun b hb=>⟨Nat.ne_of_lt (hlt b hb),fun x c e=>(hf b hb).2.2.2.2.1 x c (hcl x c e)⟩
  bs:=I.bs
  bsz:=Nat.le_trans I.ok.bsz I.sz
  noex:=fun b o e hb=>by
   rcases (hf b hb).2.2.2.1 with z | z
   · exact I.ok.noex b o e z
   · exact absurd (Nat.lt_of_lt_of_le (Heap.lt_size e) (Nat.le_trans I.ok.bsz z)) (Nat.lt_irrefl _)
  exfs:=fun b hb hz=>by
   rcases List.mem_cons.mp (I.stkSub b hz) with e | e
   · exact (hf b hb).2.1 e
   · exact (hf b hb).2.2.1 e
  funs:=I.stack
  frf:=I.stkFree }
 refine ⟨hok,rfl,I.bare,Un.kept hk,⟨_,hn,fun i x v e1 e2 e3=>?_⟩,fun x c e=>?_,I.hok.fresh (Nat.le_refl _),fun x c e=>I.freeC x c (hcl x c e),(fun p hp=>by cases hp),I.hok.kept hk,?_⟩
 · -- a name with a value is one of the others
   have hi:k≤i:=by
    rcases Nat.lt_or_ge i k with h | h
    · have e2:(startC k idx σ)[i]? = some (some v):=e2
      unfold startC at e2
      rw [List.getElem?_append_left (by simpa using h),List.getElem?_replicate] at e2
      split at e2<;>cases e2
    · exact h
   have e1':(N'.drop k)[i-k]? = some x:=by
    rw [List.getElem?_drop,show k+(i-k)=i by omega];exact e1
   have hfree:=S.free x (List.mem_of_getElem? e1')
   have e2':(idx.map fun i=>(σ[i]?).join)[i-k]? = some (some v):=by
    have e2:(startC k idx σ)[i]? = some (some v):=e2
    unfold startC at e2
    rw [List.getElem?_append_right (by simpa using hi),List.length_replicate] at e2
    exact e2
   rw [List.getElem?_map] at e2'
   cases hj:idx[i-k]? with
   | none=>rw [hj] at e2';cases e2'
   | some j=>
    rw [hj] at e2'
    have e3':(σ[j]?).join=some v:=by simpa using e2'
    have eσ:σ[j]? = some (some v):=by
     cases q:σ[j]? with
     | none=>rw [q] at e3';cases e3'
     | some o=>rw [q] at e3';cases o with
      | none=>cases e3'
      | some z=>cases e3';rfl
    have eN:X.N[j]? = some x:=by
     rw [hNN]
     have:=congrArg (fun l=>l[i-k]?) S.ix
     simp only [List.getElem?_map,e1',hj,Option.map_some] at this
     exact (Option.some.inj this).symm
    have hvk:=S.fr _ (PySem.mem_of_lookup hfree) rfl
    obtain ⟨m,hm,hl⟩:=I.loc
    obtain ⟨u,ru,lk⟩:=hl j x v eN eσ (by rw [hsc];exact .inr hvk)
    refine ⟨u,ru,.inr ⟨relabel_free (env:=X.env) hfree,?_⟩⟩
    rcases lk with ⟨kl,_⟩ | ⟨_,c,ec,z⟩
    · have kl:X.env.scope.names.lookup x=some .local := kl
      rw [hsc] at kl
      rcases hvk with q | q<;>(rw [kl] at q;cases q)
    · obtain ⟨d,hd⟩:=closeL_has (env:=X.env) (cs:=[]) (PySem.mem_of_lookup hfree)
      obtain ⟨d',hd'⟩:=lookup_mem_some hd
      have e:=hcl x d' hd'
      rw [ec] at e
      cases e
      obtain ⟨o,ho,hod⟩:=z
      exact ⟨c,hd',o,hk c o ho,hod⟩
 · obtain ⟨v,o,ho,hod⟩:=I.cell x c (hcl x c e)
   exact ⟨v,o,hk c o ho,hod⟩
 · show (startC k idx σ).length=N'.length
   unfold startC
   rw [S.len,List.length_append,List.length_replicate,List.length_map]
end
noncomputable def PTs (X:Cx) (ifs:List Expr) (t:TT):Prop:=
 ∀ (pins:List (Addr×Obj)) (s:Shared) (σ:St) (H:Hp) (Q:Bool→Hp→Prop),Inv X pins σ H s→t σ H Q →
  wpAny (model X.prog X.w) X.A (forIn ifs true fun c r=>if r=true then do let ok ← isTrue c X.env (eval c X.env);pure (ForInStep.yield ok) else pure (ForInStep.yield r)) (TP X pins σ Q) X.xe s
noncomputable def tNoTest:TT:=fun _ H Q=>Q true H
theorem pts_nil {X:Cx}:PTs X [] tNoTest:=fun pins s σ H Q I h=>wpAny_tests_nil ⟨H,I,h⟩
theorem pts_one {X:Cx}{c:Expr}{t:TT}(h:PT X c t):PTs X [c] t:=fun pins s σ H Q I q=>wpAny_tests_one (h pins s σ H Q I q)
noncomputable def cTurns (J:It) (g:TG) (tt:TT) (te:TE) (l:Addr) (σ0:St) (H0:Hp) (Q:Hp→Prop):Prop:=
 ∃ W:Nat→Nat→St→Hp→Prop,(∃ m,W 0 m σ0 H0)∧∀ i m σ H,W i m σ H →
  (J.stop i H∧Q H)∨(J.go i H∧∀ x H',J.yld i H x H'→g x σ H' fun σ2 H2=>tt σ2 H2 fun c H3=>
   if c=true then te σ2 H3 fun y H4=>∃ xs,H4 l=some (.lst xs)∧xs.length<sizeLine∧∃ m',m'<m∧W (i+1) m' σ2 (upd H4 l (.lst (xs++[y])))
   else ∃ m',m'<m∧W (i+1) m' σ2 H3)
noncomputable def tComp (wi:TI) (k:Nat) (idx:List Nat) (g:TG) (tt:TT) (te:TE):TE:=fun σ H Q=>wi σ H fun J H1=>∀ l,H1 l=none→cTurns J g tt te l (startC k idx σ) (upd H1 l (.lst [])) fun H2=>Q (.ref l) H2
section
variable {X:Cx}{tg iter elt:Expr}{ifs:List Expr}{scope sc:Scope}{N N':List Str}{k:Nat}{idx:List Nat}{wi:TI}{g:TG}{tt:TT}{te:TE}{pos:Pos}
structure Free1 (X:Cx) (pins:List (Addr×Obj)) (H:Hp) (C:Addr):Prop where
 loc:C≠X.env.locals
 cel:∀ x c,X.env.cells.lookup x=some c→c≠C
 fr:H C=none
 new:X.s₀.heap.objs.size≤C
 pin:∀ p∈X.pn++pins,p.1≠C
theorem Inv.freed {X:Cx}{pins:List (Addr×Obj)}{σ:St}{H:Hp}{s:Shared}{C:Addr}{h':Heap}(I:Inv X pins σ H s) (f:Free1 X pins H C) (hs:Heap.SameBut C s.heap h'):Inv X pins σ H { s with heap:=h' }:=
 I.turned (t':=s.toks) (it:=C) (fun b o hb e=>(hs.2 b hb).trans e) f.fr f.loc (.inr f.new) f.cel f.pin
theorem comp_block {pins:List (Addr×Obj)}{s:Shared}{σ:St}{E:Value→Shared→Prop}{RR:Value→Addr→Result→Shared→Prop}{itv:Value}{Qe:Addr→Hp→Prop}
 (hc:X.calm=true) (S:CompScope sc N scope N' k idx) (hsc:X.env.scope=sc) (hNN:X.N=N)
 (hg:∀ C s H fp,PG (cxComp X N' scope C s H fp) tg g) (ht:∀ C s H fp,PTs (cxComp X N' scope C s H fp) ifs tt) (he:∀ C s H fp,PE (cxComp X N' scope C s H fp) elt te)
 (hit:PIE X pins σ tg (fun J H1=>∀ l,H1 l=none→cTurns J g tt te l (startC k idx σ) (upd H1 l (.lst [])) fun H2=>Qe l H2) itv s)
 (hRR:∀ l H2 C s2,Inv X pins σ H2 s2→(∃ m,s2.heap.Ns C m)→Free1 X pins H2 C→Qe l H2→RR (.ref l) C (.ok .next) s2) :
 wpAny (model X.prog X.w) X.A (newList []) (fun acc s₃=>wpAny (model X.prog X.w) X.A (newFunctionEnv scope X.env.globals (closeL X.env scope.names []) [] X.env.qual none .none (some X.env)) (fun cenv s₄=>
  codeAny (model X.prog X.w) X.A (.compStart (.ListComp elt [⟨tg,iter,ifs,0⟩] scope pos) 0 itv acc { cenv with scope:=relabel scope X.env }) (RR acc cenv.locals) s₄) E s₃) E s:=by
 obtain ⟨it,fp,tn,J,H1,rfl,I1,T,st1,f1,q⟩:=hit
 refine wpAny_newObj_type ?_
 have hf0:H1 s.heap.objs.size=none:=I1.hok.fresh (Nat.le_refl _)
 have hflt:∀ b∈fp,b<s.heap.objs.size:=fun b hb=>let ⟨_,e,_⟩:=T.obj _ _ st1 b hb;Heap.lt_size e
 generalize hl:s.heap.objs.size=l at *
 have I2:Inv X pins σ (upd H1 l (.lst [])) { s with heap:=s.heap.push { cls:=.type "list",dict:=none,data:=.seq ([]:List Value).toArray } }:=
  I1.laid (t':=s.toks) (fun b u e=>Heap.get?_push_of_some _ e) (Nat.le_of_eq hl) (show ObjOk _ _ _ _ l (.lst []) from ⟨Nat.zero_le _,[],0,.nil,by rw [← hl];exact Heap.get?_push_size _ rfl⟩)
 have st2:tn 0 (s.heap.push { cls:=.type "list",dict:=none,data:=.seq ([]:List Value).toArray }):=T.keep _ _ _ st1 fun b _ o e=>Heap.get?_push_of_some _ e
 have f2:∀ b∈fp,FpOk X pins (upd H1 l (.lst [])) b:=fun b hb=>⟨by rw [upd_ne (Nat.ne_of_lt (hflt b hb))];exact (f1 b hb).1,(f1 b hb).2⟩
 have hsz2:(s.heap.push { cls:=.type "list",dict:=none,data:=.seq ([]:List Value).toArray }).objs.size=l+1:=by rw [Heap.size_push,hl]
 have q2:=q l hf0
 generalize hs2:({ s with heap:=s.heap.push { cls:=.type "list",dict:=none,data:=.seq ([]:List Value).toArray } }:Shared)=s2 at I2 ⊢
 have st2:tn 0 s2.heap:=by rw [← hs2];exact st2
 have hsz2:s2.heap.objs.size=l+1:=by rw [← hs2];exact hsz2
 refine wpAny_newFunctionEnv S.nocell (by intro y hy;simp at hy) (fun h₁ hns₁ hsb₁=>?_) S.kind
 have hk1:∀ b o,s2.heap.get? b=some o→h₁.get? b=some o:=fun b o e=>hsb₁.extBut b o (Nat.ne_of_lt (Heap.lt_size e)) (Heap.get?_push_of_some _ e)
 have hlt2:∀ b∈fp,b<s2.heap.objs.size:=fun b hb=>by rw [hsz2];exact Nat.lt_succ_of_lt (hflt b hb)
 have I3:=comp_start (t':=s2.toks+([]:List (Str×Value)).length) I2 S hsc hNN f2 hlt2 (by simpa using hns₁) hk1
 generalize hC:s2.heap.objs.size=C at *
 have st3:tn 0 h₁:=T.keep _ _ _ st2 fun b _ o e=>hk1 b o e
 obtain ⟨W,⟨m0,w0⟩,turn⟩:=q2
 -- back to the frame around
 have back:∀ {σ':St} {H':Hp} {s':Shared},Inv (cxComp X N' scope C s2 (upd H1 l (.lst [])) fp) [] σ' H' s'→Inv X pins σ H' s':=fun {σ' H' s'} I'=>
  I2.call' I'.os I'.base I'.hok I'.bare fun b hb=>⟨(f2 b hb).2.2.2.1,(f2 b hb).2.1,(f2 b hb).2.2.2.2.1,(f2 b hb).2.2.2.2.2⟩
 have loop:∀ s₃:Shared,s₃ = { s2 with heap:=h₁,toks:=s2.toks+([]:List (Str×Value)).length } →
  codeAny (model X.prog X.w) X.A (.compLoop (.ListComp elt [⟨tg,iter,ifs,0⟩] scope pos) 0 (.ref it) (.ref l) (compEnvC scope (closeL X.env scope.names []) C X.env)) (RR (.ref l) C) s₃:=by
  rintro s₃ rfl
  refine compLoop_go (fun n s'=>∃ i σ' H',Inv (cxComp X N' scope C s2 (upd H1 l (.lst [])) fp) [] σ' H' s'∧tn i s'.heap∧(∀ b∈fp,H' b=none)∧W i n σ' H') ?_ m0 ⟨0,_,_,I3,st3,fun b hb=>(f2 b hb).1,w0⟩
  rintro n s4 ⟨i,σ4,H4,I4,st4,fr4,w4⟩
  have stat:∀ {H':Hp},(∀ b∈fp,H' b=none)→∀ b∈fp,FpOk (cxComp X N' scope C s2 (upd H1 l (.lst [])) fp) [] H' b:=fun {H'} hn b hb=>
   ⟨hn b hb,(I4.ok.exf b hb).1,I4.ok.exfs b hb,.inl hb,(I4.ok.exf b hb).2,fun p hp=>by cases hp⟩
  rcases turn i n σ4 H4 w4 with ⟨stop,qn⟩ | ⟨go,step⟩
  · refine thn (T.done (cxComp X N' scope C s2 (upd H1 l (.lst [])) fp) rfl rfl rfl hc i [] s4 σ4 H4 NoE I4 (stat fr4) st4 stop) fun r s5 ⟨hr,I5⟩=>?_
    subst hr
    have IX:=back I5
    have hCl:C≠X.env.locals:=fun e=>by
     have:=I2.lt
     rw [hC,← e] at this
     exact Nat.lt_irrefl _ this
    have hCc:∀ x c,X.env.cells.lookup x=some c→c≠C:=fun x c e z=>by
     obtain ⟨v,o,ho,_⟩:=I2.cell x c e
     have:=Heap.lt_size ho
     rw [hC,z] at this
     exact Nat.lt_irrefl _ this
    obtain ⟨m5,hm5,_⟩:=I5.loc
    refine hRR l H4 C s5 IX ⟨m5,hm5⟩ ⟨hCl,hCc,I5.free,by rw [← hC];exact I2.sz,fun p hp z=>?_⟩ qn
    obtain ⟨e,_⟩:=I2.pin p hp
    have:=Heap.lt_size e
    rw [hC,z] at this
    exact Nat.lt_irrefl _ this
  · refine thn (T.item (cxComp X N' scope C s2 (upd H1 l (.lst [])) fp) rfl rfl rfl hc i [] s4 σ4 H4 NoE I4 (stat fr4) st4 go) fun r s5 ⟨u,hr,h5⟩=>?_
    subst hr
    refine thn h5 fun _ s6 ⟨x,H6,I6,r6,y6,st6,fr6⟩=>?_
    have I6':=I6.pinned (stat fr6) (T.obj _ _ st6)
    have keepT:∀ {σ7:St} {H7:Hp} {s7:Shared},Inv (cxComp X N' scope C s2 (upd H1 l (.lst [])) fp) ([]++pinsAt fp s6.heap) σ7 H7 s7→tn (i+1) s7.heap∧∀ b∈fp,H7 b=none:=fun {σ7 H7 s7} I7=>
     ⟨T.keep _ _ _ st6 fun b hb o e=>(I7.pin (b,o) (List.mem_append_right _ (List.mem_append_right _ (mem_pinsAt hb e)))).1,fun b hb=>by
      obtain ⟨o,e,d⟩:=T.obj _ _ st6 b hb
      exact (I7.pin (b,o) (List.mem_append_right _ (List.mem_append_right _ (mem_pinsAt hb e)))).2.1⟩
    refine thn (hg C s2 (upd H1 l (.lst [])) fp _ s6 σ4 H6 x u _ I6' r6 (step x H6 y6)) fun _ s7 ⟨σ7,H7,I7,q7⟩=>?_
    refine thn (ht C s2 (upd H1 l (.lst [])) fp _ s7 σ7 H7 _ I7 q7) fun ok s8 ⟨H8,I8,q8⟩=>?_
    cases ok with
    | false=>
     rw [if_neg (by decide)] at q8 ⊢
     obtain ⟨m',hm,w8⟩:=q8
     have kt:=keepT I8
     exact ⟨m',hm,i+1,σ7,H8,I8.unpinned,kt.1,kt.2,w8⟩
    | true=>
     rw [if_pos rfl] at q8 ⊢
     refine thn (he C s2 (upd H1 l (.lst [])) fp _ s8 σ7 H8 _ I8 q8) fun v s9 ⟨y,H9,I9,r9,xs,e9,z9,m',hm,w9⟩=>?_
     refine thn (mt_append _ s9 σ7 H9 (.ref l) [y] (.ref l) [v] (fun z H10=>z = .non∧H10=upd H9 l (.lst (xs++[y]))) I9 rfl (.cons r9 .nil) ⟨l,xs,y,rfl,rfl,e9,z9,rfl,rfl⟩) fun _ s10 ⟨z,H10,I10,_,_,e10⟩=>?_
     subst e10
     have kt:=keepT I10
     exact ⟨m',hm,i+1,σ7,_,I10.unpinned,kt.1,kt.2,w9⟩
 have e2:(newEnv scope C X.env.globals (closeL X.env scope.names []) X.env.qual none .none (some X.env) builtinsNs).locals=C:=rfl
 show codeAny _ _ (.compStart _ 0 (.ref it) (.ref l) (compEnvC scope (closeL X.env scope.names []) C X.env)) (RR (.ref l) C) _
 exact codeAny_compStart_list (loop _ rfl) (T.self _ 0 _ _ _ st3 (loop _ rfl))
theorem pe_comp (hc:X.calm=true) (S:CompScope sc N scope N' k idx) (hsc:X.env.scope=sc) (hNN:X.N=N) (hi:PI X tg iter wi)
 (hg:∀ C s H fp,PG (cxComp X N' scope C s H fp) tg g) (ht:∀ C s H fp,PTs (cxComp X N' scope C s H fp) ifs tt) (he:∀ C s H fp,PE (cxComp X N' scope C s H fp) elt te)
 (hs:∀ x,foldedSetIterable iter X.env x=pure x:=by intro _;rfl):PE X (.ListComp elt [⟨tg,iter,ifs,0⟩] scope pos) (tComp wi k idx g tt te):=by
 intro pins s σ H Q I h
 rw [eval_ListComp]
 have hclos:closureFor scope X.env=pure (closeL X.env scope.names []):=closureFor_eq fun x hx hfree=>I.ok.has x.1 (by
  show X.env.scope.names.lookup x.1=_∨X.env.scope.names.lookup x.1=_
  rw [hsc];exact S.fr x hx hfree)
 refine wpAny_comprehension_free (use:=none) rfl hs hclos S.kind S.loc (thn (hi pins s σ H _ I h) fun v s1 h1=>thn h1 fun itv s2 h2=>?_)
 refine comp_block (RR:=fun acc C=>compPost (model X.prog X.w) X.A X.xe none (EP X pins σ Q) acc C) (Qe:=fun l H2=>Q (.ref l) H2) hc S hsc hNN hg ht he h2 ?_
 intro l H2 C s2 I2 hm f q
 obtain ⟨m,hm⟩:=hm
 exact ⟨m,hm,fun h' hs'=>⟨.ref l,H2,I2.freed f hs',rfl,q⟩⟩
noncomputable def tSetComp (i:Nat) (wi:TI) (k:Nat) (idx:List Nat) (g:TG) (tt:TT) (te:TE):TS:=fun D σ H=>wi σ H fun J H1=>∀ l,H1 l=none→cTurns J g tt te l (startC k idx σ) (upd H1 l (.lst [])) fun H2=>D.nx (σ.set i (some (.ref l))) H2
theorem ps_setcomp {i:Nat}{y:Str}{py spos:Pos}(hc:X.calm=true) (hN:X.N.Nodup) (hiN:X.N[i]? = some y) (hy:X.env.scope.names.lookup y=some .local) (S:CompScope sc N scope N' k idx) (hsc:X.env.scope=sc) (hNN:X.N=N) (hi:PI X tg iter wi)
 (hg:∀ C s H fp,PG (cxComp X N' scope C s H fp) tg g) (ht:∀ C s H fp,PTs (cxComp X N' scope C s H fp) ifs tt) (he:∀ C s H fp,PE (cxComp X N' scope C s H fp) elt te)
 (hsw:swapsWith (.ListComp elt [⟨tg,iter,ifs,0⟩] scope pos) (some (.Name y py)) spos.line X.env=pure true:=by rfl)
 (hs:∀ x,foldedSetIterable iter X.env x=pure x:=by intro _;rfl):PS X (.Assign [.Name y py] (.ListComp elt [⟨tg,iter,ifs,0⟩] scope pos) spos) (tSetComp i wi k idx g tt te):=by
 intro pins s σ H D I h
 rw [exec_Assign_Name_used _ _ _ _ hsw]
 refine wpAny_bind (wpAny_standAt (wpAny_bind ?_))
 show wpAny _ X.A (do let _ ← comprehension (.ListComp elt [⟨tg,iter,ifs,0⟩] scope pos) scope X.env _ (newList []) false (eval iter X.env) (some (assign (.Name y py) X.env))) _ _ s
 have hclos:closureFor scope X.env=pure (closeL X.env scope.names []):=closureFor_eq fun x hx hfree=>I.ok.has x.1 (by
  show X.env.scope.names.lookup x.1=_∨X.env.scope.names.lookup x.1=_
  rw [hsc];exact S.fr x hx hfree)
 refine wpAny_bind (wpAny_mono (wpAny_comprehension_free (use:=some (assign (.Name y py) X.env)) (Q:=fun _ s'=>SP X pins D .next s') rfl hs hclos S.kind S.loc (thn (hi pins s σ H _ I h) fun v s1 h1=>thn h1 fun itv s2 h2=>?_))
  (fun _ s' hq=>wpAny_pure (wpAny_pure hq)) fun _ _ e=>e)
 refine comp_block (RR:=fun acc C=>compPost (model X.prog X.w) X.A X.xe (some (assign (.Name y py) X.env)) (fun _ s'=>SP X pins D .next s') acc C) (Qe:=fun l H2=>D.nx (σ.set i (some (.ref l))) H2) hc S hsc hNN hg ht he h2 ?_
 intro l H2 C s2 I2 hm f q
 obtain ⟨m,hm⟩:=hm
 show wpAny _ X.A (assign (.Name y py) X.env (.ref l)) _ _ _
 refine wpAny_assign_Name (store_ok2 (v:=.ref l) I2 hN hiN (.inl hy) rfl (fun s' I' hch=>?_) (.inr hy))
 obtain ⟨a,hsb,ha⟩:=hch
 have haC:C≠a:=fun z=>by
  rcases ha with e | e
  · exact f.loc (z.trans e)
  · exact f.cel y a e z.symm
 exact ⟨m,hm.sameBut hsb haC,fun h' hs'=>⟨_,H2,I'.freed f hs',q⟩⟩
end
noncomputable def keyD:Key→PyData
 | .inl i=>.int i
 | .inr s=>.str s
noncomputable def epO (o:Obj):Nat:=match o.data with
 | .dict _ ep=>ep
 | _=>0
noncomputable def fzK (ep:Nat) (ks:List Key) (ds:List PyData):List (PyData×PyData):=(.none,.int (ep:Nat))::List.zipWith (fun k d=>(keyD k,d)) ks ds
noncomputable def objK (C:Addr) (ns:List Str) (ds:List PyData):List (PyData×PyData):=(.int (C:Nat),.none)::List.zipWith (fun n d=>(PyData.str n,d)) ns ds
mutual
inductive Rep (ex:List Addr) (H:Hp):PyData→V→Prop
 | none:Rep ex H .none .non
 | bool (b:Bool):Rep ex H (.bool b) (.bl b)
 | int (i:Int):Rep ex H (.int i) (.int i)
 | str (x:Str):Rep ex H (.str x) (.str x)
 | tuple {a:Addr} {xs:List V} {ds:List PyData} (e:H a=some (.tup xs)) (n:a∉ex) (z:xs.length≤sizeLine) (r:Reps ex H ds xs):Rep ex H (.tuple ds) (.ref a)
 | list {a:Addr} {xs:List V} {ds:List PyData} (e:H a=some (.lst xs)) (n:a∉ex) (z:xs.length≤sizeLine) (r:Reps ex H ds xs):Rep ex H (.list ds) (.ref a)
 | obj {a C dx:Addr} {fs:List (Str×V)} {ds:List PyData} {kvs:List (PyData×PyData)} (e:H a=some (.ins C dx fs)) (n:a∉ex) (k:kvs=objK C (fs.map (·.1)) ds) (r:Reps ex H ds (fs.map (·.2))):Rep ex H (.dict kvs) (.ref a)
 | dctf {a:Addr} {ob:Obj} {kws:List (Key×V)} {ds:List PyData} {kvs:List (PyData×PyData)} (e:H a=some (.frz ob (.dK kws))) (n:a∉ex) (k:kvs=fzK (epO ob) (kws.map (·.1)) ds) (r:Reps ex H ds (kws.map (·.2))):Rep ex H (.dict kvs) (.ref a)
inductive Reps (ex:List Addr) (H:Hp):List PyData→List V→Prop
 | nil:Reps ex H [] []
 | cons {d:PyData} {v:V} {ds:List PyData} {vs:List V}:Rep ex H d v→Reps ex H ds vs→Reps ex H (d::ds) (v::vs)
end
noncomputable def Kp (ex:List Addr) (H H':Hp):Prop:=∀ b o,H b=some o→b∉ex→H' b=some o
theorem Kp.refl {ex:List Addr}{H:Hp}:Kp ex H H:=fun _ _ e _=>e
theorem Kp.trans {ex:List Addr}{H H1 H2:Hp}(a:Kp ex H H1) (b:Kp ex H1 H2):Kp ex H H2:=fun c o e n=>b c o (a c o e n) n
theorem Kp.of {ex:List Addr}{H H':Hp}(a:Kp [] H H'):Kp ex H H':=fun c o e _=>a c o e (by simp)
theorem Kp.mono {ex ex':List Addr}{H H':Hp}(a:Kp ex H H') (h:∀ b∈ex,b∈ex'):Kp ex' H H':=fun c o e n=>a c o e fun z=>n (h c z)
theorem Kp.new {ex:List Addr}{H:Hp}{p:Addr}(h:H p=none) (o:HO):Kp ex H (upd H p o):=fun b u q _=>by rw [upd_ne (ne_of_none q h)];exact q
theorem Kp.at {ex:List Addr}{H:Hp}{p:Addr}(h:p∈ex) (o:HO):Kp ex H (upd H p o):=fun b u q n=>by rw [upd_ne (fun (z:b=p)=>n (by rw [z];exact h))];exact q
mutual
theorem Rep.keep {ex:List Addr}{H H':Hp}(k:Kp ex H H'):∀ {d:PyData}{v:V},Rep ex H d v→Rep ex H' d v
 | _,_,.none=>.none
 | _,_,.bool b=>.bool b
 | _,_,.int i=>.int i
 | _,_,.str x=>.str x
 | _,_,.tuple e n z r=>.tuple (k _ _ e n) n z (Reps.keep k r)
 | _,_,.list e n z r=>.list (k _ _ e n) n z (Reps.keep k r)
 | _,_,.obj e n q r=>.obj (k _ _ e n) n q (Reps.keep k r)
 | _,_,.dctf e n q r=>.dctf (k _ _ e n) n q (Reps.keep k r)
theorem Reps.keep {ex:List Addr}{H H':Hp}(k:Kp ex H H'):∀ {ds:List PyData}{vs:List V},Reps ex H ds vs→Reps ex H' ds vs
 | _,_,.nil=>.nil
 | _,_,.cons r t=>.cons (Rep.keep k r) (Reps.keep k t)
end
theorem Reps.length {ex:List Addr}{H:Hp}:∀ {ds:List PyData}{vs:List V},Reps ex H ds vs→ds.length=vs.length
 | _,_,.nil=>rfl
 | _,_,.cons _ t=>by simp [Reps.length t]
theorem Reps.get {ex:List Addr}{H:Hp}:∀ {ds:List PyData}{vs:List V}{i:Nat}{d:PyData},Reps ex H ds vs→ds[i]? = some d→∃ v,vs[i]? = some v∧Rep ex H d v
 | _,_,_,_,.nil,e=>by simp at e
 | _,_,0,_,.cons r _,e=>by simp at e;subst e;exact ⟨_,rfl,r⟩
 | _,_,i+1,d,.cons _ t,e=>by
  obtain ⟨u,h1,h2⟩:=Reps.get (i:=i) (d:=d) t (by simpa using e)
  exact ⟨u,by simpa using h1,h2⟩
theorem Reps.append {ex:List Addr}{H:Hp}:∀ {ds es:List PyData}{vs ws:List V},Reps ex H ds vs→Reps ex H es ws→Reps ex H (ds++es) (vs++ws)
 | _,_,_,_,.nil,s=>s
 | _,_,_,_,.cons r t,s=>.cons r (Reps.append t s)
theorem Reps.take {ex:List Addr}{H:Hp}:∀ {ds:List PyData}{vs:List V}(n:Nat),Reps ex H ds vs→Reps ex H (ds.take n) (vs.take n)
 | _,_,0,_=>.nil
 | _,_,_+1,.nil=>.nil
 | _,_,n+1,.cons r t=>.cons r (Reps.take n t)
theorem Reps.drop {ex:List Addr}{H:Hp}:∀ {ds:List PyData}{vs:List V}(n:Nat),Reps ex H ds vs→Reps ex H (ds.drop n) (vs.drop n)
 | _,_,0,r=>r
 | _,_,_+1,.nil=>.nil
 | _,_,n+1,.cons _ t=>Reps.drop n t
theorem Reps.ints {ex:List Addr}{H:Hp}:∀ ns:List Int,Reps ex H (ns.map PyData.int) (ns.map V.int)
 | []=>.nil
 | n::r=>.cons (.int n) (Reps.ints r)
theorem Reps.ints_inv {ex:List Addr}{H:Hp}:∀ {ns:List Int}{vs:List V},Reps ex H (ns.map PyData.int) vs→vs=ns.map V.int
 | [],_,.nil=>rfl
 | n::r,_,.cons (.int _) t=>by rw [Reps.ints_inv t];rfl
theorem Reps.rep {ex:List Addr}{H:Hp}{ds:List PyData}{vs:List V}(h:Reps ex H ds vs):∀ k:Nat,Reps ex H (List.replicate k ds).flatten (List.replicate k vs).flatten
 | 0=>.nil
 | k+1=>by
  rw [List.replicate_succ,List.replicate_succ,List.flatten_cons,List.flatten_cons]
  exact Reps.append h (Reps.rep h k)
theorem lay_cons {d:PyData}{ds:List PyData}(h:PyData.canLayAll0 (d::ds)=true):d.canLay0=true∧PyData.canLayAll0 ds=true:=by rw [PyData.canLayAll0,Bool.and_eq_true] at h;exact h
mutual
theorem Rep.reads {ex:List Addr}{P:Program}{w:World}{H:Hp}{h:Heap}(ok:HOk P w H h):∀ {d:PyData}{v:V}{u:Value},d.canLay0=true→Rep ex H d v→RelV v u→∃ as,Reads h u d as
 | _,_,_,_,.none,r=>by cases (show _=Value.none from r);exact ⟨_,.none⟩
 | _,_,_,_,.bool b,r=>by cases (show _=Value.bool b from r);exact ⟨_,.bool b⟩
 | _,_,_,_,.int i,r=>by obtain ⟨t,rfl⟩:=(show ∃ t,_=Value.int i t from r);exact ⟨_,.int i t⟩
 | _,_,_,_,.str x,r=>by obtain ⟨t,rfl⟩:=(show ∃ t,_=Value.str x t from r);exact ⟨_,.str x t⟩
 | _,_,_,hc,.tuple (a:=a) (xs:=xs) e n _ rs,r=>by
  cases (show _=Value.ref a from r)
  obtain ⟨z,its,rv,o,e1,e2,n',e3⟩:=(show ObjOk P w H h a (.tup xs) from ok a _ e)
  obtain ⟨as,ra⟩:=Reps.reads ok (by rw [PyData.canLay0] at hc;exact hc) rs rv
  exact ⟨as,.tuple e1 e2 e3 (by simpa using ra)⟩
 | _,_,_,hc,.list (a:=a) (xs:=xs) e n _ rs,r=>by
  cases (show _=Value.ref a from r)
  obtain ⟨z,its,n',rv,e1⟩:=(show ObjOk P w H h a (.lst xs) from ok a _ e)
  obtain ⟨as,ra⟩:=Reps.reads ok (by rw [PyData.canLay0] at hc;exact hc) rs rv
  exact ⟨_,.list e1 rfl rfl (by simpa using ra)⟩
 | _,_,_,hc,.obj _ _ _ _,r=>by rw [PyData.canLay0] at hc;cases hc
 | _,_,_,hc,.dctf _ _ _ _,r=>by rw [PyData.canLay0] at hc;cases hc
theorem Reps.reads {ex:List Addr}{P:Program}{w:World}{H:Hp}{h:Heap}(ok:HOk P w H h):∀ {ds:List PyData}{vs:List V}{us:List Value},PyData.canLayAll0 ds=true→Reps ex H ds vs→Vals vs us→∃ as,ReadsAll h us ds as
 | _,_,_,_,.nil,r=>by cases r;exact ⟨_,.nil⟩
 | _,_,_,hc,.cons q t,r=>by
  cases r with
  | cons r1 r2=>
   obtain ⟨as,h1⟩:=Rep.reads ok (lay_cons hc).1 q r1
   obtain ⟨bs,h2⟩:=Reps.reads ok (lay_cons hc).2 t r2
   exact ⟨_,.cons h1 h2⟩
end
section
variable {X:Cx}
noncomputable def rEqD:R2:=fun x y H Q=>∃ ex da db,Rep ex H da x∧Rep ex H db y∧da.canLay0=true∧db.canLay0=true∧min da.depth db.depth≤50∧Q (.bl (PyData.eqv da db)) H
noncomputable def rNeD:R2:=fun x y H Q=>∃ ex da db,Rep ex H da x∧Rep ex H db y∧da.canLay0=true∧db.canLay0=true∧min da.depth db.depth≤50∧Q (.bl (!PyData.eqv da db)) H
theorem op_eqD (hu:X.A.units+64<cLine):OpR X (compareOp .Eq) rEqD:=by
 intro pins s σ H x y v u Q I rx ry h
 obtain ⟨ex,da,db,r1,r2,c1,c2,hd,q⟩:=h
 obtain ⟨as,h1⟩:=Rep.reads I.hok c1 r1 rx
 obtain ⟨bs,h2⟩:=Rep.reads I.hok c2 r2 ry
 exact SeqAt.compareEq_reads h1 h2 c1 c2 (by omega) ⟨.bl (PyData.eqv da db),H,I,rfl,q⟩
theorem call_all:CallR X (.builtin "all") (fun xs H Q=>X.calm=true∧∃ (p:Addr) (bs:List Bool),xs=[.ref p]∧SqL X.K H p (bs.map V.bl)∧Q (.bl (bs.all id)) H):=by
 intro pins s σ H xs us Q I r h
 obtain ⟨hc,p,bs,rfl,hq,q⟩:=h
 obtain ⟨u,rfl,ru⟩:=vals1 r
 cases ru
 obtain ⟨its,rv,pl,hz⟩:=I.list hq
 have hl:=pl.isList
 have hlt:p<s.heap.objs.size:=by obtain ⟨_,e,_⟩:=hl;exact Heap.lt_size e
 refine call_all_walk (wpAny_pyIter_list hl ?_)
 refine ⟨_,_,_,_,_,_,fun i=>bs.getD i true,rfl,Walks.list (A:=X.A.in1) (I.ok.hd hc) _ p (Nat.ne_of_lt hlt) its.toArray,⟨⟨_,Heap.get?_push_size _ rfl,rfl,rfl⟩,hl.push _⟩,?_,fun h' tk hk=>?_⟩
 · intro i v s' Q' E' hP hQ
   have hP:its[i]? = some v:=by simpa using hP
   have hi:i<its.length:=(List.getElem?_eq_some_iff.mp hP).1
   have hlen:=rv.length
   have hb:(bs.map V.bl)[i]? = some (V.bl (bs.getD i true)):=by
    rw [List.length_map] at hlen
    rw [List.getElem?_map,List.getElem?_eq_getElem (by omega),List.getD_eq_getElem?_getD,List.getElem?_eq_getElem (by omega)]
    rfl
   obtain ⟨u,hu,ru⟩:=rv.get hb
   rw [hP] at hu
   cases hu
   cases (show v=Value.bool _ from ru)
   exact wpAny_truthy_bool hQ
 · have e:((List.range its.toArray.size).all fun i=>bs.getD i true)=bs.all id:=by
    have hlen:=rv.length
    rw [List.length_map] at hlen
    rw [List.size_toArray,← hlen,Bool.eq_iff_iff]
    simp only [List.all_eq_true,List.mem_range]
    constructor
    · intro h b hb
      obtain ⟨i,hi,rfl⟩:=List.mem_iff_getElem.mp hb
      have:=h i hi
      rw [List.getD_eq_getElem?_getD,List.getElem?_eq_getElem hi] at this
      exact this
    · intro h i hi
      rw [List.getD_eq_getElem?_getD,List.getElem?_eq_getElem hi]
      exact h _ (List.getElem_mem hi)
   rw [e]
   exact ⟨.bl (bs.all id),H,I.kept (t':=tk) (old_kept hk),rfl,q⟩
theorem call_isinst:CallR X (.builtin "isinstance") (fun xs H Q=>∃ x T t b,xs=[x,.ty T]∧TyOf X.K H x t∧PySem.W.kitOne X.K t (.type T)=some b∧Q (.bl b) H):=by
 intro pins s σ H xs us Q I r h
 obtain ⟨x,T,t,b,rfl,ty,e,q⟩:=h
 obtain ⟨u,w',rfl,ru,rw'⟩:=vals2 r
 cases (show w'=Value.type T from rw')
 exact isinst_ok I ru ty e fun tk=>⟨.bl b,H,I.tok tk,rfl,q⟩
noncomputable def tyName:PyData→String
 | .none=>"NoneType"
 | .bool _=>"bool"
 | .int _=>"int"
 | .str _=>"str"
 | .list _=>"list"
 | .tuple _=>"tuple"
 | .dict _=>"dict"
noncomputable def noD:PyData→Bool
 | .dict _=>false
 | _=>true
theorem Rep.tyOf {ex:List Addr}{H:Hp}{K:PySem.W.Frag}{d:PyData}{v:V}(hn:noD d=true) (r:Rep ex H d v):TyOf K H v (.type (tyName d)):=by
 cases r with
 | none=>exact .non
 | bool b=>exact .bl b
 | int i=>exact .int i
 | str x=>exact .str x
 | tuple e n z r=>exact .tup e
 | list e n z r=>exact .lst e
 | obj=>cases hn
 | dctf=>cases hn
noncomputable def CDivB (i j:Int):Prop:=0<j∧j.natAbs.log2<9000
theorem op_fdivB:OpR X (binaryOp .FloorDiv) (rI CDivB fun i j=>.int (i/j)):=opI fun i j _ _ _ _ _ hc q=>by
 have h1:(0:Int)<j:=hc.1
 exact floordiv_int (by omega) (by rw [Int.fdiv_eq_ediv_of_nonneg i (by omega)];exact q) (.inl (PyProof.noPylong_of_log2 hc.2))
end
theorem cdivB_of {i j:Int}(h0:0<j) (h1:j<2^9000):CDivB i j:=by
 refine ⟨h0,?_⟩
 have hn:j.natAbs≠0:=by omega
 rw [Nat.log2_lt hn]
 have:(j.natAbs:Int)=j:=Int.natAbs_of_nonneg (by omega)
 have h2:((j.natAbs:Nat):Int)<((2^9000:Nat):Int):=by rw [this];exact_mod_cast h1
 exact_mod_cast h2
noncomputable def Cal (P:Program) (w:World) (K:PySem.W.Frag) (mg:Str→Option Value) (base:Heap) (name:Str) (k:Nat) (ps:List Str) (sp:Sp):Prop:=
 ∃ f fd,mg name=some (.ref f)∧PySem.W.keepIn K (.ref f)=true∧Binds K fd ps []∧FnOk P w K mg base CX0 k f fd ps sp
noncomputable def Def (K:PySem.W.Frag) (mg:Str→Option Value) (name:Str) (st:Stmt) (ps:List Str):Prop:=
 ∃ f fd,mg name=some (.ref f)∧Fun K name name st f fd∧Binds K fd ps []
theorem Def.cal {P:Program}{w:World}{K:PySem.W.Frag}{mg:Str→Option Value}{base:Heap}{name:Str}{st:Stmt}{ps:List Str}{k:Nat}{sp:Sp}(d:Def K mg name st ps)
 (h:∀ f fd,Fun K name name st f fd→FnOk P w K mg base CX0 k f fd ps sp):Cal P w K mg base name k ps sp:=by
 obtain ⟨f,fd,hm,F,b⟩:=d
 exact ⟨f,fd,hm,F.kp,b,h f fd F⟩
theorem Cal.imp {P:Program}{w:World}{K:PySem.W.Frag}{mg:Str→Option Value}{base:Heap}{name:Str}{k:Nat}{ps:List Str}{sp sp':Sp}(c:Cal P w K mg base name k ps sp) (h:∀ vs H Q E,sp' vs H Q E→sp vs H Q E):Cal P w K mg base name k ps sp':=by
 obtain ⟨f,fd,hm,hk,b,F⟩:=c
 exact ⟨f,fd,hm,hk,b,F.imp h⟩
section
variable {X:Cx}{x:Str}{e:Expr}{es:List Expr}{p pos:Pos}{t:TA}{k:Nat}{ps:List Str}{sp:Sp}
theorem pe_c (c:Cal X.prog X.w X.K X.mg X.base x k ps sp) (hr:Room k X.A) (hg:Gl X x) (ha:PA X (e::es) t) (hdb:(x==("__debug__":Str))=false:=by decide)
 (he:starEach (e::es) X.env=(false,eval e X.env)::starEach es X.env:=by rfl) (hpl:(backTo pos (starEach es X.env)).any (·.1)=false:=by rfl) :
 PE X (.Call (.Name x p) (e::es) [] pos) (tCall sp [] E0 t):=by
 obtain ⟨f,fd,hm,hk,b,F⟩:=c
 exact pe_call F hr hg hm hk b .nil pass0 ha hdb he hpl
noncomputable def GInt (mg:Str→Option Value) (x:Str) (i:Int):Prop:=∃ t,mg x=some (.int i t)
theorem pe_gint {i:Int}(h:GInt X.mg x i) (hg:Gl X x) (hd:(x==("__debug__":Str))=false:=by decide):PE X (.Name x pos) (tC (.int i)):=by
 obtain ⟨t,h⟩:=h
 exact pe_glob hg h ⟨t,rfl⟩ hd
end
section
variable {X:Cx}
theorem op_neD (hu:X.A.units+64<cLine):OpR X (compareOp .NotEq) rNeD:=by
 intro pins s σ H x y v u Q I rx ry h
 obtain ⟨ex,da,db,r1,r2,c1,c2,hd,q⟩:=h
 obtain ⟨as,h1⟩:=Rep.reads I.hok c1 r1 rx
 obtain ⟨bs,h2⟩:=Rep.reads I.hok c2 r2 ry
 exact SeqAt.compareNe_reads h1 h2 c1 c2 (by omega) ⟨.bl (!PyData.eqv da db),H,I,rfl,q⟩
theorem op_isnotB:OpR X (compareOp .IsNot) (fun x y H Q=>∃ a b,x = .bl a∧y = .bl b∧Q (.bl (!(a==b))) H):=by
 intro pins s σ H x y v u Q I rx ry h
 obtain ⟨a,b,rfl,rfl,q⟩:=h
 cases rx
 cases ry
 exact isnot_bool ⟨.bl (!(a==b)),H,I,rfl,q⟩
end
section
variable {X:Cx}
end
noncomputable def instD (d:PyData) (T:String):Bool:=tyName d==T||(tyName d == "bool" && T == "int")
theorem kit_D (K:PySem.W.Frag) (d:PyData) (T:String) (hT:T = "int"∨T = "bool"∨T = "str"∨T = "tuple"∨T = "list"):PySem.W.kitOne K (.type (tyName d)) (.type T)=some (instD d T):=by
 rcases hT with rfl | rfl | rfl | rfl | rfl<;>cases d<;>first | rfl | kernel_rfl
theorem call_isD {X:Cx}:CallR X (.builtin "isinstance") (fun xs H Q=>∃ ex d x T,xs=[x,.ty T]∧Rep ex H d x∧noD d=true∧(T = "int"∨T = "bool"∨T = "str"∨T = "tuple"∨T = "list")∧Q (.bl (instD d T)) H):=by
 intro pins s σ H xs us Q I r h
 obtain ⟨ex,d,x,T,rfl,rd,hn,hT,q⟩:=h
 exact call_isinst pins s σ H _ us Q I r ⟨x,T,_,_,rfl,Rep.tyOf hn rd,kit_D _ _ _ hT,q⟩
theorem xor_bound {x y:Int}(hx:0≤x) (hx2:x<2^64) (hy:0≤y) (hy2:y<2^64):0≤Builtin.bitXor x y∧Builtin.bitXor x y<2^64:=by
 have e1:Builtin.bitAnd x y=((x.toNat &&& y.toNat:Nat):Int):=by
  show Spec.bitAnd x y=_
  unfold Spec.bitAnd
  rw [decide_eq_true hx,decide_eq_true hy]
 have e2:Builtin.bitOr x y=((x.toNat ||| y.toNat:Nat):Int):=by
  show Spec.bitOr x y=_
  unfold Spec.bitOr Spec.bitAnd Spec.bitNot
  rw [decide_eq_false (show ¬ 0≤-x-1 by omega),decide_eq_false (show ¬ 0≤-y-1 by omega)]
  simp only
  rw [show (-(-x-1)-1)=x by omega,show (-(-y-1)-1)=y by omega]
  omega
 have e:Builtin.bitXor x y=((x.toNat ||| y.toNat:Nat):Int)-((x.toNat &&& y.toNat:Nat):Int):=by
  show Builtin.bitOr x y-Builtin.bitAnd x y=_
  rw [e1,e2]
 have h1:x.toNat ||| y.toNat<2^64:=Nat.or_lt_two_pow (by omega) (by omega)
 have h2:x.toNat &&& y.toNat≤x.toNat:=Nat.and_le_left
 have h3:x.toNat≤x.toNat ||| y.toNat:=Nat.left_le_or
 rw [e]
 omega
end L2
namespace My
open PySem PySem.Spec PyProof.Rows L2
noncomputable def betwD (d:PyData) (lo hi:Int):Bool:=match d with
 | .int i=>decide (lo≤i)&&decide (i≤hi)
 | _=>false
noncomputable def gainsD (d:PyData) (n:Int):Bool:=match d with
 | .tuple xs=>decide ((xs.length:Int)=n)&&xs.all fun x=>betwD x (-99) 99
 | _=>false
theorem ite_b {c:Bool}{A B:Prop}(h1:c=true→A) (h2:c=false→B):if c=true then A else B:=by
 cases c with
 | true=>exact h1 rfl
 | false=>exact h2 rfl
noncomputable def mostKV:Option Int→List (Key×V)
 | none=>[]
 | some m=>[(Sum.inr "turns",V.int m)]
noncomputable def jarKV (c:Addr) (rest seed:Int) (turn:Int×Option Int):List (Key×V):=(Sum.inr "cells",V.ref c)::(Sum.inr "rest",V.int rest)::(Sum.inr "seed",V.int seed)::(Sum.inr "turn",V.int turn.1)::mostKV turn.2
structure Jar (H:Hp) (p c:Addr):Prop where
 ex:∃ (ns:List Int) (rest seed:Int) (turn:Int×Option Int),H p=some (.dK (jarKV c rest seed turn))∧H c=some (.lst (ns.map V.int))∧ns.length≤63∧0≤seed∧seed<2^64
theorem Jar.fresh {H:Hp}{p c l:Addr}(J:Jar H p c) (h:H l=none):l∉[p,c]:=by
 obtain ⟨ns,r,s,t,h1,h2,_⟩:=J.ex
 intro z
 rcases List.mem_cons.mp z with rfl | z
 · rw [h] at h1;cases h1
 · cases List.mem_singleton.mp z;rw [h] at h2;cases h2
theorem str_cr:¬ ((Sum.inr ("cells":Str):Key)=(Sum.inr ("rest":Str):Key)):=by intro h;injection h with h;revert h;decide +kernel
theorem str_cs:¬ ((Sum.inr ("cells":Str):Key)=(Sum.inr ("seed":Str):Key)):=by intro h;injection h with h;revert h;decide +kernel
theorem str_ct:¬ ((Sum.inr ("cells":Str):Key)=(Sum.inr ("turn":Str):Key)):=by intro h;injection h with h;revert h;decide +kernel
theorem str_rs:¬ ((Sum.inr ("rest":Str):Key)=(Sum.inr ("seed":Str):Key)):=by intro h;injection h with h;revert h;decide +kernel
theorem str_rt:¬ ((Sum.inr ("rest":Str):Key)=(Sum.inr ("turn":Str):Key)):=by intro h;injection h with h;revert h;decide +kernel
theorem str_st:¬ ((Sum.inr ("seed":Str):Key)=(Sum.inr ("turn":Str):Key)):=by intro h;injection h with h;revert h;decide +kernel
theorem str_cm:¬ ((Sum.inr ("cells":Str):Key)=(Sum.inr ("turns":Str):Key)):=by intro h;injection h with h;revert h;decide +kernel
theorem str_rm:¬ ((Sum.inr ("rest":Str):Key)=(Sum.inr ("turns":Str):Key)):=by intro h;injection h with h;revert h;decide +kernel
theorem str_sm:¬ ((Sum.inr ("seed":Str):Key)=(Sum.inr ("turns":Str):Key)):=by intro h;injection h with h;revert h;decide +kernel
theorem str_tm:¬ ((Sum.inr ("turn":Str):Key)=(Sum.inr ("turns":Str):Key)):=by intro h;injection h with h;revert h;decide +kernel
section
variable (c:Addr) (r s:Int) (t:Int×Option Int) (x:Int)
theorem most_map {k:Key}{v:V}(h:¬ ((Sum.inr ("turns":Str):Key)=k)):(mostKV t.2).map (fun kv=>if kv.1=k then (kv.1,v) else kv)=mostKV t.2:=by
 cases t.2 with
 | none=>rfl
 | some m=>simp only [mostKV,List.map_cons,List.map_nil,if_neg h]
theorem jar_cells:valV (jarKV c r s t) (Sum.inr "cells")=some (V.ref c):=valV_pos rfl
theorem jar_rest:valV (jarKV c r s t) (Sum.inr "rest")=some (V.int r):=by
 unfold jarKV;rw [valV_neg str_cr];exact valV_pos rfl
theorem jar_seed:valV (jarKV c r s t) (Sum.inr "seed")=some (V.int s):=by
 unfold jarKV;rw [valV_neg str_cs,valV_neg str_rs];exact valV_pos rfl
theorem jar_turn:valV (jarKV c r s t) (Sum.inr "turn")=some (V.int t.1):=by
 unfold jarKV;rw [valV_neg str_ct,valV_neg str_rt,valV_neg str_st];exact valV_pos rfl
theorem jar_put_rest:putK (jarKV c r s t) (Sum.inr "rest") (V.int x)=jarKV c x s t:=by
 unfold putK
 rw [if_pos (by rw [valV_any,jar_rest];rfl)]
 unfold jarKV
 simp only [List.map_cons,List.map_nil,if_neg str_cr,if_neg (Ne.symm str_rs),if_neg (Ne.symm str_rt),if_true,most_map t (Ne.symm str_rm)]
theorem jar_put_seed:putK (jarKV c r s t) (Sum.inr "seed") (V.int x)=jarKV c r x t:=by
 unfold putK
 rw [if_pos (by rw [valV_any,jar_seed];rfl)]
 unfold jarKV
 simp only [List.map_cons,List.map_nil,if_neg str_cs,if_neg str_rs,if_neg (Ne.symm str_st),if_true,most_map t (Ne.symm str_sm)]
theorem jar_put_turn:putK (jarKV c r s t) (Sum.inr "turn") (V.int x)=jarKV c r s (x,t.2):=by
 unfold putK
 rw [if_pos (by rw [valV_any,jar_turn];rfl)]
 unfold jarKV
 simp only [List.map_cons,List.map_nil,if_neg str_ct,if_neg str_rt,if_neg str_st,if_true,most_map t (Ne.symm str_tm)]
end
noncomputable abbrev kC:Key:=Sum.inr ("cells":Str)
noncomputable abbrev kR:Key:=Sum.inr ("rest":Str)
noncomputable abbrev kS:Key:=Sum.inr ("seed":Str)
noncomputable abbrev kT:Key:=Sum.inr ("turn":Str)
theorem jar_made (l:Addr) (r s t:Int):mergeK [] [(kC,V.ref l),(kR,V.int r),(kS,V.int s),(kT,V.int t)]=jarKV l r s (t,none):=by
 have e1:putK ([]:List (Key×V)) kC (V.ref l)=[]++[(kC,V.ref l)]:=putK_new _ valV_nil
 have e2:putK ([(kC,V.ref l)]:List (Key×V)) kR (V.int r)=[(kC,V.ref l)]++[(kR,V.int r)]:=putK_new _ (by rw [valV_neg str_cr];exact valV_nil)
 have e3:putK ([(kC,V.ref l),(kR,V.int r)]:List (Key×V)) kS (V.int s)=[(kC,V.ref l),(kR,V.int r)]++[(kS,V.int s)]:=putK_new _ (by rw [valV_neg str_cs,valV_neg str_rs];exact valV_nil)
 have e4:putK ([(kC,V.ref l),(kR,V.int r),(kS,V.int s)]:List (Key×V)) kT (V.int t)=[(kC,V.ref l),(kR,V.int r),(kS,V.int s)]++[(kT,V.int t)]:=putK_new _ (by rw [valV_neg str_ct,valV_neg str_rt,valV_neg str_st];exact valV_nil)
 unfold mergeK
 simp only [List.foldl]
 rw [e1,List.nil_append,e2,List.cons_append,List.nil_append,e3,List.cons_append,List.cons_append,List.nil_append,e4]
 rfl
structure JarX (H:Hp) (p c:Addr) (ns:List Int) (r sd:Int) (tn:Int×Option Int):Prop where
 d:H p=some (.dK (jarKV c r sd tn))
 l:H c=some (.lst (ns.map V.int))
theorem jar_short {c:Addr}{r sd:Int}(tn:Int×Option Int):(jarKV c r sd tn).length<sizeLine:=by
 have:(jarKV c r sd tn).length≤5:=by
  unfold jarKV
  cases tn.2<;>simp [mostKV]
 exact Nat.lt_of_le_of_lt this (by decide)
theorem JarX.ne {H:Hp}{p c:Addr}{ns:List Int}{r sd:Int}{tn:Int×Option Int}(J:JarX H p c ns r sd tn):p≠c:=ne_of J.d J.l (by intro z;cases z)
theorem JarX.new {H:Hp}{p c l:Addr}{ns:List Int}{r sd:Int}{tn:Int×Option Int}{o:HO}(J:JarX H p c ns r sd tn) (h:H l=none):JarX (upd H l o) p c ns r sd tn:=
 ⟨by rw [upd_ne (ne_of_none J.d h)];exact J.d,by rw [upd_ne (ne_of_none J.l h)];exact J.l⟩
theorem JarX.put {H:Hp}{p c:Addr}{ns:List Int}{r sd:Int}{tn:Int×Option Int}(J:JarX H p c ns r sd tn) (r' sd':Int) (tn':Int×Option Int):JarX (upd H p (.dK (jarKV c r' sd' tn'))) p c ns r' sd' tn':=
 ⟨upd_same,by rw [upd_ne (Ne.symm J.ne)];exact J.l⟩
theorem JarX.cut {H:Hp}{p c:Addr}{ns:List Int}{r sd:Int}{tn:Int×Option Int}(J:JarX H p c ns r sd tn) (ms:List Int):JarX (upd H c (.lst (ms.map V.int))) p c ms r sd tn:=
 ⟨by rw [upd_ne J.ne];exact J.d,upd_same⟩
theorem JarX.cells {H:Hp}{p c:Addr}{ns:List Int}{r sd:Int}{tn:Int×Option Int}(J:JarX H p c ns r sd tn):DGet H p (V.str "cells") (some (V.ref c)):=by rw [← jar_cells c r sd tn];exact DGet.k (k:=Sum.inr "cells") J.d
theorem JarX.rest {H:Hp}{p c:Addr}{ns:List Int}{r sd:Int}{tn:Int×Option Int}(J:JarX H p c ns r sd tn):DGet H p (V.str "rest") (some (V.int r)):=by rw [← jar_rest c r sd tn];exact DGet.k (k:=Sum.inr "rest") J.d
theorem JarX.seed {H:Hp}{p c:Addr}{ns:List Int}{r sd:Int}{tn:Int×Option Int}(J:JarX H p c ns r sd tn):DGet H p (V.str "seed") (some (V.int sd)):=by rw [← jar_seed c r sd tn];exact DGet.k (k:=Sum.inr "seed") J.d
theorem JarX.turn {H:Hp}{p c:Addr}{ns:List Int}{r sd:Int}{tn:Int×Option Int}(J:JarX H p c ns r sd tn):DGet H p (V.str "turn") (some (V.int tn.1)):=by rw [← jar_turn c r sd tn];exact DGet.k (k:=Sum.inr "turn") J.d
theorem JarX.pRest {H:Hp}{p c:Addr}{ns:List Int}{r sd:Int}{tn:Int×Option Int}(J:JarX H p c ns r sd tn) (x:Int):DPut H p (V.str "rest") (V.int x) (upd H p (.dK (jarKV c x sd tn))):=by rw [← jar_put_rest c r sd tn x];exact DPut.k (k:=Sum.inr "rest") J.d (jar_short tn)
theorem JarX.pSeed {H:Hp}{p c:Addr}{ns:List Int}{r sd:Int}{tn:Int×Option Int}(J:JarX H p c ns r sd tn) (x:Int):DPut H p (V.str "seed") (V.int x) (upd H p (.dK (jarKV c r x tn))):=by rw [← jar_put_seed c r sd tn x];exact DPut.k (k:=Sum.inr "seed") J.d (jar_short tn)
theorem JarX.pTurn {H:Hp}{p c:Addr}{ns:List Int}{r sd:Int}{tn:Int×Option Int}(J:JarX H p c ns r sd tn) (x:Int):DPut H p (V.str "turn") (V.int x) (upd H p (.dK (jarKV c r sd (x,tn.2)))):=by rw [← jar_put_turn c r sd tn x];exact DPut.k (k:=Sum.inr "turn") J.d (jar_short tn)
theorem JarX.jar {H:Hp}{p c:Addr}{ns:List Int}{r sd:Int}{tn:Int×Option Int}(J:JarX H p c ns r sd tn) (h1:ns.length≤63) (h2:0≤sd) (h3:sd<2^64):Jar H p c:=⟨ns,r,sd,tn,J.d,J.l,h1,h2,h3⟩
theorem Jar.x {H:Hp}{p c:Addr}(J:Jar H p c):∃ ns r sd tn,JarX H p c ns r sd tn∧ns.length≤63∧0≤sd∧sd<2^64:=by
 obtain ⟨ns,r,sd,tn,h1,h2,h3⟩:=J.ex
 exact ⟨ns,r,sd,tn,⟨h1,h2⟩,h3⟩
noncomputable def JarE (H:Hp) (p c:Addr) (e:Option Int):Prop:=∃ ns r sd tn,JarX H p c ns r sd (tn,e)∧ns.length≤63∧0≤sd∧sd<2^64
theorem JarE.jar {H:Hp}{p c:Addr}{e:Option Int}(J:JarE H p c e):Jar H p c:=by
 obtain ⟨ns,r,sd,tn,X,h1,h2,h3⟩:=J
 exact X.jar h1 h2 h3
theorem Jar.e {H:Hp}{p c:Addr}(J:Jar H p c):∃ e,JarE H p c e:=by
 obtain ⟨ns,r,sd,tn,X,h1,h2,h3⟩:=J.x
 exact ⟨tn.2,ns,r,sd,tn.1,X,h1,h2,h3⟩
theorem JarX.jarE {H:Hp}{p c:Addr}{ns:List Int}{r sd tn:Int}{e:Option Int}(J:JarX H p c ns r sd (tn,e)) (h1:ns.length≤63) (h2:0≤sd) (h3:sd<2^64):JarE H p c e:=⟨ns,r,sd,tn,J,h1,h2,h3⟩
noncomputable def spPickE:Sp:=fun vs H Q _=>∃ (p c:Addr) (many:Int) (e:Option Int),vs=[.ref p,.int many]∧JarE H p c e∧0<many∧many<2^9000∧∀ (r:Int) (H':Hp),0≤r→r<many→JarE H' p c e→Kp [p,c] H H'→Q (.int r) H'
theorem seqIndex_0 (n:Nat):seqIndex? 0 (n+1)=some 0:=by
 unfold seqIndex?
 simp
theorem seq_by {t u:TS}{D:Ends}{σ:L2.St}{H:Hp}(Mid:L2.St→Hp→Prop) (h1:∀ N:L2.St→Hp→Prop,(∀ σ' H',Mid σ' H'→N σ' H')→t { D with nx:=N } σ H) (h2:∀ σ' H',Mid σ' H'→u D σ' H'):tSeq t u D σ H:=h1 _ h2
noncomputable def spMix:Sp:=fun vs H Q _=>∃ n:Int,vs=[.int n]∧0≤n∧n<2^64∧∀ r:Int,0≤r→r<2^64→Q (.int r) H
noncomputable def spJar (K:PySem.W.Frag):Sp:=fun vs H Q _=>∃ (a:Addr) (ns:List Int),vs=[.ref a]∧SqL K H a (ns.map V.int)∧ns.length≤63∧∀ p c H',Kp [] H H'→H p=none→H c=none→Jar H' p c→Q (.ref p) H'
theorem cutV_ints (ns:List Int) (lo hi:Option Int):∃ ms:List Int,cutV (ns.map V.int) lo hi=ms.map V.int∧ms.length≤ns.length:=by
 unfold cutV
 refine ⟨_,by rw [← List.map_drop,← List.map_take],?_⟩
 rw [List.length_take,List.length_drop]
 omega
theorem canLay_ints:∀ ns:List Int,PyData.canLayAll0 (ns.map PyData.int)=true
 | []=>rfl
 | n::r=>by rw [List.map_cons];unfold PyData.canLayAll0;rw [canLay_ints r];rfl
theorem eqv_nil:∀ ns:List Int,PyData.eqv (.list (ns.map PyData.int)) (.list [])=ns.isEmpty
 | []=>rfl
 | _::_=>rfl
mutual
theorem Rep.mono {ex ex':List Addr}{H:Hp}(h:∀ b∈ex,b∈ex'):∀ {d:PyData}{v:V},Rep ex' H d v→Rep ex H d v
 | _,_,.none=>.none
 | _,_,.bool b=>.bool b
 | _,_,.int i=>.int i
 | _,_,.str x=>.str x
 | _,_,.tuple e n z r=>.tuple e (fun q=>n (h _ q)) z (Reps.mono h r)
 | _,_,.list e n z r=>.list e (fun q=>n (h _ q)) z (Reps.mono h r)
 | _,_,.obj e n k r=>.obj e (fun q=>n (h _ q)) k (Reps.mono h r)
 | _,_,.dctf e n k r=>.dctf e (fun q=>n (h _ q)) k (Reps.mono h r)
theorem Reps.mono {ex ex':List Addr}{H:Hp}(h:∀ b∈ex,b∈ex'):∀ {ds:List PyData}{vs:List V},Reps ex' H ds vs→Reps ex H ds vs
 | _,_,.nil=>.nil
 | _,_,.cons r t=>.cons (Rep.mono h r) (Reps.mono h t)
end
theorem ixN_of {n:Nat}{i:Int}(h0:0≤i) (h1:i<n):ixN n i=some i.toNat:=by
 unfold ixN;rw [if_pos h0,if_pos h1]
noncomputable def spLaw (K:PySem.W.Frag):Sp:=fun vs H Q _=>∃ (a:Addr) (ns:List Int),vs=[.ref a]∧SqL K H a (ns.map V.int)∧ns.length≤63∧∀ H',Q (.bl true) H'
theorem small4 {α:Type}{l:List α}(h:l.length≤1000):l.length≤sizeLine:=Nat.le_of_lt (small1000 h)
end My
namespace L2
open PySem PySem.Spec PyProof.Rows
section
variable {X:Cx}{es:List Expr}{te:TE}{t:TA}{pos:Pos}
theorem pa_tuple {xs:List Expr}{k:Nat}(ha:PE X (.Tuple xs k pos) te) (hr:PA X es t):PA X (.Tuple xs k pos::es) (tCons te t):=pa_cons ha hr rfl
theorem pa_list {xs:List Expr}(ha:PE X (.List xs pos) te) (hr:PA X es t):PA X (.List xs pos::es) (tCons te t):=pa_cons ha hr rfl
theorem pa_const {k:Const}{j:Nat}(ha:PE X (.Constant k j pos) te) (hr:PA X es t):PA X (.Constant k j pos::es) (tCons te t):=pa_cons ha hr rfl
theorem pa_name {x:Str}(ha:PE X (.Name x pos) te) (hr:PA X es t):PA X (.Name x pos::es) (tCons te t):=pa_cons ha hr rfl
theorem pa_call {f:Expr}{xs:List Expr}{ks:List Keyword}(ha:PE X (.Call f xs ks pos) te) (hr:PA X es t):PA X (.Call f xs ks pos::es) (tCons te t):=pa_cons ha hr rfl
theorem pa_binop {a b:Expr}{op:Operator}(ha:PE X (.BinOp a op b pos) te) (hr:PA X es t):PA X (.BinOp a op b pos::es) (tCons te t):=pa_cons ha hr rfl
theorem pa_unary {a:Expr}{op:UnaryOp}(ha:PE X (.UnaryOp op a pos) te) (hr:PA X es t):PA X (.UnaryOp op a pos::es) (tCons te t):=pa_cons ha hr rfl
theorem pa_cmp {a:Expr}{ops:List CmpOp}{bs:List Expr}(ha:PE X (.Compare a ops bs pos) te) (hr:PA X es t):PA X (.Compare a ops bs pos::es) (tCons te t):=pa_cons ha hr rfl
theorem pa_bool {op:BoolOp}{vs:List Expr}(ha:PE X (.BoolOp op vs pos) te) (hr:PA X es t):PA X (.BoolOp op vs pos::es) (tCons te t):=pa_cons ha hr rfl
theorem pa_if {a b c:Expr}(ha:PE X (.IfExp a b c pos) te) (hr:PA X es t):PA X (.IfExp a b c pos::es) (tCons te t):=pa_cons ha hr rfl
theorem pa_sub {a b:Expr}(ha:PE X (.Subscript a b pos) te) (hr:PA X es t):PA X (.Subscript a b pos::es) (tCons te t):=pa_cons ha hr rfl
theorem pa_comp {e:Expr}{gs:List Comprehension}{sc:Scope}(ha:PE X (.ListComp e gs sc pos) te) (hr:PA X es t):PA X (.ListComp e gs sc pos::es) (tCons te t):=pa_cons ha hr rfl
end
structure PEs (X:Cx) (e:Expr) (t:TE):Prop where
 out:PE X e t
structure PAs (X:Cx) (es:List Expr) (t:TA):Prop where
 out:PA X es t
section
variable {X:Cx}{es:List Expr}{te:TE}{t:TA}{pos:Pos}
theorem pes_of {e:Expr}(h:PE X e te):PEs X e te:=⟨h⟩
theorem pes_tup {k:Nat}(h:PAs X es t):PEs X (.Tuple es k pos) (tTup t):=⟨pe_tup h.out⟩
theorem pes_lst (h:PAs X es t):PEs X (.List es pos) (tLst t):=⟨pe_lst h.out⟩
theorem pes_int {i:Int}{j:Nat}:PEs X (.Constant (.int i) j pos) (tC (.int i)):=⟨pe_int⟩
theorem pes_str {i:Str}{j:Nat}:PEs X (.Constant (.str i) j pos) (tC (.str i)):=⟨pe_str⟩
theorem pes_bl {i:Bool}{j:Nat}:PEs X (.Constant (.bool i) j pos) (tC (.bl i)):=⟨pe_bl⟩
theorem pas_nil:PAs X [] tNil:=⟨pa_nil⟩
theorem pas_tuple {xs:List Expr}{k:Nat}(ha:PEs X (.Tuple xs k pos) te) (hr:PAs X es t):PAs X (.Tuple xs k pos::es) (tCons te t):=⟨pa_tuple ha.out hr.out⟩
theorem pas_list {xs:List Expr}(ha:PEs X (.List xs pos) te) (hr:PAs X es t):PAs X (.List xs pos::es) (tCons te t):=⟨pa_list ha.out hr.out⟩
theorem pas_const {k:Const}{j:Nat}(ha:PEs X (.Constant k j pos) te) (hr:PAs X es t):PAs X (.Constant k j pos::es) (tCons te t):=⟨pa_const ha.out hr.out⟩
theorem pas_name {x:Str}(ha:PEs X (.Name x pos) te) (hr:PAs X es t):PAs X (.Name x pos::es) (tCons te t):=⟨pa_name ha.out hr.out⟩
theorem pas_call {f:Expr}{xs:List Expr}{ks:List Keyword}(ha:PEs X (.Call f xs ks pos) te) (hr:PAs X es t):PAs X (.Call f xs ks pos::es) (tCons te t):=⟨pa_call ha.out hr.out⟩
theorem pas_binop {a b:Expr}{op:Operator}(ha:PEs X (.BinOp a op b pos) te) (hr:PAs X es t):PAs X (.BinOp a op b pos::es) (tCons te t):=⟨pa_binop ha.out hr.out⟩
theorem pas_cmp {a:Expr}{ops:List CmpOp}{bs:List Expr}(ha:PEs X (.Compare a ops bs pos) te) (hr:PAs X es t):PAs X (.Compare a ops bs pos::es) (tCons te t):=⟨pa_cmp ha.out hr.out⟩
theorem pas_bool {op:BoolOp}{vs:List Expr}(ha:PEs X (.BoolOp op vs pos) te) (hr:PAs X es t):PAs X (.BoolOp op vs pos::es) (tCons te t):=⟨pa_bool ha.out hr.out⟩
theorem pas_if {a b c:Expr}(ha:PEs X (.IfExp a b c pos) te) (hr:PAs X es t):PAs X (.IfExp a b c pos::es) (tCons te t):=⟨pa_if ha.out hr.out⟩
theorem pas_sub {a b:Expr}(ha:PEs X (.Subscript a b pos) te) (hr:PAs X es t):PAs X (.Subscript a b pos::es) (tCons te t):=⟨pa_sub ha.out hr.out⟩
end
theorem def_mk {K:PySem.W.Frag}{h:Heap}{mg:Str→Option Value}{x:Str}{st:Stmt}{ps:List Str}{f:Addr}{oc:Value}{od an:Option Addr}{osl:Array (Option Value)}{kV doc pm cdv ct:Value}(X:K.In h) (G:h.Ns mainGlobals mg)
 (a:PySem.W.nsIn K mainGlobals x=some (some (.ref f))) (l:K.lookup f=some ⟨oc,od,.func (PySem.W.fnOf x x (defArgs st) (defBody st) (defScope st) .none kV doc pm an cdv ct),osl⟩) (c:PySem.W.codeIn K cdv x=true) (k:PySem.W.keepIn K (.ref f)=true)
 (hb:∀ (kV doc pm:Value) (an:Option Addr) (cdv ct:Value) (us:List Value),us.length=ps.length→bindArgs (PySem.W.fnOf x x (defArgs st) (defBody st) (defScope st) .none kV doc pm an cdv ct) ⟨us,[]⟩=pure (ps.zip us)):Def K mg x st ps:=
 ⟨f,_,PySem.W.mg_of X G a,fun_mk (st:=st) l c k,(fun_mk (st:=st) l c k).binds hb⟩
theorem gint_mk {K:PySem.W.Frag}{h:Heap}{mg:Str→Option Value}{x:Str}{i:Int}{t:Tok}(X:K.In h) (G:h.Ns mainGlobals mg) (a:PySem.W.nsIn K mainGlobals x=some (some (.int i t))):GInt mg x i:=⟨t,PySem.W.mg_of X G a⟩
end L2
namespace My
open PySem PySem.Spec PyProof.Rows L2
structure Way where
 a:Int
 b:Int
 g:List Int
noncomputable def wayPD (w:Way):PyData:=.tuple [.int w.a,.int w.b,.tuple (w.g.map PyData.int)]
noncomputable def bookPD (R P:Int) (ws:List Way):PyData:=.tuple [.int R,.int P,.tuple (ws.map wayPD)]
structure WayOk (R P:Int) (w:Way):Prop where
 a0:0≤w.a
 a1:w.a<R
 b0:0≤w.b
 b1:w.b<R
 len:(w.g.length:Int)=P
 small:∀ x∈w.g,-99≤x∧x≤99
structure BookOk (R P:Int) (ws:List Way):Prop where
 r0:1≤R
 r1:R≤12
 p0:1≤P
 p1:P≤6
 len:ws.length≤60
 ways:∀ w∈ws,WayOk R P w
theorem small9000 {n:Int}(h:n≤100000):n<2^9000:=Int.lt_of_le_of_lt h (by decide +kernel)
end My
namespace L2
open PySem PySem.Spec PyProof.Rows
section
variable {α:Type}{a b c d e f x:α}{l:List α}
theorem mm0:a∈a::l:=List.mem_cons_self
theorem mm1:b∈a::b::l:=List.mem_cons_of_mem _ mm0
theorem mm2:c∈a::b::c::l:=List.mem_cons_of_mem _ mm1
theorem mm3:d∈a::b::c::d::l:=List.mem_cons_of_mem _ mm2
theorem mm4:e∈a::b::c::d::e::l:=List.mem_cons_of_mem _ mm3
theorem mm5:f∈a::b::c::d::e::f::l:=List.mem_cons_of_mem _ mm4
theorem mn0 (h:¬ x∈a::l):x≠a:=fun e=>h (e▸mm0)
theorem mn1 (h:¬ x∈a::b::l):x≠b:=fun e=>h (e▸mm1)
theorem mn2 (h:¬ x∈a::b::c::l):x≠c:=fun e=>h (e▸mm2)
theorem mn3 (h:¬ x∈a::b::c::d::l):x≠d:=fun e=>h (e▸mm3)
theorem mn4 (h:¬ x∈a::b::c::d::e::l):x≠e:=fun e=>h (e▸mm4)
theorem mn5 (h:¬ x∈a::b::c::d::e::f::l):x≠f:=fun e=>h (e▸mm5)
end
section
variable {prog:Program}{w:World}{A:Around}{E:Value→Shared→Prop}{s:Shared}
theorem nextT_item {j t:Addr}{i:Nat}{vs:Array Value}{y:Value}{Q:Value→Shared→Prop}(g:s.heap.IsTupleIter j t i) (gt:s.heap.IsTuple t vs) (gy:vs[i]? = some y)
 (q:∀ h',h'.IsTupleIter j t (i+1)→Heap.SameBut j s.heap h'→Q y { s with heap:=h' }):wpAny (model prog w) A (Builtin.SmallTypes.nextOf (.ref j)) Q E s:=by
 obtain ⟨oj,e1,e2,e3⟩:=id g
 obtain ⟨ot,e4,_,n4,e5⟩:=gt
 have goal2:wpAny (model prog w) A.in1 (Builtin.«tuple_iterator.__next__» ⟨[.ref j],[]⟩) (fun fin s'=>∃ v,fin = .done (.ret v)∧wpAny (model prog w) A (pure v) Q E s') E s:=by
  show wpAny _ _ (field (.ref j) 0 >>= _) _ _ s
  refine wpAny_bind (wpAny_field e1 e3 (x:=.ref t) rfl ?_)
  show wpAny _ _ (if (Value.ref t==Value.none)=true then _ else _) _ _ s;rw [if_neg (show ¬ ((Value.ref t==Value.none)=true) from fun z=>Bool.noConfusion z)]
  show wpAny _ _ (field (.ref j) 1 >>= _) _ _ s
  refine wpAny_bind (wpAny_field e1 e3 (x:=.int i 0) rfl ?_)
  show wpAny _ _ (seqItems? (.ref t) >>= _) _ _ s
  refine wpAny_bind (wpAny_seqItems e4 e5 ?_)
  simp only [Int.toNat_natCast,gy]
  refine wpAny_bind (wpAny_setField e1 e3 (by first | exact mm0 | exact mm1 | exact mm2 | exact mm3 | exact mm4 | exact mm5 | simp) (wpAny_pure ⟨y,rfl,wpAny_pure (q _ ⟨_,Heap.get?_update_self _ e1 (Obj.isFreed_of_fields (Obj.data_mapFields e3 _)),(Obj.cls_mapFields ..).trans e2,?_⟩ (Heap.SameBut.update ..))⟩))
  rw [Obj.data_mapFields e3];simp [rawInt]
 unfold Builtin.SmallTypes.nextOf
 exact wpAny_bind (wpAny_callSpecial?_slot (name:=Str.ofString "__next__") g.typeIs F.slot_tuple_iterator_next (wpAny_call_entry F.slot_tuple_iterator_next g.typeIs F.entry_tuple_iterator_next goal2 (F.args_tuple_iterator_next_1 _)))
theorem nextT_end {j t:Addr}{i:Nat}{vs:Array Value}{Q:Value→Shared→Prop}(hh:A.handled=none) (g:s.heap.IsTupleIter j t i) (gt:s.heap.IsTuple t vs) (gy:vs[i]? = none)
 (q:∀ h' e,Heap.ExtBut j s.heap h'→(∃ o,h'.get? e=some o∧o.cls = .type "StopIteration")→E (.ref e) { s with heap:=h' }):wpAny (model prog w) A (Builtin.SmallTypes.nextOf (.ref j)) Q E s:=by
 obtain ⟨oj,e1,e2,e3⟩:=id g
 obtain ⟨ot,e4,_,n4,e5⟩:=gt
 unfold Builtin.SmallTypes.nextOf
 refine wpAny_bind (wpAny_callSpecial?_slot (name:=Str.ofString "__next__") g.typeIs F.slot_tuple_iterator_next (wpAny_call_entry F.slot_tuple_iterator_next g.typeIs F.entry_tuple_iterator_next ?_ (F.args_tuple_iterator_next_1 _)))
 show wpAny _ _ (field (.ref j) 0 >>= _) _ _ s
 refine wpAny_bind (wpAny_field e1 e3 (x:=.ref t) rfl ?_)
 show wpAny _ _ (if (Value.ref t==Value.none)=true then _ else _) _ _ s;rw [if_neg (show ¬ ((Value.ref t==Value.none)=true) from fun z=>Bool.noConfusion z)]
 show wpAny _ _ (field (.ref j) 1 >>= _) _ _ s
 refine wpAny_bind (wpAny_field e1 e3 (x:=.int i 0) rfl ?_)
 show wpAny _ _ (seqItems? (.ref t) >>= _) _ _ s
 refine wpAny_bind (wpAny_seqItems e4 e5 ?_)
 simp only [Int.toNat_natCast,gy]
 refine wpAny_bind (wpAny_rule (wpAny_bind (wpAny_setField e1 e3 (by first | exact mm0 | exact mm1 | exact mm2 | exact mm3 | exact mm4 | exact mm5 | simp) ?_)))
 show wpAny _ _ (newExc (.type "StopIteration") [] >>= _) _ _ _;refine wpAny_bind ?_;simp only [newExc,newTuple]
 refine wpAny_bind (wpAny_newObj_type ?_ (by size_fits));refine wpAny_bind (m:=firstArgMember _ _) (wpAny_of_eq (a:=Value.none) (by first | rfl | (simp only [firstArgMember];rfl)) ?_);refine wpAny_newObj_type ?_ (by size_fits)
 simp only [raiseNew];refine wpAny_bind (wpAny_handled ?_);first | rw [show A.in1.handled=none from hh] | rw [hh]
 refine wpAny_bind (wpAny_pure (wpAny_throw (q _ _ (((Heap.SameBut.update ..).extBut.push _).push _) ⟨_,Heap.get?_push_size _ rfl,rfl⟩)))
end
noncomputable def SqAt (b:Bool) (h:Heap) (a:Addr) (vs:Array Value):Prop:=match b with | true=>h.IsTuple a vs | false=>h.IsList a vs
noncomputable def ItAt (b:Bool) (h:Heap) (j a:Addr) (i:Nat):Prop:=match b with | true=>h.IsTupleIter j a i | false=>h.IsListIter j a i
theorem SqAt.at {b:Bool}{h h':Heap}{a:Addr}{vs:Array Value}(x:SqAt b h a vs) (k:∀ o,h.get? a=some o→h'.get? a=some o):SqAt b h' a vs:=by
 cases b with
 | true=>exact let ⟨o,e,r⟩:=x;⟨o,k o e,r⟩
 | false=>exact let ⟨o,e,r⟩:=x;⟨o,k o e,r⟩
theorem ItAt.at {b:Bool}{h h':Heap}{j a:Addr}{i:Nat}(x:ItAt b h j a i) (k:∀ o,h.get? j=some o→h'.get? j=some o):ItAt b h' j a i:=by
 cases b with
 | true=>exact let ⟨o,e,r⟩:=x;⟨o,k o e,r⟩
 | false=>exact let ⟨o,e,r⟩:=x;⟨o,k o e,r⟩
theorem ItAt.obj {b:Bool}{h:Heap}{j a:Addr}{i:Nat}(x:ItAt b h j a i):∃ o,h.get? j=some o∧∀ v,o.data≠.cell v:=by
 cases b with
 | true=>exact let ⟨o,e,_,d⟩:=x;⟨o,e,fun v z=>by rw [d] at z;cases z⟩
 | false=>exact let ⟨o,e,_,d⟩:=x;⟨o,e,fun v z=>by rw [d] at z;cases z⟩
theorem draws_of {prog:Program}{w:World}{A:Around}(b:Bool) (hh:A.handled=none) (j a:Addr) (hne:a≠j) (vs:Array Value) :
 Draws prog w A j [j,a] vs.size (fun i v=>vs[i]? = some v) (fun i h=>ItAt b h j a i∧SqAt b h a vs):=by
 cases b with
 | false=>exact Draws.list hh j a hne vs
 | true=>exact {
  live:=fun _ _ st=>let ⟨o,ho,_⟩:=st.1;⟨o,ho⟩
  frame:=fun _ _ _ st hk=>⟨ItAt.at (b:=true) st.1 fun o e=>hk j (by first | exact mm0 | exact mm1 | exact mm2 | exact mm3 | exact mm4 | exact mm5 | simp) o e,SqAt.at (b:=true) st.2 fun o e=>hk a (by first | exact mm0 | exact mm1 | exact mm2 | exact mm3 | exact mm4 | exact mm5 | simp) o e⟩
  item:=fun i s Q E hi st hQ=>by
   have e:vs[i]? = some vs[i]:=by simp [hi]
   exact nextT_item st.1 st.2 e fun h' g' sb=>hQ _ h' s.toks e ⟨g',SqAt.at (b:=true) st.2 fun o z=>(sb.2 a hne).trans z⟩ sb
  done:=fun s Q E st hE=>nextT_end hh st.1 st.2 (by first | exact mm0 | exact mm1 | exact mm2 | exact mm3 | exact mm4 | exact mm5 | simp) hE }
section
open AutoSeq1 (wpAny_loadPart')
theorem enumT_new (l:Addr) (vs:Array Value) (n:Nat) (dc:Option Addr) (sl:Array (Option Value)) :
 Meets (Builtin.«enumerate.__new__» ⟨[.type "enumerate",.ref l],[]⟩) (fun _ R s=>s.heap.get? l=some { cls:=.type "tuple",dict:=dc,data:=.seq vs n,slots:=sl } ∧
  R (.ok (.ret (.ref (s.heap.push { cls:=.type "tuple_iterator",data:=.fields #[.ref l,.int 0 0] }).objs.size)))
   { s with heap:=(s.heap.push { cls:=.type "tuple_iterator",data:=.fields #[.ref l,.int 0 0] }).push { cls:=.type "enumerate",data:=.fields #[.none,.bool false,.ref s.heap.objs.size,rawInt 0,.none,.none] } }):=
 .of_wp fun prog w A R s h=>by
  obtain ⟨hp,g,d,tk,os⟩:=s;obtain ⟨hl,h⟩:=h;have hsub:=sub_enumerate
  have hL:Heap.IsTuple (Shared.heap ⟨hp,g,d,tk,os⟩) l vs:=⟨_,hl,rfl,n,rfl⟩
  wp_walk using wpAny_loadPart' hl
  refine wpAny_stack_any fun st=>wpAny_pure ?_
  split
  · rename_i c _ _ _ _ _
    cases (c==Value.type "enumerate")<;>(wp_walk using wpAny_loadPart' hl,wpAny_pyIter_tuple hL;exact ⟨_,rfl,h⟩)
  · wp_walk using wpAny_loadPart' hl,wpAny_pyIter_tuple hL
    exact ⟨_,rfl,h⟩
end
theorem call_enum {prog:Program}{w:World}{A:Around}{E:Value→Shared→Prop}{s:Shared}(b:Bool) {l:Addr}{vs:Array Value}{Q:Value→Shared→Prop}(x:SqAt b s.heap l vs)
 (q:∀ h',IsEnum h' (s.heap.objs.size+1) s.heap.objs.size 0 .none→ItAt b h' s.heap.objs.size l 0→h'.objs.size=s.heap.objs.size+2 →
  (∀ c o,s.heap.get? c=some o→h'.get? c=some o)→Q (.ref (s.heap.objs.size+1)) { s with heap:=h' }) :
 wpAny (model prog w) A (call (.type "enumerate") [.ref l]) Q E s:=by
 cases b with
 | false=>exact call_enumerate_list x q
 | true=>
  obtain ⟨⟨c,dc,dt,sl⟩,hl,hc,n,hd⟩:=x
  replace hc:c = .type "tuple":=hc
  replace hd:dt = .seq vs n:=hd
  subst hc hd
  refine callType_new F.called_enumerate (by decide) (F.typeCall_enumerate_1 _) (F.newCall_enumerate_1 _) (fun obj=>F.args_object_init_2 obj _) F.entry_enumerate_new (enumT_new l vs n dc sl) ⟨hl,?_⟩
  have hz:(s.heap.push { cls:=.type "tuple_iterator",data:=.fields #[.ref l,.int 0 0] }).objs.size=s.heap.objs.size+1:=Heap.size_push ..
  show _∧_
  rw [hz]
  have he:IsEnum ((s.heap.push { cls:=.type "tuple_iterator",data:=.fields #[.ref l,.int 0 0] }).push { cls:=.type "enumerate",data:=.fields #[.none,.bool false,.ref s.heap.objs.size,rawInt 0,.none,.none] }) (s.heap.objs.size+1) s.heap.objs.size 0 .none:=by
   have z:=Heap.get?_push_size (s.heap.push { cls:=.type "tuple_iterator",data:=.fields #[.ref l,.int 0 0] }) (o:={ cls:=.type "enumerate",data:=.fields #[.none,.bool false,.ref s.heap.objs.size,rawInt 0,.none,.none] }) rfl
   rw [hz] at z;exact z
  exact ⟨⟨_,he,rfl⟩,q _ he ⟨_,Heap.get?_push_of_some _ (Heap.get?_push_size _ rfl),rfl,rfl⟩ (by rw [Heap.size_push,hz]) fun c o y=>Heap.get?_push_of_some _ (Heap.get?_push_of_some _ y)⟩
noncomputable def itObj (b:Bool) (l:Addr):Obj:={ cls:=.type (match b with | true=>"tuple_iterator" | false=>"list_iterator"),data:=.fields #[.ref l,.int 0 0] }
theorem itObj_at {b:Bool}{h:Heap}{j l:Addr}(e:h.get? j=some (itObj b l)):ItAt b h j l 0:=by
 cases b with
 | true=>exact ⟨_,e,rfl,rfl⟩
 | false=>exact ⟨_,e,rfl,rfl⟩
theorem pyIter_itObj {prog:Program}{w:World}{A:Around}{E:Value→Shared→Prop}{s:Shared}{b:Bool}{a:Addr}{vs:Array Value}{Q:Value→Shared→Prop}(x:SqAt b s.heap a vs)
 (q:Q (.ref s.heap.objs.size) { s with heap:=s.heap.push (itObj b a) }):wpAny (model prog w) A (pyIter (.ref a)) Q E s:=by
 cases b with
 | true=>exact wpAny_pyIter_tuple x q
 | false=>exact wpAny_pyIter_list x q
noncomputable abbrev zz1 (b:Bool) (h:Heap) (l:Addr):Heap:=h.push (itObj b l)
noncomputable abbrev zz2 (b b':Bool) (h:Heap) (l m:Addr):Heap:=(zz1 b h l).push (itObj b' m)
noncomputable abbrev zz3 (b b':Bool) (h:Heap) (l m:Addr):Heap:=(zz2 b b' h l m).push { cls:=.type "tuple",data:=.seq #[.ref h.objs.size,.ref (zz1 b h l).objs.size] }
noncomputable abbrev zz4 (b b':Bool) (h:Heap) (l m:Addr):Heap:=(zz3 b b' h l m).push { cls:=.type "tuple",data:=.seq #[.none,.none] }
noncomputable abbrev zz5 (b b':Bool) (h:Heap) (l m:Addr):Heap:=(zz4 b b' h l m).push { cls:=.type "zip",data:=.fields #[.none,.bool false,.bool false,.ref (zz2 b b' h l m).objs.size,.ref (zz3 b b' h l m).objs.size] }
theorem zip_new (b b':Bool) (l m:Addr) (xs ys:Array Value) :
 Meets (Builtin.«zip.__new__» ⟨[.type "zip",.ref l,.ref m],[]⟩) (fun _ R s=>SqAt b s.heap l xs∧SqAt b' s.heap m ys ∧
  R (.ok (.ret (.ref (zz4 b b' s.heap l m).objs.size))) { s with heap:=zz5 b b' s.heap l m }):=
 .of_wp fun prog w A R s h=>by
  obtain ⟨hp,g,d,tk,os⟩:=s;obtain ⟨x1,x2,h⟩:=h
  have hsub:=sub_zip
  have x1':SqAt b (Shared.heap ⟨hp,g,d,tk,os⟩) l xs:=x1
  have x2':SqAt b' (Shared.heap ⟨hp.push (itObj b l),g,d,tk,os⟩) m ys:=SqAt.at x2 fun o e=>Heap.get?_push_of_some _ e
  wp_walk using pyIter_itObj x1',pyIter_itObj x2'
  exact ⟨_,rfl,h⟩
structure ZApart (z TI TO j1 j2:Addr) (f1 f2:List Addr):Prop where
 m1:j1∈f1
 m2:j2∈f2
 z1:z∉f1
 z2:z∉f2
 o1:TO∉f1
 o2:TO∉f2
 q1:j1∉f2
 q2:j2∉f1
 iz:TI≠z
 io:TI≠TO
 i1:TI≠j1
 i2:TI≠j2
 oz:TO≠z
theorem ZApart.j1z {z TI TO j1 j2:Addr}{f1 f2:List Addr}(D:ZApart z TI TO j1 j2 f1 f2):j1≠z:=fun e=>D.z1 (e▸D.m1)
theorem ZApart.j2z {z TI TO j1 j2:Addr}{f1 f2:List Addr}(D:ZApart z TI TO j1 j2 f1 f2):j2≠z:=fun e=>D.z2 (e▸D.m2)
theorem ZApart.j1o {z TI TO j1 j2:Addr}{f1 f2:List Addr}(D:ZApart z TI TO j1 j2 f1 f2):j1≠TO:=fun e=>D.o1 (e▸D.m1)
theorem ZApart.j2o {z TI TO j1 j2:Addr}{f1 f2:List Addr}(D:ZApart z TI TO j1 j2 f1 f2):j2≠TO:=fun e=>D.o2 (e▸D.m2)
theorem ne_mem {a b:Addr}{l:List Addr}(h:a∉l) (hb:b∈l):b≠a:=fun e=>h (e▸hb)
section
variable {prog:Program}{w:World}{A:Around}{E:Value→Shared→Prop}{s:Shared}{z TI TO j1 j2:Addr}{f1 f2:List Addr}{n1 n2 i:Nat}{P1 P2:Nat→Value→Prop}{St1 St2:Nat→Heap→Prop}{a b:Value}
theorem zipD_item {Q:Value→Shared→Prop}(D:ZApart z TI TO j1 j2 f1 f2) (D1:Draws prog w A j1 f1 n1 P1 St1) (D2:Draws prog w A j2 f2 n2 P2 St2) (hz:IsZip s.heap z TI TO .none) (hI:IsPair s.heap TI (.ref j1) (.ref j2)) (hO:IsPair s.heap TO a b)
 (st1:St1 i s.heap) (st2:St2 i s.heap) (l1:i<n1) (l2:i<n2)
 (q:∀ x y h' tk,P1 i x→P2 i y→IsZip h' z TI TO (rawInt s.heap.objs.size)→IsPair h' TO x y→St1 (i+1) h'→St2 (i+1) h'→IsPair h' s.heap.objs.size x y→h'.objs.size=s.heap.objs.size+1 →
  (∀ c o,c≠z→c≠TO→c≠j1→c≠j2→s.heap.get? c=some o→h'.get? c=some o)→Q (.ref s.heap.objs.size) { s with heap:=h',toks:=tk }) :
 wpAny (model prog w) A (Builtin.«zip.__next__» ⟨[.ref z],[]⟩) (fun fin s'=>∃ v,fin = .done (.ret v)∧Q v s') E s:=by
 obtain ⟨hp,gg,dd,t0,os⟩:=s
 show wpAny _ _ (field (.ref z) 2 >>= _) _ _ _;refine wpAny_bind (wpAny_field hz rfl (x:=.bool false) rfl ?_)
 show wpAny _ _ (field (.ref z) 3 >>= _) _ _ _;refine wpAny_bind (wpAny_field hz rfl (x:=.ref TI) rfl ?_)
 refine wpAny_bind (wpAny_seqItems hI rfl ?_)
 show wpAny _ _ (Builtin.SmallTypes.ownedTupleIsFree (.ref z) >>= _) _ _ _;refine wpAny_bind ?_;unfold Builtin.SmallTypes.ownedTupleIsFree
 refine wpAny_bind (wpAny_field hz rfl (x:=.none) rfl (wpAny_pure ?_));simp only [if_true];refine wpAny_bind (wpAny_rule ?_)
 refine wpAny_bind (wpAny_field hz rfl (x:=.ref TO) rfl ?_)
 refine wpAny_bind (wpAny_setField_rec hz (by first | exact mm0 | exact mm1 | exact mm2 | exact mm3 | exact mm4 | exact mm5 | simp) fun g1 z1 b1=>?_);replace z1:IsZip g1 z TI TO .ellipsis:=z1;replace b1:Heap.SameBut z hp g1:=b1
 refine wpAny_bind ?_;simp only [List.zipIdx_cons,List.zipIdx_nil,List.forIn_cons,List.forIn_nil]
 refine wpAny_bind (wpAny_bind (wpAny_onRaise ?_))
 show wpAny _ _ (Builtin.SmallTypes.nextOf (.ref j1) >>= _) _ _ _
 refine wpAny_bind (D1.item i _ _ _ l1 (D1.frame _ _ _ st1 fun c hc o e=>b1.extBut c o (ne_mem D.z1 hc) e) fun x g2 t2 px s12 b2=>wpAny_pure ?_);replace b2:Heap.SameBut j1 g1 g2:=b2
 have o2:IsPair g2 TO a b:=b2.extBut _ _ (Ne.symm D.j1o) (b1.extBut _ _ D.oz hO)
 refine wpAny_bind (wpAny_seqItems o2 rfl ?_)
 refine wpAny_bind (wpAny_updateSeq_pair o2 fun g3 o3 b3=>?_);replace o3:IsPair g3 TO x b:=o3;replace b3:Heap.SameBut TO g2 g3:=b3
 refine wpAny_bind (wpAny_letGo (wpAny_pure ?_));refine wpAny_bind (wpAny_bind (wpAny_onRaise ?_))
 show wpAny _ _ (Builtin.SmallTypes.nextOf (.ref j2) >>= _) _ _ _
 refine wpAny_bind (D2.item i _ _ _ l2 (D2.frame _ _ _ st2 fun c hc o e=>b3.extBut c o (ne_mem D.o2 hc) (b2.extBut c o (ne_mem D.q1 hc) (b1.extBut c o (ne_mem D.z2 hc) e))) fun y g4 t4 py s24 b4=>wpAny_pure ?_);replace b4:Heap.SameBut j2 g3 g4:=b4
 have o4:IsPair g4 TO x b:=b4.extBut _ _ (Ne.symm D.j2o) o3
 refine wpAny_bind (wpAny_seqItems o4 rfl ?_)
 refine wpAny_bind (wpAny_updateSeq_pair o4 fun g5 o5 b5=>?_);replace o5:IsPair g5 TO x y:=o5;replace b5:Heap.SameBut TO g4 g5:=b5
 refine wpAny_bind (wpAny_letGo (wpAny_pure (wpAny_pure ?_)))
 refine wpAny_bind (wpAny_seqItems o5 rfl ?_);refine wpAny_bind (wpAny_newTuple ?_)
 have sz:g5.objs.size=hp.objs.size:=by rw [b5.1,b4.1,b3.1,b2.1,b1.1]
 have z5:IsZip g5 z TI TO .ellipsis:=b5.extBut _ _ (Ne.symm D.oz) (b4.extBut _ _ (Ne.symm D.j2z) (b3.extBut _ _ (Ne.symm D.oz) (b2.extBut _ _ (Ne.symm D.j1z) z1)))
 have k5:∀ c o,c≠z→c≠TO→c≠j1→c≠j2→hp.get? c=some o→g5.get? c=some o:=fun c o c1 c2 c3 c4 e=>b5.extBut _ _ c2 (b4.extBut _ _ c4 (b3.extBut _ _ c2 (b2.extBut _ _ c3 (b1.extBut _ _ c1 e))))
 have s15:St1 (i+1) g5:=D1.frame _ _ _ s12 fun c hc o e=>b5.extBut c o (ne_mem D.o1 hc) (b4.extBut c o (ne_mem D.q2 hc) (b3.extBut c o (ne_mem D.o1 hc) e))
 have s25:St2 (i+1) g5:=D2.frame _ _ _ s24 fun c hc o e=>b5.extBut c o (ne_mem D.o2 hc) e
 have zl:z<g5.objs.size:=Heap.lt_size z5
 show wpAny _ _ (Builtin.SmallTypes.ownedTupleHandOut (.ref z) (.ref g5.objs.size) >>= _) _ _ _;refine wpAny_bind ?_;unfold Builtin.SmallTypes.ownedTupleHandOut
 have z6:IsZip (g5.push { cls:=.type "tuple",data:=.seq #[x,y] }) z TI TO .ellipsis:=Heap.get?_push_of_some _ z5
 refine wpAny_bind (wpAny_setField_rec z6 (by first | exact mm0 | exact mm1 | exact mm2 | exact mm3 | exact mm4 | exact mm5 | simp) fun g7 z7 b7=>?_);replace z7:IsZip g7 z TI TO (rawInt g5.objs.size):=z7
 refine wpAny_setField_rec z7 (by first | exact mm0 | exact mm1 | exact mm2 | exact mm3 | exact mm4 | exact mm5 | simp) fun g8 z8 b8=>?_;replace z8:IsZip g8 z TI TO (rawInt g5.objs.size):=z8
 have up:∀ c o,c≠z→g5.get? c=some o→g8.get? c=some o:=fun c o c1 e=>b8.extBut _ _ c1 (b7.extBut _ _ c1 (Heap.get?_push_of_some _ e))
 have t8:IsPair g8 g5.objs.size x y:=b8.extBut _ _ (Nat.ne_of_gt zl) (b7.extBut _ _ (Nat.ne_of_gt zl) (Heap.get?_push_size _ rfl))
 have s8:g8.objs.size=g5.objs.size+1:=by rw [b8.1,b7.1,Heap.size_push]
 rw [sz] at z8 t8 s8
 refine wpAny_pure ⟨_,rfl,?_⟩;show Q (.ref g5.objs.size) _;rw [sz]
 exact q x y g8 t4 px py z8 (up _ _ D.oz o5) (D1.frame _ _ _ s15 fun c hc o e=>up c o (ne_mem D.z1 hc) e) (D2.frame _ _ _ s25 fun c hc o e=>up c o (ne_mem D.z2 hc) e) t8 s8 fun c o c1 c2 c3 c4 e=>up c o c1 (k5 c o c1 c2 c3 c4 e)
theorem zipD_end {Q:Fin→Shared→Prop}(D:ZApart z TI TO j1 j2 f1 f2) (D1:Draws prog w A j1 f1 n1 P1 St1) (D2:Draws prog w A j2 f2 n2 P2 St2) (hz:IsZip s.heap z TI TO .none) (hI:IsPair s.heap TI (.ref j1) (.ref j2)) (hO:IsPair s.heap TO a b)
 (st1:St1 i s.heap) (st2:St2 i s.heap) (hend:i=n1∨(i<n1∧i=n2))
 (q:∀ h' e tk,(∀ c o,c≠z→c≠TO→c≠j1→c≠j2→s.heap.get? c=some o→h'.get? c=some o)→(∃ o,h'.get? e=some o∧o.cls = .type "StopIteration")→E (.ref e) { s with heap:=h',toks:=tk }) :
 wpAny (model prog w) A (Builtin.«zip.__next__» ⟨[.ref z],[]⟩) Q E s:=by
 obtain ⟨hp,gg,dd,t0,os⟩:=s
 show wpAny _ _ (field (.ref z) 2 >>= _) _ _ _;refine wpAny_bind (wpAny_field hz rfl (x:=.bool false) rfl ?_)
 show wpAny _ _ (field (.ref z) 3 >>= _) _ _ _;refine wpAny_bind (wpAny_field hz rfl (x:=.ref TI) rfl ?_)
 refine wpAny_bind (wpAny_seqItems hI rfl ?_)
 show wpAny _ _ (Builtin.SmallTypes.ownedTupleIsFree (.ref z) >>= _) _ _ _;refine wpAny_bind ?_;unfold Builtin.SmallTypes.ownedTupleIsFree
 refine wpAny_bind (wpAny_field hz rfl (x:=.none) rfl (wpAny_pure ?_));simp only [if_true];refine wpAny_bind (wpAny_rule ?_)
 refine wpAny_bind (wpAny_field hz rfl (x:=.ref TO) rfl ?_)
 refine wpAny_bind (wpAny_setField_rec hz (by first | exact mm0 | exact mm1 | exact mm2 | exact mm3 | exact mm4 | exact mm5 | simp) fun g1 z1 b1=>?_);replace z1:IsZip g1 z TI TO .ellipsis:=z1;replace b1:Heap.SameBut z hp g1:=b1
 refine wpAny_bind ?_;simp only [List.zipIdx_cons,List.zipIdx_nil,List.forIn_cons,List.forIn_nil]
 refine wpAny_bind (wpAny_bind (wpAny_onRaise ?_))
 show wpAny _ _ (Builtin.SmallTypes.nextOf (.ref j1) >>= _) _ _ _
 have s11:=D1.frame _ _ _ st1 fun c hc o e=>b1.extBut c o (ne_mem D.z1 hc) e
 rcases hend with he | ⟨l1,he⟩
 · subst he
   refine wpAny_bind (D1.done _ _ _ s11 fun g2 e b2 he=>?_)
   obtain ⟨oe,hoe,hce⟩:=he
   have z2:IsZip g2 z TI TO .ellipsis:=b2 _ _ (Ne.symm D.j1z) z1
   have ez:e≠z:=fun x=>by subst x;rw [z2] at hoe;cases hoe;simp at hce
   refine wpAny_setField_rec z2 (by first | exact mm0 | exact mm1 | exact mm2 | exact mm3 | exact mm4 | exact mm5 | simp) fun g3 _ b3=>?_
   exact q g3 e t0 (fun c o c1 _ c3 _ x=>b3.extBut _ _ c1 (b2 _ _ c3 (b1.extBut _ _ c1 x))) ⟨oe,b3.extBut _ _ ez hoe,hce⟩
 · subst he
   refine wpAny_bind (D1.item i _ _ _ l1 s11 fun x g2 t2 px s12 b2=>wpAny_pure ?_);replace b2:Heap.SameBut j1 g1 g2:=b2
   have o2:IsPair g2 TO a b:=b2.extBut _ _ (Ne.symm D.j1o) (b1.extBut _ _ D.oz hO)
   refine wpAny_bind (wpAny_seqItems o2 rfl ?_)
   refine wpAny_bind (wpAny_updateSeq_pair o2 fun g3 o3 b3=>?_);replace b3:Heap.SameBut TO g2 g3:=b3
   refine wpAny_bind (wpAny_letGo (wpAny_pure ?_));refine wpAny_bind (wpAny_bind (wpAny_onRaise ?_))
   show wpAny _ _ (Builtin.SmallTypes.nextOf (.ref j2) >>= _) _ _ _
   refine wpAny_bind (D2.done _ _ _ (D2.frame _ _ _ st2 fun c hc o e=>b3.extBut c o (ne_mem D.o2 hc) (b2.extBut c o (ne_mem D.q1 hc) (b1.extBut c o (ne_mem D.z2 hc) e))) fun g4 e b4 he=>?_)
   obtain ⟨oe,hoe,hce⟩:=he
   have z4:IsZip g4 z TI TO .ellipsis:=b4 _ _ (Ne.symm D.j2z) (b3.extBut _ _ (Ne.symm D.oz) (b2.extBut _ _ (Ne.symm D.j1z) z1))
   have ez:e≠z:=fun x=>by subst x;rw [z4] at hoe;cases hoe;simp at hce
   refine wpAny_setField_rec z4 (by first | exact mm0 | exact mm1 | exact mm2 | exact mm3 | exact mm4 | exact mm5 | simp) fun g5 _ b5=>?_
   exact q g5 e t2 (fun c o c1 c2 c3 c4 x=>b5.extBut _ _ c1 (b4 _ _ c4 (b3.extBut _ _ c2 (b2.extBut _ _ c3 (b1.extBut _ _ c1 x))))) ⟨oe,b5.extBut _ _ ez hoe,hce⟩
theorem zipD_next_item {Q:Option Value→Shared→Prop}(D:ZApart z TI TO j1 j2 f1 f2) (D1:Draws prog w A.in1 j1 f1 n1 P1 St1) (D2:Draws prog w A.in1 j2 f2 n2 P2 St2) (hz:IsZip s.heap z TI TO .none) (hI:IsPair s.heap TI (.ref j1) (.ref j2)) (hO:IsPair s.heap TO a b)
 (st1:St1 i s.heap) (st2:St2 i s.heap) (l1:i<n1) (l2:i<n2)
 (q:∀ x y h' tk,P1 i x→P2 i y→IsZip h' z TI TO (rawInt s.heap.objs.size)→IsPair h' TO x y→St1 (i+1) h'→St2 (i+1) h'→IsPair h' s.heap.objs.size x y→h'.objs.size=s.heap.objs.size+1 →
  (∀ c o,c≠z→c≠TO→c≠j1→c≠j2→s.heap.get? c=some o→h'.get? c=some o)→Q (some (.ref s.heap.objs.size)) { s with heap:=h',toks:=tk }) :
 wpAny (model prog w) A (pyNext (.ref z)) Q E s:=by
 have hT:s.TypeIs (.ref z) "zip":=⟨_,hz,rfl⟩
 unfold pyNext
 exact wpAny_bind (wpAny_attempt (wpAny_callSpecial?_slot (name:=Str.ofString "__next__") hT F.slot_zip_next (wpAny_call_entry F.slot_zip_next hT F.entry_zip_next
  (zipD_item D D1 D2 hz hI hO st1 st2 l1 l2 fun x y h' tk a1 a2 a3 a4 a5 a6 a7 a8 a9=>wpAny_pure (q x y h' tk a1 a2 a3 a4 a5 a6 a7 a8 a9)) (F.args_zip_next_1 _))))
theorem zipD_next_end {Q:Option Value→Shared→Prop}(D:ZApart z TI TO j1 j2 f1 f2) (D1:Draws prog w A.in1 j1 f1 n1 P1 St1) (D2:Draws prog w A.in1 j2 f2 n2 P2 St2) (hz:IsZip s.heap z TI TO .none) (hI:IsPair s.heap TI (.ref j1) (.ref j2)) (hO:IsPair s.heap TO a b)
 (st1:St1 i s.heap) (st2:St2 i s.heap) (hend:i=n1∨(i<n1∧i=n2))
 (q:∀ h' tk,(∀ c o,c≠z→c≠TO→c≠j1→c≠j2→s.heap.get? c=some o→h'.get? c=some o)→Q none { s with heap:=h',toks:=tk }):wpAny (model prog w) A (pyNext (.ref z)) Q E s:=by
 have hT:s.TypeIs (.ref z) "zip":=⟨_,hz,rfl⟩
 unfold pyNext
 refine wpAny_bind (wpAny_attempt (wpAny_callSpecial?_slot (name:=Str.ofString "__next__") hT F.slot_zip_next (wpAny_call_entry F.slot_zip_next hT F.entry_zip_next (zipD_end D D1 D2 hz hI hO st1 st2 hend fun h' e tk hk he=>?_) (F.args_zip_next_1 _))))
 obtain ⟨o,ho,hc⟩:=he
 refine wpAny_bind (wpAny_isInstance (T:="StopIteration") (b:=true) ⟨o,ho,hc⟩ isSubtype_stop ?_)
 exact wpAny_pure (q _ _ hk)
end
theorem call_zipK {prog:Program}{w:World}{A:Around}{E:Value→Shared→Prop}{s:Shared}(b b':Bool) {l m:Addr}{xs ys:Array Value}{Q:Value→Shared→Prop}(x1:SqAt b s.heap l xs) (x2:SqAt b' s.heap m ys)
 (q:∀ h',IsZip h' (s.heap.objs.size+4) (s.heap.objs.size+2) (s.heap.objs.size+3) .none→IsPair h' (s.heap.objs.size+2) (.ref s.heap.objs.size) (.ref (s.heap.objs.size+1)) →
  IsPair h' (s.heap.objs.size+3) .none .none→ItAt b h' s.heap.objs.size l 0→ItAt b' h' (s.heap.objs.size+1) m 0→h'.objs.size=s.heap.objs.size+5 →
  (∀ c o,s.heap.get? c=some o→h'.get? c=some o)→Q (.ref (s.heap.objs.size+4)) { s with heap:=h' }) :
 wpAny (model prog w) A (call (.type "zip") [.ref l,.ref m]) Q E s:=by
 refine callType_new F.called_zip (by decide) (F.typeCall_zip_2 _ _) (F.newCall_zip_2 _ _) (fun obj=>F.args_object_init_3 obj _ _) F.entry_zip_new (zip_new b b' l m xs ys) ⟨x1,x2,?_⟩
 have y1:(zz1 b s.heap l).objs.size=s.heap.objs.size+1:=Heap.size_push ..
 have y2:(zz2 b b' s.heap l m).objs.size=s.heap.objs.size+2:=by rw [Heap.size_push,y1]
 have y3:(zz3 b b' s.heap l m).objs.size=s.heap.objs.size+3:=by rw [Heap.size_push,y2]
 have y4:(zz4 b b' s.heap l m).objs.size=s.heap.objs.size+4:=by rw [Heap.size_push,y3]
 have y5:(zz5 b b' s.heap l m).objs.size=s.heap.objs.size+5:=by rw [Heap.size_push,y4]
 have fr:∀ b l,(itObj b l).isFreed=false:=fun b l=>by cases b<;>rfl
 have g5:(zz5 b b' s.heap l m).get? (zz4 b b' s.heap l m).objs.size=some _:=Heap.get?_push_size _ rfl
 have g4:(zz5 b b' s.heap l m).get? (zz3 b b' s.heap l m).objs.size=some _:=Heap.get?_push_of_some _ (Heap.get?_push_size _ rfl)
 have g3:(zz5 b b' s.heap l m).get? (zz2 b b' s.heap l m).objs.size=some _:=Heap.get?_push_of_some _ (Heap.get?_push_of_some _ (Heap.get?_push_size _ rfl))
 have g2:(zz5 b b' s.heap l m).get? (zz1 b s.heap l).objs.size=some _:=Heap.get?_push_of_some _ (Heap.get?_push_of_some _ (Heap.get?_push_of_some _ (Heap.get?_push_size _ (fr b' m))))
 have g1:(zz5 b b' s.heap l m).get? s.heap.objs.size=some _:=Heap.get?_push_of_some _ (Heap.get?_push_of_some _ (Heap.get?_push_of_some _ (Heap.get?_push_of_some _ (Heap.get?_push_size _ (fr b l)))))
 show _∧_
 rw [y2,y3,y4] at g5;rw [y1,y2] at g3;rw [y3] at g4;rw [y1] at g2;rw [y4]
 exact ⟨⟨_,g5,rfl⟩,q _ g5 g3 g4 (itObj_at g1) (itObj_at g2) y5 fun c o x=>Heap.get?_push_of_some _ (Heap.get?_push_of_some _ (Heap.get?_push_of_some _ (Heap.get?_push_of_some _ (Heap.get?_push_of_some _ x))))⟩
noncomputable def SqK (b:Bool) (K:PySem.W.Frag) (H:Hp) (a:Addr) (xs:List V):Prop:=match b with | true=>SqT K H a xs | false=>SqL K H a xs
section
variable {X:Cx}{pins:List (Addr×Obj)}{σ:St}{H:Hp}{s:Shared}{a c:Addr}{xs ys:List V}{b:Bool}{h':Heap}
theorem Inv.seqK (I:Inv X pins σ H s) (h:SqK b X.K H a xs):∃ its:List Value,Vals xs its∧SqAt b s.heap a its.toArray∧xs.length≤sizeLine:=by
 cases b with
 | true=>exact let ⟨its,r,p,z⟩:=I.tuple h;⟨its,r,p,z⟩
 | false=>exact let ⟨its,r,p,z⟩:=I.list h;⟨its,r,p.isList,z⟩
theorem Inv.seqK_inj (I:Inv X pins σ H s) (h:SqK b X.K H a xs) (h':SqK b X.K H a ys):xs=ys:=by
 cases b with
 | true=>exact I.tuple_inj h h'
 | false=>exact I.list_inj h h'
theorem Inv.seqK_ne (I:Inv X pins σ H s) (h:SqK b X.K H a xs) (f:FpOk X pins H c):a≠c:=by
 have base:∀ o,X.K.lookup a=some o→a≠c:=fun o hk e=>by
  have e1:=I.ok.mod.kin a o hk
  rcases f.2.2.2.1 with z | z
  · exact I.ok.noex a o e1 (e▸z)
  · exact absurd (Nat.lt_of_lt_of_le (Heap.lt_size e1) (Nat.le_trans I.ok.bsz (e▸z))) (Nat.lt_irrefl _)
 cases b with
 | true=>
  rcases h with (q | ⟨o,q⟩) | ⟨o,_,_,hk,_⟩
  · exact ne_of_none q f.1
  · exact ne_of_none q f.1
  · exact base o hk
 | false=>
  rcases h with (q | ⟨o,q⟩) | ⟨o,_,_,hk,_⟩
  · exact ne_of_none q f.1
  · exact ne_of_none q f.1
  · exact base o hk
theorem Inv.turnedL {t':Nat}{fp:List Addr}(I:Inv X pins σ H s) (k:∀ b o,b∉fp→s.heap.get? b=some o→h'.get? b=some o) (hf:∀ b∈fp,FpOk X pins H b):Inv X pins σ H { s with heap:=h',toks:=t' }:=by
 refine I.step (g':=s.gens) (d':=s.drawn) (ch:=fp) (fun b hb=>⟨(hf b hb).2.2.2.1,(hf b hb).2.1,(hf b hb).2.2.2.2.1,(hf b hb).2.2.2.2.2⟩) (fun b o _ _ hc e _=>k b o hc e) (fun b o _ _ hc e _=>⟨o.slots,k b o hc e⟩) (fun _ _ _ _ n=>n)
  (fun b o hc e=>⟨o,k b o hc e⟩) (fun _ _ e=>e) (fun _ _ _ e=>e) (fun b ps e=>⟨#[],by rw [e];simp⟩) (fun m hm=>?_) (fun b u e=>?_) I.bare
 · obtain ⟨o,es,ep,ho,r⟩:=hm
   exact ⟨o,es,ep,k _ o (fun z=>(hf _ z).2.1 rfl) ho,r⟩
 · refine (I.hok b u e).stay (fun c v hc q=>k c v (fun z=>?_) q) (fun _ q=>q) fun _ _ q=>q
   have hn:=(hf c z).1
   rcases hc with hc | hc
   · rw [hc,e] at hn;cases hn
   · rw [hc] at hn;cases hn
theorem Inv.turnLay {t':Nat}{fp:List Addr}{p:Addr}{o:HO}(I:Inv X pins σ H s) (k:∀ b o,b∉fp→s.heap.get? b=some o→h'.get? b=some o) (hf:∀ b∈fp,FpOk X pins H b)
 (hp:s.heap.objs.size≤p) (new:ObjOk X.prog X.w (upd H p o) h' p o):Inv X pins σ (upd H p o) { s with heap:=h',toks:=t' }:=by
 have hn:=I.hok.fresh hp
 refine I.step (g':=s.gens) (d':=s.drawn) (ch:=fp) (fun b hb=>⟨(hf b hb).2.2.2.1,(hf b hb).2.1,(hf b hb).2.2.2.2.1,(hf b hb).2.2.2.2.2⟩) (fun b o _ _ hc e _=>k b o hc e) (fun b o _ _ hc e _=>⟨o.slots,k b o hc e⟩) (fun b ob _ e n=>?_)
  (fun b o hc e=>⟨o,k b o hc e⟩) (fun b xs e=>?_) (fun b _ _ e=>?_) (fun b ps e=>⟨#[],?_⟩) (fun m hm=>?_) (fun b u e=>?_) I.bare
 · have hbp:b≠p:=Nat.ne_of_lt (Nat.lt_of_lt_of_le (Heap.lt_size e) hp);rw [upd_ne hbp];exact n
 · rw [upd_ne (ne_of_none e hn)];exact e
 · rw [upd_ne (ne_of_none e hn)];exact e
 · rw [upd_ne (ne_of_none e hn)];simpa using e
 · obtain ⟨o,es,ep,ho,r⟩:=hm
   exact ⟨o,es,ep,k _ o (fun z=>(hf _ z).2.1 rfl) ho,r⟩
 · by_cases hb:b=p
   · subst hb
     rw [upd_same] at e;cases e
     exact new
   · rw [upd_ne hb] at e
     refine (I.hok b u e).stay (fun c v hc q=>k c v (fun z=>?_) q) (fun c q=>by rw [upd_ne (ne_of_none q hn)];exact q) fun c _ q=>by rw [upd_ne (ne_of_none q hn)];exact q
     have hn:=(hf c z).1
     rcases hc with hc | hc
     · rw [hc,e] at hn;cases hn
     · rw [hc] at hn;cases hn
end
noncomputable def Ite (b:Bool) (K:PySem.W.Frag) (a:Addr):It:=
 ⟨fun i H=>∃ xs x,SqK b K H a xs∧xs[i]? = some x,fun i H v H'=>∃ p y,H p=none∧H'=upd H p (.tup [.int i,y])∧v = .ref p∧∀ xs,SqK b K H a xs→xs[i]? = some y,fun i H=>∃ xs,SqK b K H a xs∧xs.length=i⟩
noncomputable def Itz (b b':Bool) (K:PySem.W.Frag) (a c:Addr):It:=
 ⟨fun i H=>∃ xs ys x y,SqK b K H a xs∧SqK b' K H c ys∧xs[i]? = some x∧ys[i]? = some y,fun i H v H'=>∃ p x y,H p=none∧H'=upd H p (.tup [x,y])∧v = .ref p∧(∀ xs,SqK b K H a xs→xs[i]? = some x)∧∀ ys,SqK b' K H c ys→ys[i]? = some y,
  fun i H=>∃ xs ys,SqK b K H a xs∧SqK b' K H c ys∧min xs.length ys.length=i⟩
theorem turn_enum {P:Program}{w:World}{K:PySem.W.Frag}{es:List Expr}{kk:Nat}{tp:Pos}(b:Bool) (a e j:Addr) (hej:e≠j):Turn P w K (.Tuple es kk tp) (Ite b K a) [e,j] e (fun i h=>(∃ old,IsEnum h e j i old)∧ItAt b h j a i) where
 mem:=by simp
 obj:=fun i h st c hc=>by
  obtain ⟨⟨old,he⟩,hj⟩:=st
  rcases List.mem_cons.mp hc with rfl | hc
  · exact ⟨_,he,fun v z=>by have z':Data.fields _=Data.cell v:=z;cases z'⟩
  · rw [List.mem_singleton.mp hc];exact hj.obj
 keep:=fun i h h' st k=>by
  obtain ⟨⟨old,he⟩,hj⟩:=st
  exact ⟨⟨old,k e (by first | exact mm0 | exact mm1 | exact mm2 | exact mm3 | exact mm4 | exact mm5 | simp) _ he⟩,hj.at fun o q=>k j (by first | exact mm0 | exact mm1 | exact mm2 | exact mm3 | exact mm4 | exact mm5 | simp) o q⟩
 item:=by
  intro X hP hw hK hc i pins s σ H E I hf st hg
  subst hP hw hK
  obtain ⟨xs,x,hq,hx⟩:=hg
  obtain ⟨its,rv,p,hz⟩:=I.seqK hq
  obtain ⟨u,hu,ru⟩:=rv.get hx
  obtain ⟨⟨old,he⟩,hj⟩:=st
  have nae:=I.seqK_ne hq (hf e (by first | exact mm0 | exact mm1 | exact mm2 | exact mm3 | exact mm4 | exact mm5 | simp))
  have naj:=I.seqK_ne hq (hf j (by first | exact mm0 | exact mm1 | exact mm2 | exact mm3 | exact mm4 | exact mm5 | simp))
  have hlt:i<its.toArray.size:=by
   have:=(List.getElem?_eq_some_iff.mp hu).1
   simpa using this
  refine wpAny_pyNext_enum_itemD (draws_of b (A:=X.A.in1) (I.ok.hd hc) j a naj its.toArray) he ⟨hj,p⟩ hlt hej (by simp;exact ⟨hej,Ne.symm nae⟩) fun y h1 tk hP ho st1 hT hsz hk=>?_
  have ey:y=u:=by
   have hP:its.toArray[i]? = some y:=hP
   have:its[i]? = some y:=by simpa using hP
   rw [hu] at this;exact (Option.some.inj this).symm
  subst ey
  refine ⟨_,rfl,wpAny_letOwnedTupleGo_enum ho fun h2 he2 hs2=>?_⟩
  replace hs2:Heap.SameBut e h1 h2:=hs2
  have hes:e<s.heap.objs.size:=Heap.lt_size he
  have hjs:j<s.heap.objs.size:=by obtain ⟨o,q,_⟩:=hj.obj;exact Heap.lt_size q
  have kk:∀ c o,c∉[e,j]→s.heap.get? c=some o→h2.get? c=some o:=fun c o hc q=>by
   have h1':c≠e:=fun z=>hc (by simp [z])
   exact hs2.extBut _ _ h1' (hk c o h1' (fun z=>hc (by simp [z])) q)
  refine ⟨.ref s.heap.objs.size,upd H s.heap.objs.size (.tup [.int i,x]),I.turnLay (t':=tk+1) kk hf (Nat.le_refl _) ?_,rfl,⟨_,x,I.hok.fresh (Nat.le_refl _),rfl,rfl,fun ys hy=>by rw [I.seqK_inj hy hq];exact hx⟩,⟨⟨y,by simpa using he2⟩,st1.1.at fun o q=>hs2.extBut _ _ (Ne.symm hej) q⟩,fun c hc=>?_⟩
  · exact ⟨by simp [sizeLine_eq],[.int i tk,y],.cons ⟨tk,rfl⟩ (.cons ru .nil),_,hs2.extBut _ _ (Nat.ne_of_gt hes) hT,rfl,0,rfl⟩
  · rw [upd_ne]
    · exact (hf c hc).1
    · rcases List.mem_cons.mp hc with rfl | hc
      · exact Nat.ne_of_lt hes
      · rw [List.mem_singleton.mp hc];exact Nat.ne_of_lt hjs
 done:=by
  intro X hP hw hK hc i pins s σ H E I hf st hg
  subst hP hw hK
  obtain ⟨xs,hq,hx⟩:=hg
  obtain ⟨its,rv,p,hz⟩:=I.seqK hq
  obtain ⟨⟨old,he⟩,hj⟩:=st
  have naj:=I.seqK_ne hq (hf j (by first | exact mm0 | exact mm1 | exact mm2 | exact mm3 | exact mm4 | exact mm5 | simp))
  have hl:=rv.length
  have hn:its.toArray.size=i:=by simp;omega
  refine wpAny_pyNext_enum_endD (draws_of b (A:=X.A.in1) (I.ok.hd hc) j a naj its.toArray) he (by rw [hn];exact ⟨hj,p⟩) fun h1 hk=>⟨rfl,?_⟩
  exact I.turnedL (t':=s.toks) (fun c o hc q=>hk c o (fun z=>hc (by simp [z])) q) hf
 self:=fun _ _ _ _ _ st q=>by
  obtain ⟨⟨old,he⟩,_⟩:=st
  exact wpAny_pyIter_enum he q
theorem turn_zip {P:Program}{w:World}{K:PySem.W.Frag}{es:List Expr}{kk:Nat}{tp:Pos}(b b':Bool) (a c z TI TO j1 j2:Addr) (dz:[z,TI,TO,j1,j2].Nodup) :
 Turn P w K (.Tuple es kk tp) (Itz b b' K a c) [z,TI,TO,j1,j2] z (fun i h=>IsZip h z TI TO .none∧IsPair h TI (.ref j1) (.ref j2)∧(∃ u v,IsPair h TO u v)∧ItAt b h j1 a i∧ItAt b' h j2 c i) where
 mem:=by simp
 obj:=fun i h st d hd=>by
  obtain ⟨hz,hI,⟨u,v,hO⟩,h1,h2⟩:=st
  have notup:∀ (o:Obj) {w:Value} {vs:Array Value} {n:Nat},o.data = .seq vs n→o.data≠.cell w:=fun o w vs n e z=>by rw [e] at z;cases z
  rcases List.mem_cons.mp hd with rfl | hd
  · exact ⟨_,hz,fun v z=>by have z':Data.fields _=Data.cell v:=z;cases z'⟩
  · rcases List.mem_cons.mp hd with rfl | hd
    · exact ⟨_,hI,fun w z=>by have z':Data.seq _ _=Data.cell w:=z;cases z'⟩
    · rcases List.mem_cons.mp hd with rfl | hd
      · exact ⟨_,hO,fun w z=>by have z':Data.seq _ _=Data.cell w:=z;cases z'⟩
      · rcases List.mem_cons.mp hd with rfl | hd
        · exact h1.obj
        · rw [List.mem_singleton.mp hd];exact h2.obj
 keep:=fun i h h' st k=>by
  obtain ⟨hz,hI,⟨u,v,hO⟩,h1,h2⟩:=st
  exact ⟨k z (by first | exact mm0 | exact mm1 | exact mm2 | exact mm3 | exact mm4 | exact mm5 | simp) _ hz,k TI (by first | exact mm0 | exact mm1 | exact mm2 | exact mm3 | exact mm4 | exact mm5 | simp) _ hI,⟨u,v,k TO (by first | exact mm0 | exact mm1 | exact mm2 | exact mm3 | exact mm4 | exact mm5 | simp) _ hO⟩,h1.at fun o q=>k j1 (by first | exact mm0 | exact mm1 | exact mm2 | exact mm3 | exact mm4 | exact mm5 | simp) o q,h2.at fun o q=>k j2 (by first | exact mm0 | exact mm1 | exact mm2 | exact mm3 | exact mm4 | exact mm5 | simp) o q⟩
 item:=by
  intro X hP hw hK hc i pins s σ H E I hf st hg
  subst hP hw hK
  obtain ⟨xs,ys,x,y,hq,hq',hx,hy⟩:=hg
  obtain ⟨its,rv,p,_⟩:=I.seqK hq
  obtain ⟨its',rv',p',_⟩:=I.seqK hq'
  obtain ⟨u,hu,ru⟩:=rv.get hx
  obtain ⟨u',hu',ru'⟩:=rv'.get hy
  obtain ⟨hz,hI,⟨o1,o2,hO⟩,h1,h2⟩:=st
  have na:=fun d hd=>I.seqK_ne hq (hf d hd)
  have na':=fun d hd=>I.seqK_ne hq' (hf d hd)
  simp only [List.nodup_cons,List.mem_cons,List.not_mem_nil,or_false,not_or] at dz
  obtain ⟨⟨d1,d2,d3,d4⟩,⟨d5,d6,d7⟩,⟨d8,d9⟩,d10,_⟩:=dz
  have hlt:i<its.toArray.size:=by have:=(List.getElem?_eq_some_iff.mp hu).1;simpa using this
  have hlt':i<its'.toArray.size:=by have:=(List.getElem?_eq_some_iff.mp hu').1;simpa using this
  have D:ZApart z TI TO j1 j2 [j1,a] [j2,c]:=⟨by simp,by simp,by simp;exact ⟨d3,Ne.symm (na z (by first | exact mm0 | exact mm1 | exact mm2 | exact mm3 | exact mm4 | exact mm5 | simp))⟩,by simp;exact ⟨d4,Ne.symm (na' z (by first | exact mm0 | exact mm1 | exact mm2 | exact mm3 | exact mm4 | exact mm5 | simp))⟩,by simp;exact ⟨d8,Ne.symm (na TO (by first | exact mm0 | exact mm1 | exact mm2 | exact mm3 | exact mm4 | exact mm5 | simp))⟩,by simp;exact ⟨d9,Ne.symm (na' TO (by first | exact mm0 | exact mm1 | exact mm2 | exact mm3 | exact mm4 | exact mm5 | simp))⟩,
   by simp;exact ⟨d10,Ne.symm (na' j1 (by first | exact mm0 | exact mm1 | exact mm2 | exact mm3 | exact mm4 | exact mm5 | simp))⟩,by simp;exact ⟨Ne.symm d10,Ne.symm (na j2 (by first | exact mm0 | exact mm1 | exact mm2 | exact mm3 | exact mm4 | exact mm5 | simp))⟩,Ne.symm d1,d5,d6,d7,Ne.symm d2⟩
  refine zipD_next_item D (draws_of b (A:=X.A.in1) (I.ok.hd hc) j1 a (na j1 (by first | exact mm0 | exact mm1 | exact mm2 | exact mm3 | exact mm4 | exact mm5 | simp)) its.toArray) (draws_of b' (A:=X.A.in1) (I.ok.hd hc) j2 c (na' j2 (by first | exact mm0 | exact mm1 | exact mm2 | exact mm3 | exact mm4 | exact mm5 | simp)) its'.toArray) hz hI hO ⟨h1,p⟩ ⟨h2,p'⟩ hlt hlt' fun v v' g1 tk e1 e2 z1 O1 s1 s2 T1 sz1 k1=>?_
  have ev:v=u:=by
   have e1:its.toArray[i]? = some v:=e1
   have:its[i]? = some v:=by simpa using e1
   rw [hu] at this;exact (Option.some.inj this).symm
  have ev':v'=u':=by
   have e2:its'.toArray[i]? = some v':=e2
   have:its'[i]? = some v':=by simpa using e2
   rw [hu'] at this;exact (Option.some.inj this).symm
  subst ev ev'
  refine ⟨_,rfl,wpAny_letOwnedTupleGo_zip z1 fun g2 z2 b2=>?_⟩
  replace b2:Heap.SameBut z g1 g2:=b2
  have hzs:z<s.heap.objs.size:=Heap.lt_size hz
  have kk:∀ d o,d∉[z,TI,TO,j1,j2]→s.heap.get? d=some o→g2.get? d=some o:=fun d o hd q=>by
   have h1':d≠z:=(by first | exact mn0 hd | exact mn1 hd | exact mn2 hd | exact mn3 hd | exact mn4 hd | exact mn5 hd)
   exact b2.extBut _ _ h1' (k1 d o h1' (by first | exact mn0 hd | exact mn1 hd | exact mn2 hd | exact mn3 hd | exact mn4 hd | exact mn5 hd) (by first | exact mn0 hd | exact mn1 hd | exact mn2 hd | exact mn3 hd | exact mn4 hd | exact mn5 hd) (by first | exact mn0 hd | exact mn1 hd | exact mn2 hd | exact mn3 hd | exact mn4 hd | exact mn5 hd) q)
  refine ⟨.ref s.heap.objs.size,upd H s.heap.objs.size (.tup [x,y]),I.turnLay (t':=tk) kk hf (Nat.le_refl _) ?_,rfl,⟨_,x,y,I.hok.fresh (Nat.le_refl _),rfl,rfl,fun zs hy=>by rw [I.seqK_inj hy hq];exact hx,fun zs hy'=>by rw [I.seqK_inj hy' hq'];exact hy⟩,
   ⟨z2,b2.extBut _ _ (Ne.symm d1) (k1 _ _ (Ne.symm d1) d5 d6 d7 hI),⟨_,_,b2.extBut _ _ (Ne.symm d2) O1⟩,s1.1.at fun o q=>b2.extBut _ _ (Ne.symm d3) q,s2.1.at fun o q=>b2.extBut _ _ (Ne.symm d4) q⟩,fun d hd=>?_⟩
  · exact ⟨by simp [sizeLine_eq],[v,v'],.cons ru (.cons ru' .nil),_,b2.extBut _ _ (Nat.ne_of_gt hzs) T1,rfl,0,rfl⟩
  · have lt:d<s.heap.objs.size:=by
     rcases List.mem_cons.mp hd with rfl | hd
     · exact hzs
     · rcases List.mem_cons.mp hd with rfl | hd
       · exact Heap.lt_size hI
       · rcases List.mem_cons.mp hd with rfl | hd
         · exact Heap.lt_size hO
         · rcases List.mem_cons.mp hd with rfl | hd
           · obtain ⟨o,q,_⟩:=h1.obj;exact Heap.lt_size q
           · rw [List.mem_singleton.mp hd];obtain ⟨o,q,_⟩:=h2.obj;exact Heap.lt_size q
    rw [upd_ne (Nat.ne_of_lt lt)]
    exact (hf d hd).1
 done:=by
  intro X hP hw hK hc i pins s σ H E I hf st hg
  subst hP hw hK
  obtain ⟨xs,ys,hq,hq',hm⟩:=hg
  obtain ⟨its,rv,p,_⟩:=I.seqK hq
  obtain ⟨its',rv',p',_⟩:=I.seqK hq'
  obtain ⟨hz,hI,⟨o1,o2,hO⟩,h1,h2⟩:=st
  have na:=fun d hd=>I.seqK_ne hq (hf d hd)
  have na':=fun d hd=>I.seqK_ne hq' (hf d hd)
  simp only [List.nodup_cons,List.mem_cons,List.not_mem_nil,or_false,not_or] at dz
  obtain ⟨⟨d1,d2,d3,d4⟩,⟨d5,d6,d7⟩,⟨d8,d9⟩,d10,_⟩:=dz
  have D:ZApart z TI TO j1 j2 [j1,a] [j2,c]:=⟨by simp,by simp,by simp;exact ⟨d3,Ne.symm (na z (by first | exact mm0 | exact mm1 | exact mm2 | exact mm3 | exact mm4 | exact mm5 | simp))⟩,by simp;exact ⟨d4,Ne.symm (na' z (by first | exact mm0 | exact mm1 | exact mm2 | exact mm3 | exact mm4 | exact mm5 | simp))⟩,by simp;exact ⟨d8,Ne.symm (na TO (by first | exact mm0 | exact mm1 | exact mm2 | exact mm3 | exact mm4 | exact mm5 | simp))⟩,by simp;exact ⟨d9,Ne.symm (na' TO (by first | exact mm0 | exact mm1 | exact mm2 | exact mm3 | exact mm4 | exact mm5 | simp))⟩,
   by simp;exact ⟨d10,Ne.symm (na' j1 (by first | exact mm0 | exact mm1 | exact mm2 | exact mm3 | exact mm4 | exact mm5 | simp))⟩,by simp;exact ⟨Ne.symm d10,Ne.symm (na j2 (by first | exact mm0 | exact mm1 | exact mm2 | exact mm3 | exact mm4 | exact mm5 | simp))⟩,Ne.symm d1,d5,d6,d7,Ne.symm d2⟩
  have hl:=rv.length
  have hl':=rv'.length
  refine zipD_next_end D (draws_of b (A:=X.A.in1) (I.ok.hd hc) j1 a (na j1 (by first | exact mm0 | exact mm1 | exact mm2 | exact mm3 | exact mm4 | exact mm5 | simp)) its.toArray) (draws_of b' (A:=X.A.in1) (I.ok.hd hc) j2 c (na' j2 (by first | exact mm0 | exact mm1 | exact mm2 | exact mm3 | exact mm4 | exact mm5 | simp)) its'.toArray) hz hI hO ⟨h1,p⟩ ⟨h2,p'⟩ (by simp;omega) fun g1 tk k1=>⟨rfl,?_⟩
  exact I.turnedL (t':=tk) (fun d o hd q=>k1 d o (by first | exact mn0 hd | exact mn1 hd | exact mn2 hd | exact mn3 hd | exact mn4 hd | exact mn5 hd) (by first | exact mn0 hd | exact mn1 hd | exact mn2 hd | exact mn3 hd | exact mn4 hd | exact mn5 hd) (by first | exact mn0 hd | exact mn1 hd | exact mn2 hd | exact mn3 hd | exact mn4 hd | exact mn5 hd) (by first | exact mn0 hd | exact mn1 hd | exact mn2 hd | exact mn3 hd | exact mn4 hd | exact mn5 hd) q) hf
 self:=fun _ _ _ _ _ st q=>wpAny_pyIter_zip st.1 q
section
variable {X:Cx}{es:List Expr}{kk:Nat}{tp:Pos}
noncomputable def iEnum (K:PySem.W.Frag) (ta:TA):TI:=fun σ H R=>ta σ H fun vs H1=>∃ b l xs,vs=[.ref l]∧SqK b K H1 l xs∧R (Ite b K l) H1
noncomputable def iZip (K:PySem.W.Frag) (ta:TA):TI:=fun σ H R=>ta σ H fun vs H1=>∃ b b' l m xs ys,vs=[.ref l,.ref m]∧SqK b K H1 l xs∧SqK b' K H1 m ys∧R (Itz b b' K l m) H1
theorem pi_enum {a:Expr}{ta:TA}{p pos:Pos}(hg:Gl X "enumerate") (hm:X.mg "enumerate" = none) (ha:PA X [a] ta) (hs:starEach [a] X.env=[(false,eval a X.env)]:=by rfl):PI X (.Tuple es kk tp) (.Call (.Name "enumerate" p) [a] [] pos) (iEnum X.K ta):=by
 intro pins s σ H R I h
 refine Call_ (ld_blt I hg hm boot_enumerate (PyProof.Rows.callWith_type1 (thn (ha pos pins s σ H _ I h) fun us s1 ⟨vs,H1,I1,r1,q1⟩=>?_) hs rfl))
 obtain ⟨b,l,xs,e,hq,q⟩:=q1
 subst e
 obtain ⟨u,rfl,ru⟩:=vals1 r1
 cases ru
 obtain ⟨its,rv,p,_⟩:=I1.seqK hq
 refine call_enum b p fun h1 he hj hsz hk=>wpAny_pyIter_enum he ?_
 refine ⟨_,[s1.heap.objs.size+1,s1.heap.objs.size],_,_,H1,rfl,I1.kept (t':=s1.toks) hk,turn_enum b l _ _ (Nat.succ_ne_self _),⟨⟨_,he⟩,hj⟩,fun c hc=>?_,q⟩
 rcases List.mem_cons.mp hc with rfl | hc
 · exact I1.fpOk (Nat.le_succ _) (I1.hok.fresh (Nat.le_succ _))
 · rw [List.mem_singleton.mp hc];exact I1.fpOk (Nat.le_refl _) (I1.hok.fresh (Nat.le_refl _))
theorem pi_zip {a b:Expr}{ta:TA}{p pos:Pos}(hg:Gl X "zip") (hm:X.mg "zip" = none) (ha:PA X [a,b] ta) (hs:starEach [a,b] X.env=[(false,eval a X.env),(false,eval b X.env)]:=by rfl) (hs2:starEach [b] X.env=[(false,eval b X.env)]:=by rfl) :
 PI X (.Tuple es kk tp) (.Call (.Name "zip" p) [a,b] [] pos) (iZip X.K ta):=by
 intro pins s σ H R I h
 refine Call_ (ld_blt I hg hm boot_zip (PyProof.Rows.callWith_type1 (thn (ha pos pins s σ H _ I h) fun us s1 ⟨vs,H1,I1,r1,q1⟩=>?_) (by rw [hs,hs2]) (by rw [hs2];rfl)))
 obtain ⟨b,b',l,m,xs,ys,e,hq,hq',q⟩:=q1
 subst e
 obtain ⟨u,u',rfl,ru,ru'⟩:=vals2 r1
 cases ru
 cases ru'
 obtain ⟨its,rv,p,_⟩:=I1.seqK hq
 obtain ⟨its',rv',p',_⟩:=I1.seqK hq'
 refine call_zipK b b' p p' fun h1 hz hI hO i1 i2 hsz hk=>wpAny_pyIter_zip hz ?_
 refine ⟨_,[s1.heap.objs.size+4,s1.heap.objs.size+2,s1.heap.objs.size+3,s1.heap.objs.size,s1.heap.objs.size+1],_,_,H1,rfl,I1.kept (t':=s1.toks) hk,turn_zip b b' l m _ _ _ _ _ (by first | exact mm0 | exact mm1 | exact mm2 | exact mm3 | exact mm4 | exact mm5 | simp),⟨hz,hI,⟨_,_,hO⟩,i1,i2⟩,fun c hc=>?_,q⟩
 have hc':s1.heap.objs.size≤c:=by
  simp only [List.mem_cons,List.not_mem_nil,or_false] at hc
  rcases hc with rfl | rfl | rfl | rfl | rfl
  · exact Nat.le_add_right _ _
  · exact Nat.le_add_right _ _
  · exact Nat.le_add_right _ _
  · exact Nat.le_refl _
  · exact Nat.le_add_right _ _
 exact I1.fpOk hc' (I1.hok.fresh hc')
end
section
variable {X:Cx}{pos:Pos}{k:Nat}
noncomputable abbrev Sto (X:Cx) (i:Nat) (x:Str):Prop:=X.N[i]? = some x∧Loc X.env.scope x∧(X.fn x=true∨X.env.scope.names.lookup x=some .local)
theorem pg_pair {K':PySem.W.Frag}{i j:Nat}{x y:Str}{px py:Pos}(hc:X.calm=true) (hN:X.N.Nodup) (hx:Sto X i x) (hy:Sto X j y) (hK:X.K=K'):PG X (.Tuple [.Name x px,.Name y py] k pos) (gTup K' 2 (gCons (gName i) (gCons (gName j) gNil))):=
 hK▸pg_tup hc (pgs_cons (pg_name hN hx.1 hx.2.1 hx.2.2) (pgs_cons (pg_name hN hy.1 hy.2.1 hy.2.2) pgs_nil))
theorem pg_trio {K':PySem.W.Frag}{i j m:Nat}{x y z:Str}{px py pz:Pos}(hc:X.calm=true) (hN:X.N.Nodup) (hx:Sto X i x) (hy:Sto X j y) (hz:Sto X m z) (hK:X.K=K'):PG X (.Tuple [.Name x px,.Name y py,.Name z pz] k pos) (gTup K' 3 (gCons (gName i) (gCons (gName j) (gCons (gName m) gNil)))):=
 hK▸pg_tup hc (pgs_cons (pg_name hN hx.1 hx.2.1 hx.2.2) (pgs_cons (pg_name hN hy.1 hy.2.1 hy.2.2) (pgs_cons (pg_name hN hz.1 hz.2.1 hz.2.2) pgs_nil)))
end
end L2
namespace My
open PySem PySem.Spec PyProof.Rows L2
noncomputable def wayAt (ws:List Way) (k:Int):Way:=ws.getD k.toNat ⟨0,0,[]⟩
noncomputable def InW (ws:List Way) (ns:List Int):Prop:=∀ k∈ns,0≤k∧k<ws.length
theorem at0 (x y z:V):atI [x,y,z] 0=some x:=atI_nat (j:=0) rfl
theorem at1 (x y z:V):atI [x,y,z] 1=some y:=atI_nat (j:=1) rfl
end My
namespace L2
open PySem PySem.Spec PyProof.Rows
section
variable {X:Cx}{K':PySem.W.Frag}
theorem ix_tupK (hK:X.K=K'):IxR X (rIxT K'):=hK▸ix_tup
theorem ix_listK (hK:X.K=K'):IxR X (rIxL K'):=hK▸ix_list
theorem call_len_seqK (hK:X.K=K'):CallR X (.builtin "len") (fun xs H Q=>∃ p ys,xs=[.ref p]∧(SqL K' H p ys∨SqT K' H p ys)∧Q (.int ys.length) H):=hK▸call_len_seq
end
section
variable {X:Cx}{e st:Expr}{te:TE}{ts:TO}{pos p2:Pos}
end
theorem ps_setD {X:Cx}{pos:Pos}{i:Nat}{x:Str}{e:Expr}{te:TE}{pos':Pos}(hN:X.N.Nodup) (hi:X.N[i]? = some x) (hx:Loc X.env.scope x) (he:PEs X e te) (hs:swapsWith e (some (.Name x pos')) pos.line X.env=pure false:=by rfl) (hf:X.fn x=true∨X.env.scope.names.lookup x=some .local := by first | exact .inl rfl | exact .inr rfl | assumption):PS X (.Assign [.Name x pos'] e pos) (tAsg te (gName i)):=ps_set hN hi hx he.out hs hf
end L2
namespace My
open PySem PySem.Spec PyProof.Rows L2
end My
namespace L2
open PySem PySem.Spec PyProof.Rows
section
variable {X:Cx}
end
end L2
namespace My
open PySem PySem.Spec PyProof.Rows L2
end My
namespace L2
open PySem PySem.Spec PyProof.Rows
section
variable {prog:Program}{w:World}{A:Around}{E:Value→Shared→Prop}{s:Shared}{z TI TO j1 j2 j3:Addr}{f1 f2 f3:List Addr}{n1 n2 n3 i:Nat}{P1 P2 P3:Nat→Value→Prop}{St1 St2 St3:Nat→Heap→Prop}{a b c:Value}
end
section
variable {X:Cx}{es:List Expr}{kk:Nat}{tp:Pos}
end
end L2
namespace My
open PySem PySem.Spec PyProof.Rows L2
end My
namespace L2
open PySem PySem.Spec PyProof.Rows
section
variable {X:Cx}
end
end L2
namespace My
open PySem PySem.Spec PyProof.Rows L2
noncomputable def cutD (xs:List PyData) (lo hi:Option Int):List PyData:=(xs.drop (HT.sIx xs.length 0 lo)).take (HT.sIx xs.length xs.length hi-HT.sIx xs.length 0 lo)
theorem cutD_drop (xs:List PyData) (k:Nat):cutD xs (some (k:Int)) none=xs.drop k:=by
 unfold cutD
 rw [HT.sIx_none,HT.sIx_nat]
 rcases Nat.le_total k xs.length with h | h
 · rw [Nat.min_eq_left h,List.take_of_length_le (by rw [List.length_drop];omega)]
 · rw [Nat.min_eq_right h,List.drop_of_length_le (Nat.le_refl _),List.drop_of_length_le h];simp
structure Tape (H:Hp) (p c:Addr) (n:Nat):Prop where
 ex:∃ (ns:List Int) (k g:Int),H p=some (.lst [.ref c,.int k,.int g])∧H c=some (.lst (ns.map V.int))∧ns.length≤63∧0≤k∧k≤n
theorem Tape.fresh {H:Hp}{p c l:Addr}{n:Nat}(J:Tape H p c n) (h:H l=none):l∉[p,c]:=by
 obtain ⟨ns,k,g,h1,h2,_⟩:=J.ex
 intro z
 rcases List.mem_cons.mp z with rfl | z
 · rw [h] at h1;cases h1
 · cases List.mem_singleton.mp z;rw [h] at h2;cases h2
theorem Kp.late {ex:List Addr}{H1 H2:Hp}{a:Addr}(k:Kp ex H1 H2) (h:H1 a=none) (o:HO):Kp ex H1 (upd H2 a o):=fun b v e n=>by
 rw [upd_ne (ne_of_none e h)];exact k b v e n
section
variable {X:Cx}{pos:Pos}{k:Nat}
end
end My
namespace L2
open PySem PySem.Spec PyProof.Rows
section
variable {X:Cx}
end
end L2
namespace My
open PySem PySem.Spec PyProof.Rows L2
section
variable {p c sl:Addr}{R U:Int}{ws:List Way}{bv:V}{sums:List (List Int×List Int)}{svs:List V}{H H':Hp}{n m:Nat}
end
end My
namespace L2
open PySem PySem.Spec PyProof.Rows
section
variable {P:Program}{w:World}{H H':Hp}{h h':Heap}{a:Addr}{o:HO}
end
structure Fly (P:Program) (w:World) (outer:List Env) (H:Hp) (s:Shared) (H':Hp) (ea:Addr) (cls:Value) (s':Shared):Prop where
 os:s'.os=s.os
 bare:AllBare s'.gens
 un:Un (frs outer) [] H H' s.heap s'.heap
 hok:HOk P w H' s'.heap
 fl:∃ (B:Heap) (t:Addr),(∀ b o,s'.heap.get? b=some o→((H' b).isSome=true∨∃ o₀,s.heap.get? b=some o₀)→b∉frs outer→B.get? b=some o)∧Heap.FlyingW B outer ea cls (.ref t) s'.heap
section
variable {X:Cx}{pins:List (Addr×Obj)}{σ:St}{H H':Hp}{s s':Shared}
end
section
variable {P:Program}{w:World}{K:PySem.W.Frag}{mg:Str→Option Value}{base:Heap}{N:List Str}{qual:Str}{scope:Scope}{f:Addr}{cd:Value}{A:Around}{outer:List Env}{s₀:Shared}{H₀:Hp}{E:XK}
end
open PySem PySem.Spec PyProof.Rows PySem.W Builtin Builtin.ObjectAttr Builtin.Getset_descriptor
section
variable {prog:Program}{w:World}{A:Around}{E:Value→Shared→Prop}{s:Shared}{K:PySem.W.Frag}{x D:Addr}{R:Result→Shared→Prop}
end
section
variable {P:Program}{w:World}{K:PySem.W.Frag}{mg:Str→Option Value}{base:Heap}{N:List Str}{qual:Str}{scope:Scope}{f:Addr}{cd:Value}{A:Around}{outer:List Env}{s₀:Shared}{H₀:Hp}{E:XK}
 {x:Str} {C:Addr} {e:Expr} {es:List Expr} {np cpos pos:Pos} {t:TA}
end
section
variable {P:Program}{w:World}{K:PySem.W.Frag}{mg:Str→Option Value}{base:Heap}
end
section
variable {X:Cx}{x:Str}{e:Expr}{es:List Expr}{p pos:Pos}{t:TA}{k:Nat}{ps:List Str}{sp:Sp}{E:XK}
end
noncomputable abbrev XW:=St→Value→Hp→Prop
noncomputable def XP (X:Cx) (pins:List (Addr×Obj)) (W:XW) (e:Value) (s':Shared):Prop:=∃ ea cls σ' H H' s,e = .ref ea∧Inv X pins σ' H s∧Fly X.prog X.w X.stack H s H' ea cls s'∧W σ' cls H'
noncomputable abbrev TSX:=Ends→XW→St→Hp→Prop
section
variable {X:Cx}{x y:Str}{e:Expr}{es:List Expr}{p p' pos apos:Pos}{t:TA}{k:Nat}{ps:List Str}{sp:Sp}
end
section
variable {X:Cx}{pins:List (Addr×Obj)}{σ σ0:St}{H H0:Hp}{s s0:Shared}{B h':Heap}
end
section
variable {X:Cx}{body:List Stmt}{tb:TSX}{ts:TS}{b₀:Stmt}{suite:List Stmt}{c n:Str}{C:Addr}{i:Nat}{np hpos pos:Pos}
end
open PySem PySem.Spec PyProof.Rows PySem.SeqAt
section
variable {P:Program}{w:World}{K:PySem.W.Frag}{mg:Str→Option Value}{base:Heap}
end
section
variable {X:Cx}{x:Str}{e:Expr}{es:List Expr}{p pos:Pos}{t:TA}{k:Nat}{ps:List Str}{sp:Sp}
end
structure Er where
 fall:Addr
 way:Addr
 round:Addr
 ring:Addr
 purse:Addr
 end_:Addr
 stand:Addr
 many:Addr
 line:Addr
 row:Addr
section
variable {K:PySem.W.Frag}{mg:Str→Option Value}{z:Er}
end
section
variable {X:Cx}{v:Expr}{te:TE}{a b:Str}{ja jb:Nat}{pa pb pf pos:Pos}
end
section
variable {X:Cx}{x:Str}{e:Expr}{es:List Expr}{p pos apos:Pos}{t:TA}{k:Nat}{ps:List Str}{sp:Sp}
variable {body:List Stmt}{tb:TSX}{ts:TS}{b₀:Stmt}{suite:List Stmt}{c:Str}{C:Addr}{np hpos:Pos}
end
end L2
namespace My
open PySem PySem.Spec PyProof.Rows L2
end My
namespace HT
open PySem PySem.Spec PyProof.Rows
section
variable {prog:Program}{w:World}{A:Around}{E:Value→Shared→Prop}{s:Shared}
end
end HT
namespace L2
open PySem PySem.Spec PyProof.Rows
end L2
namespace My
open PySem PySem.Spec PyProof.Rows L2
theorem sIx_none (n d:Nat):HT.sIx n d none=d:=rfl
end My
namespace L2
open PySem PySem.Spec PyProof.Rows
end L2
namespace My
open PySem PySem.Spec PyProof.Rows L2
section
variable {p c wl:Addr}{R U:Int}{ws:List Way}{bv fv hv:V}{r:Int}{xs:List Int}{Hs H H':Hp}{ns:List Int}
end
end My
namespace L2
open PySem PySem.Spec PyProof.Rows
section
variable {prog:Program}{w:World}{A:Around}{E:Value→Shared→Prop}{s:Shared}{l:Addr}{xs:Array (Int×Tok)}
end
section
variable {X:Cx}
end
end L2
namespace My
open PySem PySem.Spec PyProof.Rows L2
noncomputable def Pth (ws:List Way):Int→List Int→Int→Prop
 | a,[],b=>a=b
 | a,k::ns,b=>(0≤k∧k<ws.length)∧(wayAt ws k).a=a∧Pth ws (wayAt ws k).b ns b
theorem Pth.app {ws:List Way}:∀ {ms:List Int}{a b c:Int}{ns:List Int},Pth ws a ms b→Pth ws b ns c→Pth ws a (ms++ns) c
 | [],_,_,_,_,h,g=>by cases h;exact g
 | _::_,_,_,_,_,h,g=>⟨h.1,h.2.1,h.2.2.app g⟩
theorem Pth.inW {ws:List Way}:∀ {ms:List Int}{a b:Int},Pth ws a ms b→InW ws ms
 | [],_,_,_=>fun k hk=>by cases hk
 | k::ms,_,_,h=>fun j hj=>by
  rcases List.mem_cons.mp hj with rfl | hj
  · exact h.1
  · exact h.2.2.inW j hj
end My
namespace L2
open PySem PySem.Spec PyProof.Rows
section
variable {X:Cx}
end
end L2
namespace My
open PySem PySem.Spec PyProof.Rows L2
theorem at_snoc {α:Type}(xs:List α) (x:α):atI (xs++[x]) (-1)=some x:=by
 unfold atI ixN
 rw [List.length_append,List.length_singleton,if_neg (by omega),if_pos (by omega)]
 show (xs++[x])[(-1+((xs.length+1:Nat):Int)).toNat]? = some x
 rw [show (-1+((xs.length+1:Nat):Int)).toNat=xs.length by omega]
 simp
inductive Rt (es:List (Nat×Nat)):Nat→Nat→Prop
 | refl (a:Nat):Rt es a a
 | step {a b c:Nat}:Rt es a b→(b,c)∈es→Rt es a c
end My
namespace L2
open PySem PySem.Spec PyProof.Rows
section
variable {M:Model}{A:Around}{E:Value→Shared→Prop}{s:Shared}
end
section
variable {X:Cx}{pins:List (Addr×Obj)}{σ:St}{H:Hp}{s:Shared}{scope:Scope}{N':List Str}{k:Nat}{idx:List Nat}{sc:Scope}{N:List Str}
end
section
variable {X:Cx}{tg iter elt:Expr}{ifs:List Expr}{scope sc:Scope}{N N':List Str}{k:Nat}{idx:List Nat}{wi:TI}{g:TG}{tt:TT}{te:TE}{pos:Pos}
end
end L2
namespace My
open PySem PySem.Spec PyProof.Rows L2
inductive Vl where
 | jnk | jar | tape | d (x:PyData) | own (xs:List PyData) | dct (kvs:List (Key×PyData)) | own2 (ks:Option (List Key)) (ps:List (Addr×List PyData)) | pin (v:V) (x:PyData)
structure Src where
 jv:V
 ch:List Addr
 inv:Nat→Hp→Prop
 keep:∀ {n:Nat} {H H':Hp},inv n H→(∀ b∈ch,∀ o,H b=some o→H' b=some o)→inv n H'
 dom:∀ {n:Nat} {H:Hp},inv n H→∀ b∈ch,H b≠none
noncomputable def JarN (H:Hp) (p c:Addr) (n:Nat):Prop:=∃ e,JarE H p c e∧(n=0∨e=some ((n:Int)-1))
theorem JarN.jar {H:Hp}{p c:Addr}{n:Nat}(J:JarN H p c n):Jar H p c:=J.choose_spec.1.jar
theorem Jar.n {H:Hp}{p c:Addr}(J:Jar H p c):JarN H p c 0:=let ⟨e,h⟩:=J.e;⟨e,h,.inl rfl⟩
theorem jar_dom {H:Hp}{p c:Addr}{n:Nat}(J:JarN H p c n):∀ b∈[p,c],H b≠none:=fun b hb z=>J.jar.fresh z hb
theorem jar_keep {H H':Hp}{p c:Addr}{n:Nat}(J:JarN H p c n) (h:∀ b∈[p,c],∀ o,H b=some o→H' b=some o):JarN H' p c n:=by
 obtain ⟨e,⟨ns,r,s,t,X,h3⟩,hn⟩:=J
 exact ⟨e,⟨ns,r,s,t,⟨h _ (by simp) _ X.d,h _ (by simp) _ X.l⟩,h3⟩,hn⟩
noncomputable def Src.jar (p c:Addr):Src:=⟨.ref p,[p,c],fun n H=>JarN H p c n,fun J h=>jar_keep J h,fun J=>jar_dom J⟩
theorem tape_keep {H H':Hp}{p c:Addr}{n:Nat}(J:Tape H p c n) (h:∀ b∈[p,c],∀ o,H b=some o→H' b=some o):Tape H' p c n:=by
 obtain ⟨ns,a,g,h1,h2,h3⟩:=J.ex
 exact ⟨ns,a,g,h _ (by simp) _ h1,h _ (by simp) _ h2,h3⟩
noncomputable def Src.tape (p c:Addr):Src:=⟨.ref p,[p,c],fun n H=>Tape H p c n,fun J h=>tape_keep J h,fun J b hb z=>J.fresh z hb⟩
noncomputable def Step (S:Src) (n':Nat) (H H':Hp):Prop:=Kp S.ch H H'∧S.inv n' H'
section
variable {S:Src}{n m:Nat}{H H1 H2 H':Hp}{ex:List Addr}
theorem Step.refl (h:S.inv n H):Step S n H H:=⟨.refl,h⟩
theorem Step.trans (a:Step S n H H1) (b:Step S m H1 H2):Step S m H H2:=⟨a.1.trans b.1,b.2⟩
theorem Step.new (h:S.inv n H) (k:Kp [] H H'):Step S n H H':=⟨k.of,S.keep h fun b _ o e=>k b o e (by simp)⟩
theorem Step.then (a:Step S n H H1) (k:Kp [] H1 H2):Step S n H H2:=a.trans (.new a.2 k)
theorem Step.free {p:Addr}(a:Step S n H H1) (h:H1 p=none):H p=none:=by
 cases e:H p with
 | none=>rfl
 | some o=>
  by_cases hp:p∈S.ch
  · exact absurd h (S.dom a.2 p hp)
  · rw [a.1 p o e hp] at h;cases h
noncomputable def Alc (ex:List Addr) (H:Hp):Prop:=∀ a∈ex,H a≠none
theorem Alc.nm {p:Addr}(h:Alc ex H) (e:H p=none):p∉ex:=fun z=>h p z e
theorem Alc.step (h:Alc ex H) (k:Step S n H H'):Alc ex H':=fun a ha z=>h a ha (k.free z)
mutual
theorem Rep.add {l:Addr}(h:H l=none):∀ {d:PyData}{v:V},Rep ex H d v→Rep (l::ex) H d v
 | _,_,.none=>.none
 | _,_,.bool b=>.bool b
 | _,_,.int i=>.int i
 | _,_,.str x=>.str x
 | _,_,.tuple e n z r=>.tuple e (fun q=>(List.mem_cons.mp q).elim (fun q=>by rw [q,h] at e;cases e) n) z (Reps.add h r)
 | _,_,.list e n z r=>.list e (fun q=>(List.mem_cons.mp q).elim (fun q=>by rw [q,h] at e;cases e) n) z (Reps.add h r)
 | _,_,.obj e n k r=>.obj e (fun q=>(List.mem_cons.mp q).elim (fun q=>by rw [q,h] at e;cases e) n) k (Reps.add h r)
 | _,_,.dctf e n k r=>.dctf e (fun q=>(List.mem_cons.mp q).elim (fun q=>by rw [q,h] at e;cases e) n) k (Reps.add h r)
theorem Reps.add {l:Addr}(h:H l=none):∀ {ds:List PyData}{vs:List V},Reps ex H ds vs→Reps (l::ex) H ds vs
 | _,_,.nil=>.nil
 | _,_,.cons r t=>.cons (Rep.add h r) (Reps.add h t)
end
theorem Reps.sub {l:Addr}{d:List PyData}{v:List V}(r:Reps (l::ex) H d v):Reps ex H d v:=Reps.mono (fun b hb=>List.mem_cons_of_mem _ hb) r
end
noncomputable def exm (m:Bool) (S:Src) (ex:List Addr):List Addr:=match m with | true=>ex | false=>S.ch
noncomputable def KvR (ex:List Addr) (H:Hp) (kvs:List (Key×PyData)) (kws:List (Key×V)):Prop:=kws.map (·.1)=kvs.map (·.1)∧Reps ex H (kvs.map (·.2)) (kws.map (·.2))
noncomputable def nestO (ks:Option (List Key)) (rs:List V):HO:=match ks with
 | none=>.lst rs
 | some ks=>.dK (ks.zip rs)
structure In2 (S:Src) (ex:List Addr) (H:Hp) (p:Addr×List PyData):Prop where
 m:p.1∈ex
 c:p.1∉S.ch
 h:∃ vs,H p.1=some (.lst vs)∧vs.length≤sizeLine∧Reps ex H p.2 vs
noncomputable def refs (ps:List (Addr×List PyData)):List V:=ps.map fun p=>.ref p.1
structure Own2 (S:Src) (ex:List Addr) (H:Hp) (ks:Option (List Key)) (ps:List (Addr×List PyData)) (a:Addr):Prop where
 h:H a=some (nestO ks (refs ps))
 z:ps.length≤1000000
 k:∀ l,ks=some l→l.length=ps.length
 nd:(a::ps.map (·.1)).Nodup
 m:a∈ex
 c:a∉S.ch
 i:∀ p∈ps,In2 S ex H p
noncomputable def SlR (S:Src) (ex:List Addr) (H:Hp):Vl→Option V→Prop
 | .jnk,_=>True
 | .jar,o=>∃ p c,S=Src.jar p c∧o=some (.ref p)
 | .tape,o=>∃ p c,S=Src.tape p c∧o=some (.ref p)
 | .d x,o=>∃ v,o=some v∧Rep ex H x v
 | .own xs,o=>∃ a vs,o=some (.ref a)∧H a=some (.lst vs)∧vs.length≤sizeLine∧Reps ex H xs vs∧a∈ex∧a∉S.ch
 | .dct kvs,o=>∃ a kws,o=some (.ref a)∧H a=some (.dK kws)∧KvR ex H kvs kws∧a∈ex∧a∉S.ch
 | .own2 ks ps,o=>∃ a,o=some (.ref a)∧Own2 S ex H ks ps a
 | .pin v x,o=>o=some v∧Rep ex H x v
structure Ev (S:Src) (ex:List Addr) (env:List Vl) (σ:L2.St) (H:Hp) (n:Nat):Prop where
 len:env.length≤σ.length
 sl:∀ (i:Nat) (w:Vl),env[i]? = some w→SlR S ex H w (σ[i]?).join
 ch:∀ a∈S.ch,a∈ex
 al:Alc ex H
 inv:S.inv n H
section
variable {S:Src}{n m:Nat}{H H1 H2 H':Hp}{ex:List Addr}{env:List Vl}{σ:L2.St}
theorem SlR.kp {w:Vl}{o:Option V}(hc:∀ a∈S.ch,a∈ex) (k:Kp S.ch H H') (h:SlR S ex H w o):SlR S ex H' w o:=by
 have kx:Kp ex H H':=k.mono hc
 cases w with
 | jnk=>trivial
 | jar=>exact h
 | tape=>exact h
 | d x=>obtain ⟨v,e,r⟩:=h;exact ⟨v,e,r.keep kx⟩
 | pin v x=>obtain ⟨e,r⟩:=h;exact ⟨e,r.keep kx⟩
 | own xs=>obtain ⟨a,vs,e,h1,h2,h3,h4,h5⟩:=h;exact ⟨a,vs,e,k _ _ h1 h5,h2,h3.keep kx,h4,h5⟩
 | dct kvs=>obtain ⟨a,kws,e,h1,⟨h2,h3⟩,h4,h5⟩:=h;exact ⟨a,kws,e,k _ _ h1 h5,⟨h2,h3.keep kx⟩,h4,h5⟩
 | own2 ks ps=>obtain ⟨a,e,q⟩:=h;exact ⟨a,e,k _ _ q.h q.c,q.z,q.k,q.nd,q.m,q.c,fun p hp=>let w:=q.i p hp;⟨w.m,w.c,let ⟨vs,h1,h2,h3⟩:=w.h;⟨vs,k _ _ h1 w.c,h2,h3.keep kx⟩⟩⟩
theorem Ev.step (E:Ev S ex env σ H n) (k:Step S m H H'):Ev S ex env σ H' m:=⟨E.len,fun i w e=>(E.sl i w e).kp E.ch k.1,E.ch,E.al.step k,k.2⟩
theorem Ev.rep (E:Ev S ex env σ H n) (k:Step S m H H') {d:PyData}{v:V}(r:Rep ex H d v):Rep ex H' d v:=r.keep (k.1.mono E.ch)
theorem Ev.reps (E:Ev S ex env σ H n) (k:Step S m H H') {d:List PyData}{v:List V}(r:Reps ex H d v):Reps ex H' d v:=r.keep (k.1.mono E.ch)
theorem Ev.sub (E:Ev S ex env σ H n) (b:Bool):∀ a∈exm b S ex,a∈ex:=by
 cases b with
 | true=>exact fun a h=>h
 | false=>exact E.ch
theorem Ev.sup (E:Ev S ex env σ H n) (b:Bool):∀ a∈S.ch,a∈exm b S ex:=by
 cases b with
 | true=>exact E.ch
 | false=>exact fun a h=>h
theorem Ev.alm (E:Ev S ex env σ H n) (b:Bool):Alc (exm b S ex) H:=fun a h=>E.al a (E.sub b a h)
theorem Ev.repm (E:Ev S ex env σ H n) (b:Bool) (k:Step S m H H') {d:PyData}{v:V}(r:Rep (exm b S ex) H d v):Rep (exm b S ex) H' d v:=r.keep (k.1.mono (E.sup b))
theorem Rep.nil {d:PyData}{v:V}(r:Rep ex H d v):Rep [] H d v:=Rep.mono (fun b hb=>by cases hb) r
theorem Reps.nil' {d:List PyData}{v:List V}(r:Reps ex H d v):Reps [] H d v:=Reps.mono (fun b hb=>by cases hb) r
theorem join_some {i:Nat}{v:V}(h:(σ[i]?).join=some v):σ[i]? = some (some v):=by
 cases e:σ[i]? with
 | none=>rw [e] at h;cases h
 | some o=>rw [e] at h;cases o with
  | none=>cases h
  | some u=>cases h;rfl
end
noncomputable abbrev GE:=List Vl→Nat→(PyData→Nat→Prop)→Prop
noncomputable abbrev GT:=List Vl→Nat→(Bool→Nat→Prop)→Prop
noncomputable abbrev GA:=List Vl→Nat→(List Vl→Nat→Prop)→Prop
noncomputable abbrev GN:=List Vl→Nat→(List PyData→Nat→Prop)→Prop
noncomputable abbrev GSp:=List Vl→Nat→(PyData→Nat→Prop)→Prop
noncomputable abbrev GSn:=List Vl→Nat→(List PyData→Nat→Prop)→Prop
noncomputable def ArgsR (S:Src) (ex:List Addr) (H:Hp):List Vl→List V→Prop
 | [],[]=>True
 | a::as,v::vs=>SlR S ex H a (some v)∧ArgsR S ex H as vs
 | _,_=>False
class EV (m:Bool) (te:TE) (g:outParam GE):Prop where
 ev:∀ {S:Src} {ex:List Addr} {env:List Vl} {σ:L2.St} {H:Hp} {n:Nat} {Q:VK} {P:PyData→Nat→Prop},Ev S ex env σ H n→g env n P→(∀ d n' v H',P d n'→Step S n' H H'→Rep (exm m S ex) H' d v→Q v H')→te σ H Q
class NV (te:TE) (g:outParam GN):Prop where
 nv:∀ {S:Src} {ex:List Addr} {env:List Vl} {σ:L2.St} {H:Hp} {n:Nat} {Q:VK} {P:List PyData→Nat→Prop},Ev S ex env σ H n→g env n P→(∀ ds n' a vs H',P ds n'→Step S n' H H'→H a=none→H' a=some (.lst vs)→vs.length≤sizeLine→Reps (a::ex) H' ds vs→Q (.ref a) H')→te σ H Q
class TV (tt:TT) (g:outParam GT):Prop where
 tv:∀ {S:Src} {ex:List Addr} {env:List Vl} {σ:L2.St} {H:Hp} {n:Nat} {Q:Bool→Hp→Prop} {P:Bool→Nat→Prop},Ev S ex env σ H n→g env n P→(∀ b n' H',P b n'→Step S n' H H'→Q b H')→tt σ H Q
class AV (m:Bool) (ta:TA) (g:outParam GA):Prop where
 av:∀ {S:Src} {ex:List Addr} {env:List Vl} {σ:L2.St} {H:Hp} {n:Nat} {Q:List V→Hp→Prop} {P:List Vl→Nat→Prop},Ev S ex env σ H n→g env n P→(∀ as n' vs H',P as n'→Step S n' H H'→ArgsR S (exm m S ex) H' as vs→Q vs H')→ta σ H Q
class DV (m:Bool) (ta:TA) (g:outParam GN):Prop where
 dv:∀ {S:Src} {ex:List Addr} {env:List Vl} {σ:L2.St} {H:Hp} {n:Nat} {Q:List V→Hp→Prop} {P:List PyData→Nat→Prop},Ev S ex env σ H n→g env n P→(∀ ds n' vs H',P ds n'→Step S n' H H'→Reps (exm m S ex) H' ds vs→Q vs H')→ta σ H Q
noncomputable abbrev G2:=PyData→PyData→(PyData→Prop)→Prop
class OV (r:R2) (f:outParam G2):Prop where
 ov:∀ {ex:List Addr} {H:Hp} {x y:V} {dx dy:PyData} {Q:VK} {P:PyData→Prop},Alc ex H→Rep ex H dx x→Rep ex H dy y→f dx dy P→(∀ d v H',P d→Kp [] H H'→Rep ex H' d v→Q v H')→r x y H Q
class OS (r:R2) (f:outParam G2):Prop where
 os:∀ {H:Hp} {x y:V} {dx dy:PyData} {Q:VK} {P:PyData→Prop},Rep [] H dx x→Rep [] H dy y→f dx dy P→(∀ d v,P d→(∀ ex,Rep ex H d v)→Q v H)→r x y H Q
class ON (r:R2) (f:outParam (PyData→PyData→(List PyData→Prop)→Prop)):Prop where
 on:∀ {ex:List Addr} {H:Hp} {x y:V} {dx dy:PyData} {Q:VK} {P:List PyData→Prop},Rep ex H dx x→Rep ex H dy y→f dx dy P→(∀ ds p vs,P ds→H p=none→vs.length≤sizeLine→Reps ex H ds vs→Q (.ref p) (upd H p (.lst vs)))→r x y H Q
noncomputable abbrev G1:=List PyData→(PyData→Prop)→Prop
class CS (r:List V→Hp→VK→Prop) (f:outParam G1):Prop where
 cs:∀ {H:Hp} {xs:List V} {ds:List PyData} {Q:VK} {P:PyData→Prop},Reps [] H ds xs→f ds P→(∀ d v,P d→(∀ ex,Rep ex H d v)→Q v H)→r xs H Q
class CO (r:List V→Hp→VK→Prop) (f:outParam G1):Prop where
 co:∀ {ex:List Addr} {H:Hp} {xs:List V} {ds:List PyData} {Q:VK} {P:PyData→Prop},Alc ex H→Reps ex H ds xs→f ds P→(∀ d v H',P d→Kp [] H H'→Rep ex H' d v→Q v H')→r xs H Q
class CN (r:List V→Hp→VK→Prop) (f:outParam (List PyData→(List PyData→Prop)→Prop)):Prop where
 cn:∀ {ex:List Addr} {H:Hp} {xs:List V} {ds:List PyData} {Q:VK} {P:List PyData→Prop},Reps ex H ds xs→f ds P→(∀ es p vs,P es→H p=none→vs.length≤sizeLine→Reps ex H es vs→Q (.ref p) (upd H p (.lst vs)))→r xs H Q
noncomputable abbrev gVar (i:Nat):GE:=fun env n Q=>match env[i]? with
 | some (.d x)=>Q x n
 | some (.pin _ x)=>Q x n
 | _=>False
noncomputable abbrev gLook (i:Nat):GE:=fun env n Q=>match env[i]? with
 | some (.d x)=>Q x n
 | some (.pin _ x)=>Q x n
 | some (.own xs)=>Q (.list xs) n
 | some (.own2 none ps)=>Q (.list (ps.map fun p=>.list p.2)) n
 | _=>False
theorem own2_reps {S:Src}{ex:List Addr}{H:Hp}:∀ {ps:List (Addr×List PyData)},(∀ a∈S.ch,a∈ex)→(∀ p∈ps,In2 S ex H p)→Reps S.ch H (ps.map fun p=>PyData.list p.2) (refs ps)
 | [],_,_=>.nil
 | p::ps,hc,h=>by
  have w:=h p List.mem_cons_self
  obtain ⟨vs,h1,h2,h3⟩:=w.h
  exact .cons (.list h1 w.c h2 (Reps.mono hc h3)) (own2_reps hc fun q hq=>h q (List.mem_cons_of_mem _ hq))
noncomputable abbrev gC (d:PyData):GE:=fun _ n Q=>Q d n
section
variable {S:Src}{n m:Nat}{H H1 H2 H':Hp}{ex:List Addr}{env:List Vl}{σ:L2.St}{b:Bool}{te ta tb tc:TE}{g ga gb gc:GE}
noncomputable instance ev_var {i:Nat}:EV true (tVar i) (gVar i):=⟨fun {S ex env σ H n Q P} E h k=>by
 unfold gVar at h
 split at h
 · rename_i x e
   obtain ⟨v,ev,r⟩:=E.sl i _ e
   exact ⟨v,join_some ev,k _ _ v H h (.refl E.inv) r⟩
 · rename_i v x e
   obtain ⟨ev,r⟩:=E.sl i _ e
   exact ⟨v,join_some ev,k _ _ v H h (.refl E.inv) r⟩
 · exact h.elim⟩
noncomputable instance pv_var {i:Nat}:EV false (tVar i) (gLook i):=⟨fun {S ex env σ H n Q P} E h k=>by
 unfold gLook at h
 split at h
 · rename_i x e
   obtain ⟨v,ev,r⟩:=E.sl i _ e
   exact ⟨v,join_some ev,k _ _ v H h (.refl E.inv) (Rep.mono E.ch r)⟩
 · rename_i v x e
   obtain ⟨ev,r⟩:=E.sl i _ e
   exact ⟨v,join_some ev,k _ _ v H h (.refl E.inv) (Rep.mono E.ch r)⟩
 · rename_i xs e
   obtain ⟨a,vs,ev,h1,h2,h3,h4,h5⟩:=E.sl i _ e
   exact ⟨_,join_some ev,k _ _ _ H h (.refl E.inv) (.list h1 h5 h2 (Reps.mono E.ch h3))⟩
 · rename_i ps e
   obtain ⟨a,ev,q⟩:=E.sl i _ e
   have hs:sizeLine=16777216:=sizeLine_eq
   exact ⟨_,join_some ev,k _ _ _ H h (.refl E.inv) (.list q.h q.c (by unfold refs;rw [List.length_map];have:=q.z;omega) (own2_reps E.ch q.i))⟩
 · exact h.elim⟩
noncomputable instance ev_int {i:Int}:EV b (tC (.int i)) (gC (.int i)):=⟨fun E h k=>k _ _ _ _ h (.refl E.inv) (.int i)⟩
noncomputable instance ev_bl {i:Bool}:EV b (tC (.bl i)) (gC (.bool i)):=⟨fun E h k=>k _ _ _ _ h (.refl E.inv) (.bool i)⟩
noncomputable instance ev_str {i:Str}:EV b (tC (.str i)) (gC (.str i)):=⟨fun E h k=>k _ _ _ _ h (.refl E.inv) (.str i)⟩
noncomputable abbrev gOp (f:G2) (ga gb:GE):GE:=fun env n Q=>ga env n fun x n1=>gb env n1 fun y n2=>f x y fun d=>Q d n2
noncomputable instance ev_opS {r:R2}{f:G2} [O:OS r f] [A:EV false ta ga] [B:EV false tb gb]:EV b (tOp r ta tb) (gOp f ga gb):=⟨fun {S ex env σ H n Q P} E h k=>by
 refine A.ev E h fun x n1 v1 H1 h1 s1 r1=>B.ev (E.step s1) h1 fun y n2 v2 H2 h2 s2 r2=>?_
 exact O.os (Rep.nil ((E.step s1).repm false s2 r1)) (Rep.nil r2) h2 fun d v p r=>k _ _ _ _ p (s1.trans s2) (r _)⟩
noncomputable instance (priority:=low) ev_op {r:R2}{f:G2} [O:OV r f] [A:EV b ta ga] [B:EV b tb gb]:EV b (tOp r ta tb) (gOp f ga gb):=⟨fun {S ex env σ H n Q P} E h k=>by
 refine A.ev E h fun x n1 v1 H1 h1 s1 r1=>B.ev (E.step s1) h1 fun y n2 v2 H2 h2 s2 r2=>?_
 exact O.ov ((E.step (s1.trans s2)).alm b) ((E.step s1).repm b s2 r1) r2 h2 fun d v H' p kp r=>k _ _ _ _ p ((s1.trans s2).then kp) r⟩
noncomputable abbrev gNew (g:GN):GE:=fun env n Q=>g env n fun ds n'=>Q (.list ds) n'
noncomputable instance (priority:=low) ev_nv {g:GN} [N:NV te g]:EV b te (gNew g):=⟨fun {S ex env σ H n Q P} E h k=>
 N.nv E h fun ds n' a vs H' p st ha hl hz r=>k _ _ _ _ p st (.list hl (fun z=>E.alm b a z ha) hz (Reps.mono (fun c hc=>List.mem_cons_of_mem _ (E.sub b c hc)) r))⟩
noncomputable abbrev gOpN (f:PyData→PyData→(List PyData→Prop)→Prop) (ga gb:GE):GN:=fun env n Q=>ga env n fun x n1=>gb env n1 fun y n2=>f x y fun d=>Q d n2
theorem nv_close {S:Src}{ex:List Addr}{env:List Vl}{σ:L2.St}{H H1:Hp}{n n1:Nat}{p:Addr}{vs:List V}{ds:List PyData}(E:Ev S ex env σ H n) (s:Step S n1 H H1) (hp:H1 p=none) (r:Reps ex H1 ds vs) :
 Step S n1 H (upd H1 p (.lst vs))∧H p=none∧Reps (p::ex) (upd H1 p (.lst vs)) ds vs:=
 ⟨s.then (Kp.new hp _),s.free hp,(Reps.add hp r).keep (Kp.new hp _)⟩
noncomputable instance nv_op {r:R2}{f:PyData→PyData→(List PyData→Prop)→Prop} [O:ON r f] [A:EV true ta ga] [B:EV true tb gb]:NV (tOp r ta tb) (gOpN f ga gb):=⟨fun {S ex env σ H n Q P} E h k=>by
 refine A.ev E h fun x n1 v1 H1 h1 s1 r1=>B.ev (E.step s1) h1 fun y n2 v2 H2 h2 s2 r2=>?_
 refine O.on ((E.step s1).repm true s2 r1) r2 h2 fun ds p vs pp hp hz r=>?_
 obtain ⟨c1,c2,c3⟩:=nv_close E (s1.trans s2) hp r
 exact k _ _ _ _ _ pp c1 c2 upd_same hz c3⟩
noncomputable abbrev gNilA:GA:=fun _ n Q=>Q [] n
noncomputable abbrev gArg (i:Nat) (rest:GA):GA:=fun env n Q=>match env[i]? with
 | some (.d x)=>rest env n fun as n'=>Q (.d x::as) n'
 | some .jar=>rest env n fun as n'=>Q (.jar::as) n'
 | some .tape=>rest env n fun as n'=>Q (.tape::as) n'
 | _=>False
noncomputable abbrev gArgL (i:Nat) (rest:GA):GA:=fun env n Q=>match env[i]? with
 | some (.d x)=>rest env n fun as n'=>Q (.d x::as) n'
 | some (.own xs)=>rest env n fun as n'=>Q (.d (.list xs)::as) n'
 | some (.own2 none ps)=>rest env n fun as n'=>Q (.d (.list (ps.map fun p=>.list p.2))::as) n'
 | some .jar=>rest env n fun as n'=>Q (.jar::as) n'
 | some .tape=>rest env n fun as n'=>Q (.tape::as) n'
 | _=>False
noncomputable abbrev gConsA (g:GE) (rest:GA):GA:=fun env n Q=>g env n fun d n1=>rest env n1 fun as n2=>Q (.d d::as) n2
noncomputable abbrev gNilD:GN:=fun _ n Q=>Q [] n
noncomputable abbrev gConsD (g:GE) (rest:GN):GN:=fun env n Q=>g env n fun d n1=>rest env n1 fun as n2=>Q (d::as) n2
noncomputable instance av_nil:AV b tNil gNilA:=⟨fun E h k=>k _ _ _ _ h (.refl E.inv) trivial⟩
noncomputable instance (priority:=low) av_cons {t:TA}{gt:GA} [A:EV b te g] [B:AV b t gt]:AV b (tCons te t) (gConsA g gt):=⟨fun {S ex env σ H n Q P} E h k=>
 A.ev E h fun x n1 v1 H1 h1 s1 r1=>B.av (E.step s1) h1 fun as n2 vs H2 h2 s2 r2=>k _ _ _ _ h2 (s1.trans s2) ⟨⟨_,rfl,(E.step s1).repm b s2 r1⟩,r2⟩⟩
noncomputable instance av_var {t:TA}{gt:GA}{i:Nat} [B:AV true t gt]:AV true (tCons (tVar i) t) (gArg i gt):=⟨fun {S ex env σ H n Q P} E h k=>by
 unfold gArg at h
 split at h
 · rename_i x e
   obtain ⟨v,ev,r⟩:=E.sl i _ e
   exact ⟨v,join_some ev,B.av E h fun as n2 vs H2 h2 s2 r2=>k _ _ _ _ h2 s2 ⟨⟨_,rfl,E.repm true s2 r⟩,r2⟩⟩
 · rename_i e
   obtain ⟨p,c,hS,ev⟩:=E.sl i _ e
   exact ⟨_,join_some ev,B.av E h fun as n2 vs H2 h2 s2 r2=>k _ _ _ _ h2 s2 ⟨⟨p,c,hS,rfl⟩,r2⟩⟩
 · rename_i e
   obtain ⟨p,c,hS,ev⟩:=E.sl i _ e
   exact ⟨_,join_some ev,B.av E h fun as n2 vs H2 h2 s2 r2=>k _ _ _ _ h2 s2 ⟨⟨p,c,hS,rfl⟩,r2⟩⟩
 · exact h.elim⟩
noncomputable instance av_look {t:TA}{gt:GA}{i:Nat} [B:AV false t gt]:AV false (tCons (tVar i) t) (gArgL i gt):=⟨fun {S ex env σ H n Q P} E h k=>by
 unfold gArgL at h
 split at h
 · rename_i x e
   obtain ⟨v,ev,r⟩:=E.sl i _ e
   exact ⟨v,join_some ev,B.av E h fun as n2 vs H2 h2 s2 r2=>k _ _ _ _ h2 s2 ⟨⟨_,rfl,E.repm false s2 (Rep.mono E.ch r)⟩,r2⟩⟩
 · rename_i xs e
   obtain ⟨a,vs,ev,h1,h2,h3,h4,h5⟩:=E.sl i _ e
   exact ⟨_,join_some ev,B.av E h fun as n2 vs' H2 hh s2 r2=>k _ _ _ _ hh s2 ⟨⟨_,rfl,E.repm false s2 (.list h1 h5 h2 (Reps.mono E.ch h3))⟩,r2⟩⟩
 · rename_i ps e
   obtain ⟨a,ev,q⟩:=E.sl i _ e
   exact ⟨_,join_some ev,B.av E h fun as n2 vs' H2 hh s2 r2=>k _ _ _ _ hh s2 ⟨⟨_,rfl,E.repm false s2 (.list q.h q.c (by unfold refs;rw [List.length_map,sizeLine_eq];have:=q.z;omega) (own2_reps E.ch q.i))⟩,r2⟩⟩
 · rename_i e
   obtain ⟨p,c,hS,ev⟩:=E.sl i _ e
   exact ⟨_,join_some ev,B.av E h fun as n2 vs H2 h2 s2 r2=>k _ _ _ _ h2 s2 ⟨⟨p,c,hS,rfl⟩,r2⟩⟩
 · rename_i e
   obtain ⟨p,c,hS,ev⟩:=E.sl i _ e
   exact ⟨_,join_some ev,B.av E h fun as n2 vs H2 h2 s2 r2=>k _ _ _ _ h2 s2 ⟨⟨p,c,hS,rfl⟩,r2⟩⟩
 · exact h.elim⟩
noncomputable instance dv_nil:DV b tNil gNilD:=⟨fun E h k=>k _ _ _ _ h (.refl E.inv) .nil⟩
noncomputable instance dv_cons {t:TA}{gt:GN} [A:EV b te g] [B:DV b t gt]:DV b (tCons te t) (gConsD g gt):=⟨fun {S ex env σ H n Q P} E h k=>
 A.ev E h fun x n1 v1 H1 h1 s1 r1=>B.dv (E.step s1) h1 fun as n2 vs H2 h2 s2 r2=>k _ _ _ _ h2 (s1.trans s2) (.cons ((E.step s1).repm b s2 r1) r2)⟩
noncomputable abbrev gTupD (t:GN):GE:=fun env n Q=>t env n fun ds n1=>ds.length≤sizeLine∧Q (.tuple ds) n1
noncomputable abbrev gLstD (t:GN):GN:=fun env n Q=>t env n fun ds n1=>ds.length≤sizeLine∧Q ds n1
noncomputable instance ev_tup {t:TA}{gt:GN} [A:DV b t gt]:EV b (tTup t) (gTupD gt):=⟨fun {S ex env σ H n Q P} E h k=>
 A.dv E h fun ds n1 vs H1 h1 s1 r1=>⟨by rw [← r1.length];exact h1.1,fun p hp=>k _ _ _ _ h1.2 (s1.then (Kp.new hp _)) (.tuple upd_same ((E.step s1).alm b |>.nm hp) (by rw [← r1.length];exact h1.1) (r1.keep (Kp.new hp _)))⟩⟩
noncomputable instance nv_lst {t:TA}{gt:GN} [A:DV true t gt]:NV (tLst t) (gLstD gt):=⟨fun {S ex env σ H n Q P} E h k=>
 A.dv E h fun ds n1 vs H1 h1 s1 r1=>⟨by rw [← r1.length];exact h1.1,fun p hp=>by
  obtain ⟨c1,c2,c3⟩:=nv_close E s1 hp r1
  exact k _ _ _ _ _ h1.2 c1 c2 upd_same (by rw [← r1.length];exact h1.1) c3⟩⟩
noncomputable abbrev gCB (f:G1) (t:GN):GE:=fun env n Q=>t env n fun ds n1=>f ds fun d=>Q d n1
noncomputable abbrev gCBN (f:List PyData→(List PyData→Prop)→Prop) (t:GN):GN:=fun env n Q=>t env n fun ds n1=>f ds fun d=>Q d n1
noncomputable instance ev_cs {r:List V→Hp→VK→Prop}{f:G1}{t:TA}{gt:GN} [C:CS r f] [A:DV false t gt]:EV b (tCB r t) (gCB f gt):=⟨fun {S ex env σ H n Q P} E h k=>
 A.dv E h fun ds n1 vs H1 h1 s1 r1=>C.cs (Reps.nil' r1) h1 fun d v p r=>k _ _ _ _ p s1 (r _)⟩
noncomputable instance (priority:=low) ev_co {r:List V→Hp→VK→Prop}{f:G1}{t:TA}{gt:GN} [C:CO r f] [A:DV b t gt]:EV b (tCB r t) (gCB f gt):=⟨fun {S ex env σ H n Q P} E h k=>
 A.dv E h fun ds n1 vs H1 h1 s1 r1=>C.co ((E.step s1).alm b) r1 h1 fun d v H' p kp r=>k _ _ _ _ p (s1.then kp) r⟩
noncomputable instance nv_cn {r:List V→Hp→VK→Prop}{f:List PyData→(List PyData→Prop)→Prop}{t:TA}{gt:GN} [C:CN r f] [A:DV true t gt]:NV (tCB r t) (gCBN f gt):=⟨fun {S ex env σ H n Q P} E h k=>
 A.dv E h fun ds n1 vs H1 h1 s1 r1=>C.cn r1 h1 fun es p ws pp hp hz r=>by
  obtain ⟨c1,c2,c3⟩:=nv_close E s1 hp r
  exact k _ _ _ _ _ pp c1 c2 upd_same hz c3⟩
noncomputable def liftV (sp:GSp):Sp:=fun vs H Q _=>∃ (S:Src) (ex:List Addr) (as:List Vl) (n:Nat) (P:PyData→Nat→Prop),ArgsR S ex H as vs∧(∀ a∈S.ch,a∈ex)∧Alc ex H∧S.inv n H∧sp as n P∧∀ d n' v H',P d n'→Step S n' H H'→Rep ex H' d v→Q v H'
noncomputable def liftN (sp:GSn):Sp:=fun vs H Q _=>∃ (S:Src) (ex:List Addr) (as:List Vl) (n:Nat) (P:List PyData→Nat→Prop),ArgsR S ex H as vs∧(∀ a∈S.ch,a∈ex)∧Alc ex H∧S.inv n H∧sp as n P∧∀ ds n' a ws H',P ds n'→Step S n' H H'→H a=none→H' a=some (.lst ws)→ws.length≤sizeLine→Reps (a::ex) H' ds ws→Q (.ref a) H'
noncomputable def scalD:PyData→Bool
 | .none | .bool _ | .int _ | .str _=>true
 | _=>false
theorem scal_rep {d:PyData}{v:V}(h:scalD d=true) (r:Rep ex H d v):∀ ex',Rep ex' H d v:=fun ex'=>by
 cases r with
 | none=>exact .none
 | bool b=>exact .bool b
 | int i=>exact .int i
 | str x=>exact .str x
 | tuple=>cases h
 | list=>cases h
 | obj=>cases h
 | dctf=>cases h
class Scal (sp:GSp):Prop where
 sc:∀ {as:List Vl} {n:Nat} {P:PyData→Nat→Prop},sp as n P→sp as n fun d n'=>scalD d=true∧P d n'
noncomputable abbrev gCall (sp:GSp) (ga:GA):GE:=fun env n Q=>ga env n fun as n1=>sp as n1 Q
noncomputable abbrev gCallN (sp:GSn) (ga:GA):GN:=fun env n Q=>ga env n fun as n1=>sp as n1 Q
noncomputable instance ev_callS {sp:GSp}{E':XK}{t:TA}{gt:GA} [Z:Scal sp] [A:AV false t gt]:EV b (tCall (liftV sp) [] E' t) (gCall sp gt):=⟨fun {S ex env σ H n Q P} E h k=>
 A.av E h fun as n1 vs H1 h1 s1 r1=>by
  rw [List.append_nil]
  exact ⟨S,S.ch,as,n1,_,r1,fun _ h=>h,fun a ha=>(E.step s1).al a (E.ch a ha),s1.2,Z.sc h1,fun d n' v H' p s2 r=>k _ _ _ _ p.2 (s1.trans s2) (scal_rep p.1 r _)⟩⟩
noncomputable instance (priority:=low) ev_call {sp:GSp}{E':XK}{t:TA}{gt:GA} [A:AV b t gt]:EV b (tCall (liftV sp) [] E' t) (gCall sp gt):=⟨fun {S ex env σ H n Q P} E h k=>
 A.av E h fun as n1 vs H1 h1 s1 r1=>by
  rw [List.append_nil]
  exact ⟨S,exm b S ex,as,n1,_,r1,E.sup b,(E.step s1).alm b,s1.2,h1,fun d n' v H' p s2 r=>k _ _ _ _ p (s1.trans s2) r⟩⟩
noncomputable instance nv_call {sp:GSn}{E':XK}{t:TA}{gt:GA} [A:AV true t gt]:NV (tCall (liftN sp) [] E' t) (gCallN sp gt):=⟨fun {S ex env σ H n Q P} E h k=>
 A.av E h fun as n1 vs H1 h1 s1 r1=>by
  rw [List.append_nil]
  exact ⟨S,ex,as,n1,_,r1,E.ch,(E.step s1).al,s1.2,h1,fun ds n' a ws H' p s2 ha hl hz r=>k _ _ _ _ _ p (s1.trans s2) (s1.free ha) hl hz r⟩⟩
noncomputable abbrev gTest (g:GE):GT:=fun env n Q=>g env n fun d n1=>match d with
 | .bool c=>Q c n1
 | _=>False
theorem bool_inv {d:PyData}{n:Nat}{Q:Bool→Nat→Prop}{v:V}(h:match d with | .bool c=>Q c n | _=>False) (r:Rep ex H d v):∃ c,v = .bl c∧Q c n:=by
 cases r with
 | bool c=>exact ⟨c,rfl,h⟩
 | none=>exact h.elim
 | obj=>exact h.elim
 | dctf=>exact h.elim
 | int=>exact h.elim
 | str=>exact h.elim
 | tuple=>exact h.elim
 | list=>exact h.elim
noncomputable instance tv_test [A:EV false te g]:TV (tTest te) (gTest g):=⟨fun {S ex env σ H n Q P} E h k=>A.ev E h fun d n1 v H1 h1 s1 r1=>by
 obtain ⟨c,e,q⟩:=bool_inv h1 r1
 exact ⟨c,e,k _ _ _ q s1⟩⟩
noncomputable instance tv_b [A:EV false te g]:TV (tB te) (gTest g):=⟨fun {S ex env σ H n Q P} E h k=>A.ev E h fun d n1 v H1 h1 s1 r1=>by
 obtain ⟨c,e,q⟩:=bool_inv h1 r1
 exact ⟨c,e,k _ _ _ q s1⟩⟩
noncomputable abbrev gAnd (a b:GT):GT:=fun env n Q=>a env n fun c n1=>if c=true then b env n1 Q else Q false n1
noncomputable abbrev gOr (a b:GT):GT:=fun env n Q=>a env n fun c n1=>if c=true then Q true n1 else b env n1 Q
noncomputable abbrev gNot (a:GT):GT:=fun env n Q=>a env n fun c n1=>Q (!c) n1
noncomputable instance tv_and {t u:TT}{gt gu:GT} [A:TV t gt] [B:TV u gu]:TV (tAnd t u) (gAnd gt gu):=⟨fun {S ex env σ H n Q P} E h k=>A.tv E h fun c n1 H1 h1 s1=>by
 cases c with
 | true=>exact B.tv (E.step s1) h1 fun c n2 H2 h2 s2=>k _ _ _ h2 (s1.trans s2)
 | false=>exact k _ _ _ h1 s1⟩
noncomputable instance tv_or {t u:TT}{gt gu:GT} [A:TV t gt] [B:TV u gu]:TV (tOr t u) (gOr gt gu):=⟨fun {S ex env σ H n Q P} E h k=>A.tv E h fun c n1 H1 h1 s1=>by
 cases c with
 | false=>exact B.tv (E.step s1) h1 fun c n2 H2 h2 s2=>k _ _ _ h2 (s1.trans s2)
 | true=>exact k _ _ _ h1 s1⟩
noncomputable instance tv_not {t:TT}{gt:GT} [A:TV t gt]:TV (tNot t) (gNot gt):=⟨fun {S ex env σ H n Q P} E h k=>A.tv E h fun c n1 H1 h1 s1=>k _ _ _ h1 s1⟩
noncomputable instance tv_noTest:TV tNoTest (fun _ n Q=>Q true n):=⟨fun {S ex env σ H n Q P} E h k=>k _ _ _ h (.refl E.inv)⟩
noncomputable abbrev gIf (t:GT) (a b:GE):GE:=fun env n Q=>t env n fun c n1=>if c=true then a env n1 Q else b env n1 Q
noncomputable instance ev_if {t:TT}{gt:GT} [T:TV t gt] [A:EV b ta ga] [B:EV b tb gb]:EV b (tIf t ta tb) (gIf gt ga gb):=⟨fun {S ex env σ H n Q P} E h k=>T.tv E h fun c n1 H1 h1 s1=>by
 cases c with
 | true=>exact A.ev (E.step s1) h1 fun d n2 v H2 h2 s2 r=>k _ _ _ _ h2 (s1.trans s2) r
 | false=>exact B.ev (E.step s1) h1 fun d n2 v H2 h2 s2 r=>k _ _ _ _ h2 (s1.trans s2) r⟩
noncomputable abbrev gAndV (a b:GE):GE:=fun env n Q=>a env n fun d n1=>match d with
 | .bool c=>if c=true then b env n1 Q else Q (.bool false) n1
 | _=>False
noncomputable abbrev gOrV (a b:GE):GE:=fun env n Q=>a env n fun d n1=>match d with
 | .bool c=>if c=true then Q (.bool true) n1 else b env n1 Q
 | _=>False
noncomputable abbrev gNotV (a:GE):GE:=fun env n Q=>a env n fun d n1=>match d with
 | .bool c=>Q (.bool (!c)) n1
 | _=>False
noncomputable instance ev_andV [A:EV false ta ga] [B:EV b tb gb]:EV b (tAndV ta tb) (gAndV ga gb):=⟨fun {S ex env σ H n Q P} E h k=>A.ev E h fun d n1 v H1 h1 s1 r1=>by
 obtain ⟨c,e,q⟩:=bool_inv (Q:=fun c n1=>if c=true then gb env n1 P else P (.bool false) n1) h1 r1
 refine ⟨c,e,?_⟩
 cases c with
 | true=>exact B.ev (E.step s1) q fun d n2 v H2 h2 s2 r=>k _ _ _ _ h2 (s1.trans s2) r
 | false=>exact k _ _ _ _ q s1 (.bool _)⟩
noncomputable instance ev_orV [A:EV false ta ga] [B:EV b tb gb]:EV b (tOrV ta tb) (gOrV ga gb):=⟨fun {S ex env σ H n Q P} E h k=>A.ev E h fun d n1 v H1 h1 s1 r1=>by
 obtain ⟨c,e,q⟩:=bool_inv (Q:=fun c n1=>if c=true then P (.bool true) n1 else gb env n1 P) h1 r1
 refine ⟨c,e,?_⟩
 cases c with
 | false=>exact B.ev (E.step s1) q fun d n2 v H2 h2 s2 r=>k _ _ _ _ h2 (s1.trans s2) r
 | true=>exact k _ _ _ _ q s1 (.bool _)⟩
noncomputable instance ev_notV [A:EV false ta ga]:EV b (tNotV ta) (gNotV ga):=⟨fun {S ex env σ H n Q P} E h k=>A.ev E h fun d n1 v H1 h1 s1 r1=>by
 obtain ⟨c,e,q⟩:=bool_inv (Q:=fun c n1=>P (.bool (!c)) n1) h1 r1
 exact ⟨c,e,k _ _ _ _ q s1 (.bool _)⟩⟩
noncomputable abbrev gUn (f:PyData→(PyData→Prop)→Prop) (a:GE):GE:=fun env n Q=>a env n fun d n1=>f d fun e=>Q e n1
noncomputable abbrev fU (f:Int→V):PyData→(PyData→Prop)→Prop:=fun d Q=>match d with
 | .int i=>(match f i with | .int k=>Q (.int k) | _=>False)
 | _=>False
noncomputable instance ev_unI {f:Int→V} [A:EV false ta ga]:EV b (tUn (rU f) ta) (gUn (fU f) ga):=⟨fun {S ex env σ H n Q P} E h k=>A.ev E h fun d n1 v H1 h1 s1 r1=>by
 cases r1 with
 | int i=>
  unfold fU at h1
  refine ⟨i,rfl,?_⟩
  dsimp only at h1
  split at h1
  · rename_i j e;rw [e];exact k _ _ _ _ h1 s1 (.int _)
  · exact h1.elim
 | none=>exact h1.elim
 | obj=>exact h1.elim
 | dctf=>exact h1.elim
 | bool=>exact h1.elim
 | str=>exact h1.elim
 | tuple=>exact h1.elim
 | list=>exact h1.elim⟩
end
noncomputable abbrev ofV:V→(PyData→Prop)→Prop
 | .int k,Q=>Q (.int k)
 | .bl c,Q=>Q (.bool c)
 | .str s,Q=>Q (.str s)
 | .non,Q=>Q .none
 | _,_=>False
theorem ofV_rep {v:V}{P:PyData→Prop}{H:Hp}(h:ofV v P):∃ d,P d∧∀ ex,Rep ex H d v:=by
 cases v with
 | int k=>exact ⟨_,h,fun _=>.int k⟩
 | bl k=>exact ⟨_,h,fun _=>.bool k⟩
 | str k=>exact ⟨_,h,fun _=>.str k⟩
 | non=>exact ⟨_,h,fun _=>.none⟩
 | byt _=>exact h.elim
 | flt _=>exact h.elim
 | ref _=>exact h.elim
 | ty _=>exact h.elim
noncomputable abbrev fI0 (f:Int→Int→V):G2:=fun x y Q=>match x,y with
 | .int i,.int j=>ofV (f i j) Q
 | _,_=>False
noncomputable abbrev fI (C:Int→Int→Prop) (f:Int→Int→V):G2:=fun x y Q=>match x,y with
 | .int i,.int j=>C i j∧ofV (f i j) Q
 | _,_=>False
theorem ints_inv {ex:List Addr}{H:Hp}{dx dy:PyData}{x y:V}{A:Int→Int→Prop}(h:match dx,dy with | .int i,.int j=>A i j | _,_=>False) (r1:Rep ex H dx x) (r2:Rep ex H dy y):∃ i j,x = .int i∧y = .int j∧A i j:=by
 split at h
 · cases r1;cases r2;exact ⟨_,_,rfl,rfl,h⟩
 · exact h.elim
noncomputable instance os_I0 {f:Int→Int→V}:OS (rI0 f) (fI0 f):=⟨fun {H x y dx dy Q P} r1 r2 h k=>by
 obtain ⟨i,j,rfl,rfl,h⟩:=ints_inv (A:=fun i j=>ofV (f i j) P) h r1 r2
 obtain ⟨d,p,r⟩:=ofV_rep (H:=H) h
 exact ⟨i,j,rfl,rfl,k _ _ p r⟩⟩
noncomputable instance os_I {C:Int→Int→Prop}{f:Int→Int→V}:OS (rI C f) (fI C f):=⟨fun {H x y dx dy Q P} r1 r2 h k=>by
 obtain ⟨i,j,rfl,rfl,hc,h⟩:=ints_inv (A:=fun i j=>C i j∧ofV (f i j) P) h r1 r2
 obtain ⟨d,p,r⟩:=ofV_rep (H:=H) h
 exact ⟨i,j,rfl,rfl,hc,k _ _ p r⟩⟩
noncomputable def eqS:PyData→PyData→Option Bool
 | .int i,.int j=>some (decide (i=j))
 | .str a,.str b=>some (decide (a=b))
 | .bool a,.bool b=>some (decide (a=b))
 | .none,.none=>some true
 | .none,.int _ | .none,.bool _ | .none,.str _ | .int _,.none | .bool _,.none | .str _,.none=>some false
 | .int _,.str _ | .str _,.int _ | .bool _,.str _ | .str _,.bool _=>some false
 | _,_=>none
noncomputable def fEq (neg:Bool):G2:=fun x y Q=>match eqS x y with
 | some c=>Q (.bool (if neg then !c else c))
 | none=>False
theorem eqS_ok {ex:List Addr}{H:Hp}{dx dy:PyData}{x y:V}{c:Bool}(h:eqS dx dy=some c) (r1:Rep ex H dx x) (r2:Rep ex H dy y):scal x y=true∧decide (x=y)=c:=by
 cases r1<;>cases r2<;>simp [eqS] at h<;>subst h<;>simp [scal]
noncomputable instance os_eq:OS rEq (fEq false):=⟨fun {H x y dx dy Q P} r1 r2 h k=>by
 unfold fEq at h
 split at h
 · rename_i c e
   obtain ⟨h1,h2⟩:=eqS_ok e r1 r2
   exact ⟨h1,by rw [h2];exact k _ _ h fun _=>.bool _⟩
 · exact h.elim⟩
noncomputable instance os_ne:OS rNe (fEq true):=⟨fun {H x y dx dy Q P} r1 r2 h k=>by
 unfold fEq at h
 split at h
 · rename_i c e
   obtain ⟨h1,h2⟩:=eqS_ok e r1 r2
   exact ⟨h1,by rw [h2];exact k _ _ h fun _=>.bool _⟩
 · exact h.elim⟩
noncomputable def EqOk (x y:PyData):Prop:=x.canLay0=true∧y.canLay0=true∧min x.depth y.depth≤50
noncomputable def fEqD (neg:Bool):G2:=fun x y Q=>EqOk x y∧Q (.bool (if neg then !PyData.eqv x y else PyData.eqv x y))
noncomputable instance os_eqD:OS rEqD (fEqD false):=⟨fun {H x y dx dy Q P} r1 r2 h k=>⟨[],dx,dy,r1,r2,h.1.1,h.1.2.1,h.1.2.2,k _ _ h.2 fun _=>.bool _⟩⟩
noncomputable instance os_neD:OS rNeD (fEqD true):=⟨fun {H x y dx dy Q P} r1 r2 h k=>⟨[],dx,dy,r1,r2,h.1.1,h.1.2.1,h.1.2.2,k _ _ h.2 fun _=>.bool _⟩⟩
noncomputable def isNone:PyData→Bool
 | .none=>true
 | _=>false
noncomputable abbrev fIsB (neg:Bool):G2:=fun x y Q=>match x,y with
 | .bool a,.bool c=>Q (.bool (if neg then !(a==c) else a==c))
 | _,_=>False
noncomputable instance os_isnotB:OS (fun x y H Q=>∃ a b,x = .bl a∧y = .bl b∧Q (.bl (!(a==b))) H) (fIsB true):=⟨fun {H x y dx dy Q P} r1 r2 h k=>by
 unfold fIsB at h
 split at h
 · cases r1;cases r2;exact ⟨_,_,rfl,rfl,k _ _ h fun _=>.bool _⟩
 · exact h.elim⟩
noncomputable def inD (x:PyData) (xs:List PyData):Bool:=xs.any fun y=>PyData.eqv y x
noncomputable def fIn (neg:Bool):G2:=fun x y Q=>match y with
 | .list xs=>scalD x=true∧xs.all scalD=true∧Q (.bool (if neg then !inD x xs else inD x xs))
 | .tuple xs=>scalD x=true∧xs.all scalD=true∧Q (.bool (if neg then !inD x xs else inD x xs))
 | _=>False
theorem flat_ok {ex:List Addr}{H:Hp}{d:PyData}{v:V}(r:Rep ex H d v) (h:scalD d=true):flatV v=true:=by
 cases r<;>first | rfl | cases h
theorem flat_all {ex:List Addr}{H:Hp}:∀ {ds:List PyData}{vs:List V},Reps ex H ds vs→ds.all scalD=true→vs.all flatV=true
 | _,_,.nil,_=>rfl
 | _,_,.cons r t,h=>by
  simp only [List.all_cons,Bool.and_eq_true] at h ⊢
  exact ⟨flat_ok r h.1,flat_all t h.2⟩
theorem eqv_ok {ex:List Addr}{H:Hp}{d e:PyData}{v w:V}(r:Rep ex H d v) (s:Rep ex H e w) (h:scalD d=true) (g:scalD e=true):eqV v w=PyData.eqv d e:=by
 cases r<;>cases s<;>first | rfl | (cases h;done) | (cases g;done) | simp [eqV,PyData.eqv]
theorem in_ok {ex:List Addr}{H:Hp}{d:PyData}{v:V}(r:Rep ex H d v) (h:scalD d=true):∀ {ds:List PyData}{vs:List V},Reps ex H ds vs→ds.all scalD=true→inV v vs=inD d ds
 | _,_,.nil,_=>rfl
 | _,_,.cons s t,g=>by
  simp only [List.all_cons,Bool.and_eq_true] at g
  have:=in_ok r h t g.2
  unfold inV inD at this ⊢
  rw [List.any_cons,List.any_cons,this,eqv_ok s r g.1 h]
noncomputable instance os_in {K:PySem.W.Frag}{neg:Bool}:OS (rIn K neg) (fIn neg):=⟨fun {H x y dx dy Q P} r1 r2 h k=>by
 cases r2 with
 | list e _ _ rs=>exact ⟨_,_,rfl,.inl (SqL.of e),flat_ok r1 h.1,flat_all rs h.2.1,by rw [in_ok r1 h.1 rs h.2.1];exact k _ _ h.2.2 fun _=>.bool _⟩
 | tuple e _ _ rs=>exact ⟨_,_,rfl,.inr (SqT.of e),flat_ok r1 h.1,flat_all rs h.2.1,by rw [in_ok r1 h.1 rs h.2.1];exact k _ _ h.2.2 fun _=>.bool _⟩
 | none=>exact h.elim
 | obj=>exact h.elim
 | dctf=>exact h.elim
 | bool=>exact h.elim
 | int=>exact h.elim
 | str=>exact h.elim⟩
theorem reps_at {ex:List Addr}{H:Hp}{ds:List PyData}{vs:List V}{i:Int}{d:PyData}(r:Reps ex H ds vs) (h:atI ds i=some d):∃ v,atI vs i=some v∧Rep ex H d v:=by
 unfold atI at h ⊢
 rw [← r.length]
 cases e:ixN ds.length i with
 | none=>rw [e] at h;cases h
 | some j=>rw [e] at h;exact r.get h
noncomputable abbrev fIxL:G2:=fun x y Q=>match x,y with
 | .list xs,.int i=>∃ d,atI xs i=some d∧Q d
 | _,_=>False
noncomputable abbrev fIxT:G2:=fun x y Q=>match x,y with
 | .tuple xs,.int i=>∃ d,atI xs i=some d∧Q d
 | _,_=>False
noncomputable instance ov_ixL {K:PySem.W.Frag}:OV (rIxL K) fIxL:=⟨fun {ex H x y dx dy Q P} al r1 r2 h k=>by
 unfold fIxL at h
 split at h
 · obtain ⟨d,e,p⟩:=h
   cases r2
   cases r1 with
   | list e1 _ _ rs=>
    obtain ⟨v,ev,r⟩:=reps_at rs e
    exact ⟨_,_,_,v,rfl,rfl,SqL.of e1,ev,k _ _ _ p .refl r⟩
 · exact h.elim⟩
noncomputable instance ov_ixT {K:PySem.W.Frag}:OV (rIxT K) fIxT:=⟨fun {ex H x y dx dy Q P} al r1 r2 h k=>by
 unfold fIxT at h
 split at h
 · obtain ⟨d,e,p⟩:=h
   cases r2
   cases r1 with
   | tuple e1 _ _ rs=>
    obtain ⟨v,ev,r⟩:=reps_at rs e
    exact ⟨_,_,_,v,rfl,rfl,SqT.of e1,ev,k _ _ _ p .refl r⟩
 · exact h.elim⟩
noncomputable abbrev gIxO (i:Nat) (gb:GE):GE:=fun env n Q=>match env[i]? with
 | some (.own xs)=>gb env n fun y n1=>fIxL (.list xs) y fun d=>Q d n1
 | some (.d x)=>gb env n fun y n1=>fIxL x y fun d=>Q d n1
 | _=>False
noncomputable instance (priority:=high) ev_ixO {K:PySem.W.Frag}{i:Nat}{tb:TE}{gb:GE} [B:EV true tb gb]:EV true (tOp (rIxL K) (tVar i) tb) (gIxO i gb):=⟨fun {S ex env σ H n Q P} E h k=>by
 unfold gIxO at h
 split at h
 · rename_i xs e
   obtain ⟨a,vs,ev,h1,h2,h3,h4,h5⟩:=E.sl i _ e
   refine ⟨_,join_some ev,B.ev E h fun y n1 v1 H1 hh s1 r1=>?_⟩
   cases r1 with
   | int j=>
    obtain ⟨d,ed,p⟩:=hh
    obtain ⟨v,ev2,r⟩:=reps_at (E.reps s1 h3) ed
    exact ⟨_,_,_,v,rfl,rfl,SqL.of (s1.1 _ _ h1 h5),ev2,k _ _ _ _ p s1 r⟩
   | none=>exact hh.elim
   | obj=>exact hh.elim
   | dctf=>exact hh.elim
   | bool=>exact hh.elim
   | str=>exact hh.elim
   | tuple=>exact hh.elim
   | list=>exact hh.elim
 · rename_i x e
   obtain ⟨v,ev,r⟩:=E.sl i _ e
   refine ⟨v,join_some ev,B.ev E h fun y n1 v1 H1 hh s1 r1=>?_⟩
   exact (ov_ixL (K:=K)).ov (E.step s1).al (E.rep s1 r) r1 hh fun d v H' p kp r=>k _ _ _ _ p (s1.then kp) r
 · exact h.elim⟩
noncomputable instance on_rep:ON rRep (fun x y Q=>match x,y with | .list xs,.int k=>(-(2^63)≤k∧k<2^63∧xs.length*k.toNat≤sizeLine)∧Q (List.replicate k.toNat xs).flatten | _,_=>False):=⟨fun {ex H x y dx dy Q P} r1 r2 h k=>by
 split at h
 · cases r1 with
   | list e1 _ _ rs=>
    cases r2
    have l1:=rs.length
    refine ⟨_,_,_,rfl,rfl,e1,h.1.1,h.1.2.1,by rw [← l1];exact h.1.2.2,fun p hp=>k _ p _ h.2 hp ?_ (rs.rep _)⟩
    rw [len_rep,← l1,Nat.mul_comm];exact h.1.2.2
 · exact h.elim⟩
noncomputable abbrev fLen:G1:=fun ds Q=>match ds with
 | [.list xs]=>Q (.int xs.length)
 | [.tuple xs]=>Q (.int xs.length)
 | _=>False
noncomputable instance cs_len {K:PySem.W.Frag}:CS (fun xs H Q=>∃ p ys,xs=[.ref p]∧(SqL K H p ys∨SqT K H p ys)∧Q (.int ys.length) H) fLen:=⟨fun {H xs ds Q P} r h k=>by
 unfold fLen at h
 split at h
 · cases r with
   | cons r1 t=>
    cases t
    cases r1 with
    | list e _ _ rs=>exact ⟨_,_,rfl,.inl (SqL.of e),by rw [← rs.length];exact k _ _ h fun _=>.int _⟩
 · cases r with
   | cons r1 t=>
    cases t
    cases r1 with
    | tuple e _ _ rs=>exact ⟨_,_,rfl,.inr (SqT.of e),by rw [← rs.length];exact k _ _ h fun _=>.int _⟩
 · exact h.elim⟩
noncomputable abbrev fListOf (ds:List PyData) (Q:List PyData→Prop):Prop:=match ds with
 | [.list xs]=>Q xs
 | [.tuple xs]=>Q xs
 | _=>False
noncomputable instance cn_list {K:PySem.W.Frag}:CN (fun xs H Q=>∃ p ys,xs=[.ref p]∧(SqL K H p ys∨SqT K H p ys)∧∀ l,H l=none→Q (.ref l) (upd H l (.lst ys))) fListOf:=⟨fun {ex H xs ds Q P} r h k=>by
 unfold fListOf at h
 split at h
 · cases r with
   | cons r1 t=>
    cases t
    cases r1 with
    | list e _ z rs=>exact ⟨_,_,rfl,.inl (SqL.of e),fun l hl=>k _ l _ h hl z rs⟩
 · cases r with
   | cons r1 t=>
    cases t
    cases r1 with
    | tuple e _ z rs=>exact ⟨_,_,rfl,.inr (SqT.of e),fun l hl=>k _ l _ h hl z rs⟩
 · exact h.elim⟩
noncomputable abbrev fTupleOf:G1:=fun ds Q=>match ds with
 | [.list xs]=>Q (.tuple xs)
 | [.tuple xs]=>Q (.tuple xs)
 | _=>False
noncomputable instance co_tuple {K:PySem.W.Frag}:CO (fun xs H Q=>∃ p ys,xs=[.ref p]∧((SqL K H p ys∧∀ l,H l=none→Q (.ref l) (upd H l (.tup ys)))∨(SqT K H p ys∧Q (.ref p) H))) fTupleOf:=⟨fun {ex H xs ds Q P} al r h k=>by
 unfold fTupleOf at h
 split at h
 · cases r with
   | cons r1 t=>
    cases t
    cases r1 with
    | list e _ z rs=>exact ⟨_,_,rfl,.inl ⟨SqL.of e,fun l hl=>k _ _ _ h (Kp.new hl _) (.tuple upd_same (al.nm hl) z (rs.keep (Kp.new hl _)))⟩⟩
 · cases r with
   | cons r1 t=>
    cases t
    cases r1 with
    | tuple e n z rs=>exact ⟨_,_,rfl,.inr ⟨SqT.of e,k _ _ _ h .refl (.tuple e n z rs)⟩⟩
 · exact h.elim⟩
theorem Reps.bools_inv {ex:List Addr}{H:Hp}:∀ {ns:List Bool}{vs:List V},Reps ex H (ns.map PyData.bool) vs→vs=ns.map V.bl
 | [],_,.nil=>rfl
 | n::r,_,.cons (.bool _) t=>by rw [Reps.bools_inv t];rfl
noncomputable def fAll (c:Bool):G1:=fun ds Q=>∃ bs:List Bool,ds=[.list (bs.map .bool)]∧c=true∧Q (.bool (bs.all id))
noncomputable instance cs_all {K:PySem.W.Frag}{c:Bool}:CS (fun xs H Q=>c=true∧∃ (p:Addr) (bs:List Bool),xs=[.ref p]∧SqL K H p (bs.map V.bl)∧Q (.bl (bs.all id)) H) (fAll c):=⟨fun {H xs ds Q P} r h k=>by
 obtain ⟨ns,rfl,hc,q⟩:=h
 cases r with
 | cons r1 t=>
  cases t
  cases r1 with
  | list e _ _ rs=>
   cases Reps.bools_inv rs
   exact ⟨hc,_,ns,rfl,SqL.of e,k _ _ q fun _=>.bool _⟩⟩
noncomputable abbrev gInst (T:String) (g:GE):GE:=fun env n Q=>g env n fun d n1=>noD d=true∧Q (.bool (instD d T)) n1
section
variable {b:Bool}{te:TE}{g:GE}
theorem ev_inst (T:String) (hT:T = "int"∨T = "bool"∨T = "str"∨T = "tuple"∨T = "list") [A:EV false te g]:EV b (tCB (fun xs H Q=>∃ ex d x T,xs=[x,.ty T]∧Rep ex H d x∧noD d=true∧(T = "int"∨T = "bool"∨T = "str"∨T = "tuple"∨T = "list")∧Q (.bl (instD d T)) H) (tCons te (tCons (tC (.ty T)) tNil))) (gInst T g):=⟨fun {S ex env σ H n Q P} E h k=>
 A.ev E h fun d n1 v H1 h1 s1 r1=>⟨_,d,v,T,rfl,r1,h1.1,hT,k _ _ _ _ h1.2 s1 (.bool _)⟩⟩
noncomputable instance (priority:=high) ev_instI [A:EV false te g]:EV b (tCB (fun xs H Q=>∃ ex d x T,xs=[x,.ty T]∧Rep ex H d x∧noD d=true∧(T = "int"∨T = "bool"∨T = "str"∨T = "tuple"∨T = "list")∧Q (.bl (instD d T)) H) (tCons te (tCons (tC (.ty "int")) tNil))) (gInst "int" g):=ev_inst _ (by simp)
noncomputable instance (priority:=high) ev_instB [A:EV false te g]:EV b (tCB (fun xs H Q=>∃ ex d x T,xs=[x,.ty T]∧Rep ex H d x∧noD d=true∧(T = "int"∨T = "bool"∨T = "str"∨T = "tuple"∨T = "list")∧Q (.bl (instD d T)) H) (tCons te (tCons (tC (.ty "bool")) tNil))) (gInst "bool" g):=ev_inst _ (by simp)
noncomputable instance (priority:=high) ev_instT [A:EV false te g]:EV b (tCB (fun xs H Q=>∃ ex d x T,xs=[x,.ty T]∧Rep ex H d x∧noD d=true∧(T = "int"∨T = "bool"∨T = "str"∨T = "tuple"∨T = "list")∧Q (.bl (instD d T)) H) (tCons te (tCons (tC (.ty "tuple")) tNil))) (gInst "tuple" g):=ev_inst _ (by simp)
noncomputable instance (priority:=high) ev_instL [A:EV false te g]:EV b (tCB (fun xs H Q=>∃ ex d x T,xs=[x,.ty T]∧Rep ex H d x∧noD d=true∧(T = "int"∨T = "bool"∨T = "str"∨T = "tuple"∨T = "list")∧Q (.bl (instD d T)) H) (tCons te (tCons (tC (.ty "list")) tNil))) (gInst "list" g):=ev_inst _ (by simp)
class OPV (t:TO) (g:outParam (List Vl→Nat→(Option Int→Nat→Prop)→Prop)):Prop where
 op:∀ {S:Src} {ex:List Addr} {env:List Vl} {σ:L2.St} {H:Hp} {n:Nat} {Q:Option Int→Hp→Prop} {P:Option Int→Nat→Prop},Ev S ex env σ H n→g env n P→(∀ o n' H',P o n'→Step S n' H H'→Q o H')→t σ H Q
noncomputable instance op_no:OPV tNoPart (fun _ n Q=>Q none n):=⟨fun E h k=>k _ _ _ h (.refl E.inv)⟩
noncomputable abbrev gPart (g:GE):List Vl→Nat→(Option Int→Nat→Prop)→Prop:=fun env n Q=>g env n fun d n1=>match d with
 | .int i=>Q (some i) n1
 | _=>False
noncomputable instance op_part [A:EV false te g]:OPV (tPart te) (gPart g):=⟨fun {S ex env σ H n Q P} E h k=>A.ev E h fun d n1 v H1 h1 s1 r1=>by
 cases r1 with
 | int i=>exact ⟨i,rfl,k _ _ _ h1 s1⟩
 | none=>exact h1.elim
 | obj=>exact h1.elim
 | dctf=>exact h1.elim
 | bool=>exact h1.elim
 | str=>exact h1.elim
 | tuple=>exact h1.elim
 | list=>exact h1.elim⟩
theorem reps_cut {ex:List Addr}{H:Hp}{ds:List PyData}{vs:List V}(r:Reps ex H ds vs) (lo hi:Option Int):Reps ex H (cutD ds lo hi) (cutV vs lo hi):=by
 unfold cutD cutV
 rw [r.length]
 exact Reps.take _ (Reps.drop _ r)
noncomputable abbrev gChain (f f':G2) (ga gb gc:GE):GE:=fun env n Q=>ga env n fun x n1=>gb env n1 fun y n2=>f x y fun d=>match d with
 | .bool true=>gc env n2 fun z n3=>f' y z fun e=>Q e n3
 | .bool false=>Q (.bool false) n2
 | _=>False
noncomputable instance ev_chain {r r':R2}{f f':G2}{ta tb tc:TE}{ga gb gc:GE} [O:OS r f] [O':OS r' f'] [A:EV false ta ga] [B:EV false tb gb] [C:EV false tc gc]:EV b (tChain r r' ta tb tc) (gChain f f' ga gb gc):=⟨fun {S ex env σ H n Q P} E h k=>by
 refine A.ev E h fun x n1 v1 H1 h1 s1 r1=>B.ev (E.step s1) h1 fun y n2 v2 H2 h2 s2 r2=>?_
 refine O.os (Rep.nil ((E.step s1).repm false s2 r1)) (Rep.nil r2) h2 fun d v p r=>?_
 cases r [] with
 | bool c=>
  refine ⟨c,rfl,?_⟩
  cases c with
  | true=>exact C.ev (E.step (s1.trans s2)) p fun z n3 v3 H3 h3 s3 r3=>O'.os (Rep.nil ((E.step (s1.trans s2)).repm false s3 r2)) (Rep.nil r3) h3 fun d v p r=>k _ _ _ _ p ((s1.trans s2).trans s3) (r _)
  | false=>exact k _ _ _ _ p (s1.trans s2) (.bool _)
 | none=>exact p.elim
 | obj=>exact p.elim
 | dctf=>exact p.elim
 | int=>exact p.elim
 | str=>exact p.elim
 | tuple=>exact p.elim
 | list=>exact p.elim⟩
end
noncomputable def ItAt (ex:List Addr) (J:It) (items:List PyData) (H:Hp):Prop:=J.stop items.length H∧∀ (i:Nat) (d:PyData),items[i]? = some d→J.go i H∧∀ x H',J.yld i H x H'→Kp [] H H'∧Rep ex H' d x
class IV (wi:TI) (g:outParam GN):Prop where
 iv:∀ {S:Src} {ex:List Addr} {env:List Vl} {σ:L2.St} {H:Hp} {n:Nat} {R:It→Hp→Prop} {P:List PyData→Nat→Prop},Ev S ex env σ H n→g env n P →
  (∀ items n' J (hd:List (PyData×V)) H',P items n'→Step S n' H H'→(∀ h∈hd,Rep ex H' h.1 h.2)→(∀ ex' H2,Alc ex' H2→(∀ h∈hd,Rep ex' H2 h.1 h.2)→ItAt ex' J items H2)→R J H')→wi σ H R
class IC (wi:TI) (g:outParam GN):Prop where
 ic:∀ {S:Src} {ex:List Addr} {env:List Vl} {σ:L2.St} {H:Hp} {n:Nat} {R:It→Hp→Prop} {P:List PyData→Nat→Prop},Ev S ex env σ H n→g env n P →
  (∀ items n' J H',P items n'→Step S n' H H'→(∀ l H2,H' l=none→Kp (l::S.ch) H' H2→Alc (l::ex) H2→ItAt (l::ex) J items H2)→R J H')→wi σ H R
section
variable {K:PySem.W.Frag}{S:Src}{n m:Nat}{H H1 H2 H':Hp}{ex:List Addr}{env:List Vl}{σ:L2.St}{b:Bool}{te ta tb tc:TE}{g ga gb gc:GE}{wi:TI}{gi:GN}
theorem kp_cons {l:Addr}(hc:∀ a∈S.ch,a∈ex) (k:Kp (l::S.ch) H H'):Kp (l::ex) H H':=k.mono fun b hb=>(List.mem_cons.mp hb).elim (fun e=>by rw [e];exact List.mem_cons_self) fun h=>List.mem_cons_of_mem _ (hc b h)
noncomputable instance (priority:=low) ic_iv [I:IV wi gi]:IC wi gi:=⟨fun {S ex env σ H n R P} E h k=>I.iv E h fun items n' J hd H' p s hr hit=>k _ _ _ _ p s fun l H2 hl kp al=>
 hit _ _ al fun x hx=>(Rep.add hl (hr x hx)).keep (kp_cons E.ch kp)⟩
theorem it_list {a:Addr}{vs:List V}{ds:List PyData}(ha:H a=some (.lst vs)) (r:Reps ex H ds vs):ItAt ex (Itl K a) ds H:=by
 refine ⟨⟨vs,SqL.of ha,by rw [r.length];exact Nat.le_refl _⟩,fun i d e=>?_⟩
 obtain ⟨v,ev,rv⟩:=r.get e
 refine ⟨⟨vs,v,SqL.of ha,ev⟩,fun x H' y=>?_⟩
 obtain ⟨rfl,hx⟩:=y
 have:=hx vs (SqL.of ha)
 rw [ev] at this
 cases this
 exact ⟨.refl,rv⟩
theorem it_tup {a:Addr}{vs:List V}{ds:List PyData}(ha:H a=some (.tup vs)) (r:Reps ex H ds vs):ItAt ex (Itt K a) ds H:=by
 refine ⟨⟨vs,SqT.of ha,by rw [r.length];exact Nat.le_refl _⟩,fun i d e=>?_⟩
 obtain ⟨v,ev,rv⟩:=r.get e
 refine ⟨⟨vs,v,SqT.of ha,ev⟩,fun x H' y=>?_⟩
 obtain ⟨rfl,hx⟩:=y
 have:=hx vs (SqT.of ha)
 rw [ev] at this
 cases this
 exact ⟨.refl,rv⟩
noncomputable def rngD (lo:Int) (k:Nat):List PyData:=(List.range k).map fun (i:Nat)=>.int (lo+(i:Int))
theorem rngD_len (lo:Int) (k:Nat):(rngD lo k).length=k:=by unfold rngD;rw [List.length_map,List.length_range]
theorem it_rng {lo:Int}{k:Nat}:ItAt ex (Itr lo k) (rngD lo k) H:=by
 refine ⟨by rw [rngD_len];exact Nat.le_refl _,fun i d e=>?_⟩
 have hi:i<k:=by
  have:=(List.getElem?_eq_some_iff.mp e).1
  rw [rngD_len] at this
  exact this
 unfold rngD at e
 rw [List.getElem?_map,List.getElem?_range hi] at e
 cases e
 refine ⟨hi,fun x H' y=>?_⟩
 obtain ⟨rfl,rfl⟩:=y
 exact ⟨.refl,.int _⟩
noncomputable def seqD:PyData→Option (List PyData)
 | .list xs=>some xs
 | .tuple xs=>some xs
 | _=>none
theorem rep_seq {d:PyData}{v:V}{ds:List PyData}(r:Rep ex H d v) (h:seqD d=some ds):∃ (c:Bool) (a:Addr) (vs:List V),v = .ref a∧(∀ K,SqK c K H a vs)∧Reps ex H ds vs∧((c=true∧H a=some (.tup vs))∨(c=false∧H a=some (.lst vs)))∧a∉ex:=by
 cases r with
 | tuple e n z rs=>cases h;exact ⟨true,_,_,rfl,fun K=>SqT.of e,rs,.inl ⟨rfl,e⟩,n⟩
 | list e n z rs=>cases h;exact ⟨false,_,_,rfl,fun K=>SqL.of e,rs,.inr ⟨rfl,e⟩,n⟩
 | none=>cases h
 | obj=>cases h
 | dctf=>cases h
 | bool=>cases h
 | int=>cases h
 | str=>cases h
noncomputable def enumD (ds:List PyData):List PyData:=ds.mapIdx fun i d=>.tuple [.int (i:Int),d]
theorem two_line:(2:Nat)≤sizeLine:=by rw [sizeLine_eq];decide
theorem three_line:(3:Nat)≤sizeLine:=by rw [sizeLine_eq];decide
theorem it_enum {c:Bool}{a:Addr}{vs:List V}{ds:List PyData}(al:Alc ex H) (ha:SqK c K H a vs) (r:Reps ex H ds vs):ItAt ex (Ite c K a) (enumD ds) H:=by
 unfold enumD
 refine ⟨⟨vs,ha,by rw [List.length_mapIdx,r.length]⟩,fun i d e=>?_⟩
 rw [List.getElem?_mapIdx] at e
 cases hd:ds[i]? with
 | none=>rw [hd] at e;cases e
 | some d0=>
  rw [hd] at e
  cases e
  obtain ⟨v,ev,rv⟩:=r.get hd
  refine ⟨⟨vs,v,ha,ev⟩,fun x H' y=>?_⟩
  obtain ⟨p,y,hp,rfl,rfl,hy⟩:=y
  have:=hy vs ha
  rw [ev] at this
  cases this
  exact ⟨Kp.new hp _,.tuple upd_same (al.nm hp) two_line (.cons (.int _) (.cons (rv.keep (Kp.new hp _)) .nil))⟩
noncomputable def zipD (ds es:List PyData):List PyData:=List.zipWith (fun x y=>.tuple [x,y]) ds es
theorem it_zip {c c':Bool}{a a':Addr}{vs vs':List V}{ds es:List PyData}(al:Alc ex H) (ha:SqK c K H a vs) (r:Reps ex H ds vs) (ha':SqK c' K H a' vs') (r':Reps ex H es vs'):ItAt ex (Itz c c' K a a') (zipD ds es) H:=by
 unfold zipD
 refine ⟨⟨vs,vs',ha,ha',by rw [List.length_zipWith,r.length,r'.length]⟩,fun i d e=>?_⟩
 rw [List.getElem?_zipWith] at e
 cases hd:ds[i]? with
 | none=>rw [hd] at e;cases e
 | some d0=>
  cases he:es[i]? with
  | none=>rw [hd,he] at e;cases e
  | some e0=>
   rw [hd,he] at e
   cases e
   obtain ⟨v,ev,rv⟩:=r.get hd
   obtain ⟨v',ev',rv'⟩:=r'.get he
   refine ⟨⟨vs,vs',v,v',ha,ha',ev,ev'⟩,fun x H' y=>?_⟩
   obtain ⟨p,y,y',hp,rfl,rfl,hy,hy'⟩:=y
   have:=hy vs ha
   rw [ev] at this
   cases this
   have:=hy' vs' ha'
   rw [ev'] at this
   cases this
   exact ⟨Kp.new hp _,.tuple upd_same (al.nm hp) two_line (.cons (rv.keep (Kp.new hp _)) (.cons (rv'.keep (Kp.new hp _)) .nil))⟩
noncomputable abbrev gIter (f:PyData→Option (List PyData)) (g:GE):GN:=fun env n Q=>g env n fun d n1=>match f d with
 | some ds=>Q ds n1
 | none=>False
noncomputable def lstD:PyData→Option (List PyData)
 | .list xs=>some xs
 | _=>none
noncomputable def tupD':PyData→Option (List PyData)
 | .tuple xs=>some xs
 | _=>none
noncomputable instance iv_list [A:EV true te g]:IV (iList K te) (gIter lstD g):=⟨fun {S ex env σ H n R P} E h k=>A.ev E h fun d n1 v H1 h1 s1 r1=>by
 cases r1 with
 | list e m z rs=>
  refine ⟨_,rfl,⟨_,SqL.of e⟩,k _ _ _ [(PyData.list _,V.ref _)] _ h1 s1 (fun h hh=>by rw [List.mem_singleton.mp hh];exact .list e m z rs) fun ex' H2 al hr=>?_⟩
  have:=hr _ (List.mem_singleton.mpr rfl)
  cases this with
  | list e m z rs=>exact it_list e rs
 | none=>exact h1.elim
 | obj=>exact h1.elim
 | dctf=>exact h1.elim
 | bool=>exact h1.elim
 | str=>exact h1.elim
 | int=>exact h1.elim
 | tuple=>exact h1.elim⟩
noncomputable instance iv_tup [A:EV true te g]:IV (iTup K te) (gIter tupD' g):=⟨fun {S ex env σ H n R P} E h k=>A.ev E h fun d n1 v H1 h1 s1 r1=>by
 cases r1 with
 | tuple e m z rs=>
  refine ⟨_,rfl,⟨_,SqT.of e⟩,k _ _ _ [(PyData.tuple _,V.ref _)] _ h1 s1 (fun h hh=>by rw [List.mem_singleton.mp hh];exact .tuple e m z rs) fun ex' H2 al hr=>?_⟩
  have:=hr _ (List.mem_singleton.mpr rfl)
  cases this with
  | tuple e m z rs=>exact it_tup e rs
 | none=>exact h1.elim
 | obj=>exact h1.elim
 | dctf=>exact h1.elim
 | bool=>exact h1.elim
 | str=>exact h1.elim
 | int=>exact h1.elim
 | list=>exact h1.elim⟩
noncomputable abbrev gIterO (i:Nat):GN:=fun env n Q=>match env[i]? with
 | some (.own xs)=>Q xs n
 | some (.d (.list xs))=>Q xs n
 | _=>False
noncomputable instance (priority:=high) ic_own {i:Nat}:IC (iList K (tVar i)) (gIterO i):=⟨fun {S ex env σ H n R P} E h k=>by
 unfold gIterO at h
 split at h
 · rename_i xs e
   obtain ⟨a,vs,ev,h1,h2,h3,h4,h5⟩:=E.sl i _ e
   refine ⟨_,join_some ev,_,rfl,⟨_,SqL.of h1⟩,k _ _ _ _ h (.refl E.inv) fun l H2 hl kp al=>?_⟩
   have na:a≠l:=ne_of_none h1 hl
   exact it_list (kp _ _ h1 fun z=>(List.mem_cons.mp z).elim na h5) ((Reps.add hl h3).keep (kp_cons E.ch kp))
 · rename_i xs e
   obtain ⟨v,ev,r⟩:=E.sl i _ e
   cases r with
   | list e1 m z rs=>
    refine ⟨_,join_some ev,_,rfl,⟨_,SqL.of e1⟩,k _ _ _ _ h (.refl E.inv) fun l H2 hl kp al=>?_⟩
    have:=(Rep.add hl (.list e1 m z rs)).keep (kp_cons E.ch kp)
    cases this with
    | list e m z rs=>exact it_list e rs
 · exact h.elim⟩
noncomputable abbrev gRng1 (t:GN):GN:=fun env n Q=>t env n fun ds n1=>∃ j:Int,ds=[.int j]∧(-(2^62)≤j∧j<2^62)∧Q (rngD 0 j.toNat) n1
noncomputable instance iv_rng1 {t:TA}{gt:GN} [A:DV false t gt]:IV (iRng1 t) (gRng1 gt):=⟨fun {S ex env σ H n R P} E h k=>A.dv E h fun ds n1 vs H1 h1 s1 r1=>by
 obtain ⟨j,rfl,h2,q⟩:=h1
 cases r1 with
 | cons r1 t=>
  cases t
  cases r1
  exact ⟨j,rfl,h2.1,h2.2,k _ _ _ [] _ q s1 (fun h hh=>by cases hh) fun ex' H2 al _=>it_rng⟩⟩
noncomputable abbrev gEnum (t:GN):GN:=fun env n Q=>t env n fun ds n1=>∃ d xs,ds=[d]∧seqD d=some xs∧Q (enumD xs) n1
noncomputable abbrev gZip (t:GN):GN:=fun env n Q=>t env n fun ds n1=>∃ d e xs ys,ds=[d,e]∧seqD d=some xs∧seqD e=some ys∧Q (zipD xs ys) n1
theorem rep_seqc {d:PyData}{ds:List PyData}{c:Bool}{a:Addr}{vs:List V}(hs:seqD d=some ds) (hc:(c=true∧H a=some (.tup vs))∨(c=false∧H a=some (.lst vs))) (r:Rep ex H d (.ref a)) (ex':List Addr) (H2:Hp) (r2:Rep ex' H2 d (.ref a)):∃ vs',(∀ K,SqK c K H2 a vs')∧Reps ex' H2 ds vs':=by
 cases r2 with
 | obj=>cases hs
 | dctf=>cases hs
 | tuple e n z rs=>
  cases hs
  refine ⟨_,fun K=>?_,rs⟩
  rcases hc with ⟨rfl,_⟩ | ⟨_,h⟩
  · exact SqT.of e
  · cases r with | tuple e' _ _ _=>rw [h] at e';cases e'
 | list e n z rs=>
  cases hs
  refine ⟨_,fun K=>?_,rs⟩
  rcases hc with ⟨_,h⟩ | ⟨rfl,_⟩
  · cases r with | list e' _ _ _=>rw [h] at e';cases e'
  · exact SqL.of e
noncomputable instance iv_enum {t:TA}{gt:GN} [A:DV true t gt]:IV (iEnum K t) (gEnum gt):=⟨fun {S ex env σ H n R P} E h k=>A.dv E h fun ds n1 vs H1 h1 s1 r1=>by
 obtain ⟨d,xs,rfl,hs,q⟩:=h1
 cases r1 with
 | cons r1 t=>
  cases t
  obtain ⟨c,a,ws,rfl,hq,rs,hc,na⟩:=rep_seq r1 hs
  refine ⟨c,a,ws,rfl,hq K,k _ _ _ [(d,V.ref a)] _ q s1 (fun h hh=>by rw [List.mem_singleton.mp hh];exact r1) fun ex' H2 al hr=>?_⟩
  obtain ⟨vs',h3,h4⟩:=rep_seqc hs hc r1 ex' H2 (hr _ (List.mem_singleton.mpr rfl))
  exact it_enum al (h3 K) h4⟩
noncomputable instance iv_zip {t:TA}{gt:GN} [A:DV true t gt]:IV (iZip K t) (gZip gt):=⟨fun {S ex env σ H n R P} E h k=>A.dv E h fun ds n1 vs H1 h1 s1 r1=>by
 obtain ⟨d,e,xs,ys,rfl,hs,hs',q⟩:=h1
 cases r1 with
 | cons r1 t=>
  cases t with
  | cons r2 t=>
   cases t
   obtain ⟨c,a,ws,rfl,hq,rs,hc,na⟩:=rep_seq r1 hs
   obtain ⟨c',a',ws',rfl,hq',rs',hc',na'⟩:=rep_seq r2 hs'
   refine ⟨c,c',a,a',ws,ws',rfl,hq K,hq' K,k _ _ _ [(d,V.ref a),(e,V.ref a')] _ q s1 (fun h hh=>?_) fun ex' H2 al hr=>?_⟩
   · rcases List.mem_cons.mp hh with e | hh
     · rw [e];exact r1
     · rw [List.mem_singleton.mp hh];exact r2
   obtain ⟨v1,h3,h4⟩:=rep_seqc hs hc r1 ex' H2 (hr _ List.mem_cons_self)
   obtain ⟨v2,h5,h6⟩:=rep_seqc hs' hc' r2 ex' H2 (hr _ (List.mem_cons_of_mem _ (List.mem_singleton.mpr rfl)))
   exact it_zip al (h3 K) h4 (h5 K) h6⟩
end
noncomputable def ownAt (env:List Vl) (σ:L2.St) (i:Nat):List Addr:=match env[i]?,(σ[i]?).join with
 | some (.own _),some (.ref a)=>[a]
 | some (.dct _),some (.ref a)=>[a]
 | some (.own2 _ ps),some (.ref a)=>a::ps.map (·.1)
 | _,_=>[]
noncomputable abbrev GG:=PyData→List Vl→(List Vl→Prop)→Prop
noncomputable abbrev GGs:=List PyData→List Vl→(List Vl→Prop)→Prop
class GV (g:TG) (bd:outParam GG) (ks:outParam (List Nat)):Prop where
 gv:∀ {S:Src} {ex:List Addr} {env:List Vl} {σ:L2.St} {H:Hp} {n:Nat} {d:PyData} {v:V} {Q:L2.St→Hp→Prop} {P:List Vl→Prop},Ev S ex env σ H n→Rep ex H d v→bd d env P →
  (∀ env' σ',P env'→Ev S ex env' σ' H n→(∀ i a,a∈ownAt env' σ' i→a∈ownAt env σ i)→(∀ i:Nat,i∉ks→σ'[i]? = σ[i]?)→σ'.length = σ.length→Q σ' H)→g v σ H Q
class GVs (g:TGs) (bd:outParam GGs) (ks:outParam (List Nat)):Prop where
 gvs:∀ {S:Src} {ex:List Addr} {env:List Vl} {σ:L2.St} {H:Hp} {n:Nat} {d:List PyData} {v:List V} {Q:L2.St→Hp→Prop} {P:List Vl→Prop},Ev S ex env σ H n→Reps ex H d v→bd d env P →
  (∀ env' σ',P env'→Ev S ex env' σ' H n→(∀ i a,a∈ownAt env' σ' i→a∈ownAt env σ i)→(∀ i:Nat,i∉ks→σ'[i]? = σ[i]?)→σ'.length = σ.length→Q σ' H)→g v σ H Q
noncomputable abbrev bName (i:Nat):GG:=fun d env P=>P (env.set i (.d d))
theorem Ev.put {S:Src}{ex:List Addr}{env:List Vl}{σ:L2.St}{H:Hp}{n i:Nat}{w:Vl}{v:V}(E:Ev S ex env σ H n) (h:SlR S ex H w (some v)):Ev S ex (env.set i w) (σ.set i (some v)) H n:=by
 refine ⟨by rw [List.length_set,List.length_set];exact E.len,fun j u e=>?_,E.ch,E.al,E.inv⟩
 by_cases hj:i=j
 · subst hj
   have hl:i<env.length:=by
    have:=(List.getElem?_eq_some_iff.mp e).1
    rw [List.length_set] at this;exact this
   rw [List.getElem?_set_self hl] at e
   cases e
   rw [List.getElem?_set_self (Nat.lt_of_lt_of_le hl E.len)]
   exact h
 · rw [List.getElem?_set_ne hj] at e ⊢
   exact E.sl j u e
theorem own_put {env:List Vl}{σ:L2.St}{i:Nat}{d:PyData}{v:V}:∀ j a,a∈ownAt (env.set i (.d d)) (σ.set i (some v)) j→a∈ownAt env σ j:=fun j a h=>by
 unfold ownAt at h ⊢
 by_cases hj:i=j
 · subst hj
   by_cases hl:i<env.length
   · rw [List.getElem?_set_self hl] at h
     cases h
   · rw [List.getElem?_eq_none (by rw [List.length_set];omega)] at h
     cases h
 · rw [List.getElem?_set_ne hj,List.getElem?_set_ne hj] at h
   exact h
noncomputable instance gv_name {i:Nat}:GV (gName i) (bName i) [i]:=⟨fun {S ex env σ H n d v Q P} E r h k=>k _ _ h (E.put ⟨v,rfl,r⟩) own_put (fun j hj=>List.getElem?_set_ne (fun z=>hj (by rw [z];exact List.mem_singleton.mpr rfl))) List.length_set⟩
noncomputable abbrev bNil:GGs:=fun ds env P=>ds=[]∧P env
noncomputable abbrev bCons (t:GG) (u:GGs):GGs:=fun ds env P=>match ds with
 | d::r=>t d env fun env1=>u r env1 P
 | []=>False
noncomputable instance gvs_nil:GVs L2.gNil bNil []:=⟨fun {S ex env σ H n d v Q P} E r h k=>by
 obtain ⟨rfl,h⟩:=h
 cases r
 exact ⟨rfl,k _ _ h E (fun _ _ h=>h) (fun _ _=>rfl) rfl⟩⟩
noncomputable instance gvs_cons {t:TG}{u:TGs}{bt:GG}{bu:GGs}{k1 k2:List Nat} [A:GV t bt k1] [B:GVs u bu k2]:GVs (L2.gCons t u) (bCons bt bu) (k1++k2):=⟨fun {S ex env σ H n d v Q P} E r h k=>by
 cases r with
 | nil=>exact h.elim
 | cons r1 t=>
  refine ⟨_,_,rfl,A.gv E r1 h fun env1 σ1 h1 E1 o1 f1 z1=>B.gvs E1 t h1 fun env2 σ2 h2 E2 o2 f2 z2=>k _ _ h2 E2 (fun i a ha=>o1 i a (o2 i a ha)) (fun i hi=>?_) (z2.trans z1)⟩
  rw [f2 i fun z=>hi (List.mem_append_right _ z),f1 i fun z=>hi (List.mem_append_left _ z)]⟩
noncomputable abbrev bTup (k:Nat) (bs:GGs):GG:=fun d env P=>match d with
 | .tuple ds=>ds.length=k∧bs ds env P
 | _=>False
noncomputable instance gv_tup {K:PySem.W.Frag}{k:Nat}{t:TGs}{bs:GGs}{ks:List Nat} [A:GVs t bs ks]:GV (gTup K k t) (bTup k bs) ks:=⟨fun {S ex env σ H n d v Q P} E r h k=>by
 cases r with
 | tuple e m z rs=>exact ⟨_,_,rfl,SqT.of e,by rw [← rs.length];exact h.1,A.gvs E rs h.2 k⟩
 | none=>exact h.elim
 | obj=>exact h.elim
 | dctf=>exact h.elim
 | bool=>exact h.elim
 | str=>exact h.elim
 | int=>exact h.elim
 | list=>exact h.elim⟩
noncomputable def cmpW (f:PyData→Nat→(Option PyData→Nat→Prop)→Prop):List PyData→Nat→(List PyData→Nat→Prop)→Prop
 | [],n,Q=>Q [] n
 | x::xs,n,Q=>f x n fun o n1=>cmpW f xs n1 fun ys n2=>Q (o.toList++ys) n2
noncomputable def jenv (k:Nat) (idx:List Nat) (env:List Vl):List Vl:=List.replicate k .jnk++idx.map fun i=>(env[i]?).getD .jnk
noncomputable abbrev gTurn (bd:GG) (gt:GT) (ge:GE) (env:List Vl):PyData→Nat→(Option PyData→Nat→Prop)→Prop:=fun x n Q=>bd x env fun env'=>gt env' n fun c n1=>if c=true then ge env' n1 fun y n2=>Q (some y) n2 else Q none n1
noncomputable abbrev gComp (gi:GN) (k:Nat) (idx:List Nat) (ks:List Nat) (bd:GG) (gt:GT) (ge:GE):GN:=fun env n Q=>gi env n fun items n1=>(ks.all (fun i=>decide (i<k))=true∧items.length≤sizeLine)∧cmpW (gTurn bd gt ge (jenv k idx env)) items n1 Q
theorem SlR.add {S:Src}{ex:List Addr}{H:Hp}{l:Addr}{w:Vl}{o:Option V}(hl:H l=none) (h:SlR S ex H w o):SlR S (l::ex) H w o:=by
 cases w with
 | jnk=>trivial
 | jar=>exact h
 | tape=>exact h
 | d x=>obtain ⟨v,e,r⟩:=h;exact ⟨v,e,Rep.add hl r⟩
 | pin v x=>obtain ⟨e,r⟩:=h;exact ⟨e,Rep.add hl r⟩
 | own xs=>obtain ⟨a,vs,e,h1,h2,h3,h4,h5⟩:=h;exact ⟨a,vs,e,h1,h2,Reps.add hl h3,List.mem_cons_of_mem _ h4,h5⟩
 | dct kvs=>obtain ⟨a,kws,e,h1,⟨h2,h3⟩,h4,h5⟩:=h;exact ⟨a,kws,e,h1,⟨h2,Reps.add hl h3⟩,List.mem_cons_of_mem _ h4,h5⟩
 | own2 ks ps=>obtain ⟨a,e,q⟩:=h;exact ⟨a,e,q.h,q.z,q.k,q.nd,List.mem_cons_of_mem _ q.m,q.c,fun p hp=>let w:=q.i p hp;⟨List.mem_cons_of_mem _ w.m,w.c,let ⟨vs,h1,h2,h3⟩:=w.h;⟨vs,h1,h2,Reps.add hl h3⟩⟩⟩
theorem SlR.upd {S:Src}{ex:List Addr}{H:Hp}{l:Addr}{w:Vl}{o:Option V}{u:HO}(hl:l∈ex) (hn:∀ b∈ownAt [w] [o] 0,b≠l) (h:SlR S ex H w o):SlR S ex (upd H l u) w o:=by
 cases w with
 | jnk=>trivial
 | jar=>exact h
 | tape=>exact h
 | d x=>obtain ⟨v,e,r⟩:=h;exact ⟨v,e,r.keep (Kp.at hl _)⟩
 | pin v x=>obtain ⟨e,r⟩:=h;exact ⟨e,r.keep (Kp.at hl _)⟩
 | own xs=>obtain ⟨a,vs,e,h1,h2,h3,h4,h5⟩:=h;subst e;exact ⟨a,vs,rfl,by rw [upd_ne (hn a List.mem_cons_self)];exact h1,h2,h3.keep (Kp.at hl _),h4,h5⟩
 | dct kvs=>obtain ⟨a,kws,e,h1,⟨h2,h3⟩,h4,h5⟩:=h;subst e;exact ⟨a,kws,rfl,by rw [upd_ne (hn a List.mem_cons_self)];exact h1,⟨h2,h3.keep (Kp.at hl _)⟩,h4,h5⟩
 | own2 ks ps=>obtain ⟨a,e,q⟩:=h;subst e;exact ⟨a,rfl,by rw [upd_ne (hn a List.mem_cons_self)];exact q.h,q.z,q.k,q.nd,q.m,q.c,fun p hp=>let w:=q.i p hp;⟨w.m,w.c,let ⟨vs,h1,h2,h3⟩:=w.h;⟨vs,by rw [upd_ne (hn p.1 (List.mem_cons_of_mem _ (List.mem_map.mpr ⟨p,hp,rfl⟩)))];exact h1,h2,h3.keep (Kp.at hl _)⟩⟩⟩
theorem ev_inner {S:Src}{ex:List Addr}{env:List Vl}{σ:L2.St}{H:Hp}{n:Nat}(E:Ev S ex env σ H n) (k:Nat) (idx:List Nat):Ev S ex (jenv k idx env) (startC k idx σ) H n:=by
 refine ⟨by unfold jenv startC;simp,fun i w e=>?_,E.ch,E.al,E.inv⟩
 unfold jenv at e
 by_cases hi:i<k
 · rw [List.getElem?_append_left (by simpa using hi),List.getElem?_replicate,if_pos hi] at e
   cases e
   trivial
 · rw [List.getElem?_append_right (by simpa using Nat.le_of_not_lt hi),List.getElem?_map] at e
   rw [List.length_replicate] at e
   cases hj:idx[i-k]? with
   | none=>rw [hj] at e;cases e
   | some j=>
    rw [hj] at e
    cases e
    have e2:(startC k idx σ)[i]? = some ((σ[j]?).join):=by
     unfold startC
     rw [List.getElem?_append_right (by simpa using Nat.le_of_not_lt hi),List.length_replicate,List.getElem?_map,hj];rfl
    rw [e2]
    show SlR S ex H ((env[j]?).getD .jnk) (σ[j]?).join
    cases hw:env[j]? with
    | none=>exact trivial
    | some w=>exact E.sl j w hw
theorem ev_turn {S:Src}{ex:List Addr}{je:List Vl}{σ0 σ':L2.St}{H1 H2:Hp}{n1 n2 k:Nat}{l:Addr}(E:Ev S ex je σ0 H1 n1) (hl:H1 l=none) (kp:Kp (l::S.ch) H1 H2) (h2:H2 l≠none) (iv:S.inv n2 H2) (hj:∀ j:Nat,j<k→je[j]? = none∨je[j]? = some .jnk) (hs:∀ j:Nat,k≤j→σ'[j]? = σ0[j]?) (hz:σ'.length = σ0.length):Ev S (l::ex) je σ' H2 n2:=by
 have hc:∀ a∈S.ch,a∈l::ex:=fun a h=>List.mem_cons_of_mem _ (E.ch a h)
 have kx:Kp (l::ex) H1 H2:=kp_cons E.ch kp
 refine ⟨by rw [hz];exact E.len,fun j w e=>?_,hc,fun a ha=>?_,iv⟩
 · by_cases hjk:j<k
   · rcases hj j hjk with h | h
     · rw [h] at e;cases e
     · rw [h] at e;cases e;trivial
   · rw [hs j (Nat.le_of_not_lt hjk)]
     have h:=SlR.add hl (E.sl j w e)
     cases w with
     | jnk=>trivial
     | jar=>exact h
     | tape=>exact h
     | d x=>obtain ⟨v,e,r⟩:=h;exact ⟨v,e,r.keep kx⟩
     | pin v x=>obtain ⟨e,r⟩:=h;exact ⟨e,r.keep kx⟩
     | own xs=>obtain ⟨a,vs,e,h1,h2,h3,h4,h5⟩:=h;exact ⟨a,vs,e,kp _ _ h1 fun z=>(List.mem_cons.mp z).elim (ne_of_none h1 hl) h5,h2,h3.keep kx,h4,h5⟩
     | dct kvs=>obtain ⟨a,kws,e,h1,⟨h2,h3⟩,h4,h5⟩:=h;exact ⟨a,kws,e,kp _ _ h1 fun z=>(List.mem_cons.mp z).elim (ne_of_none h1 hl) h5,⟨h2,h3.keep kx⟩,h4,h5⟩
     | own2 ks ps=>obtain ⟨a,e,q⟩:=h;exact ⟨a,e,kp _ _ q.h fun z=>(List.mem_cons.mp z).elim (ne_of_none q.h hl) q.c,q.z,q.k,q.nd,q.m,q.c,fun p hp=>let w:=q.i p hp;⟨w.m,w.c,let ⟨vs,h1,h2,h3⟩:=w.h;⟨vs,kp _ _ h1 fun z=>(List.mem_cons.mp z).elim (ne_of_none h1 hl) w.c,h2,h3.keep kx⟩⟩⟩
 · rcases List.mem_cons.mp ha with rfl | ha
   · exact h2
   · by_cases hac:a∈S.ch
     · exact S.dom iv a hac
     · intro z
       cases e:H1 a with
       | none=>exact E.al a ha e
       | some o=>
        rw [kp a o e fun q=>(List.mem_cons.mp q).elim (ne_of_none e hl) hac] at z
        cases z
theorem jenv_jnk {k:Nat}{idx:List Nat}{env:List Vl}(j:Nat) (h:j<k):(jenv k idx env)[j]? = none∨(jenv k idx env)[j]? = some .jnk:=by
 right
 unfold jenv
 rw [List.getElem?_append_left (by simpa using h),List.getElem?_replicate,if_pos h]
noncomputable instance nv_comp {wi:TI}{gi:GN}{k:Nat}{idx ks:List Nat}{g:TG}{bd:GG}{tt:TT}{gt:GT}{te:TE}{ge:GE} [I:IC wi gi] [G:GV g bd ks] [T:TV tt gt] [A:EV true te ge]:NV (tComp wi k idx g tt te) (gComp gi k idx ks bd gt ge):=⟨fun {S ex env σ H n Q P} E h kk=>by
 refine I.ic E h fun items n1 J H1 hc s1 hit l hl=>?_
 obtain ⟨⟨hk,hz⟩,hc⟩:=hc
 have E1:=ev_inner (E.step s1) k idx
 have lch:l∉S.ch:=fun z=>S.dom s1.2 l z hl
 have hkk:∀ i∈ks,i<k:=fun i hi=>of_decide_eq_true (List.all_eq_true.mp hk i hi)
 refine ⟨fun i m σ' H2=>i≤items.length∧m=items.length-i∧∃ (n2:Nat) (ds:List PyData) (vs:List V),cmpW (gTurn bd gt ge (jenv k idx env)) (items.drop i) n2 (fun ys n'=>P (ds++ys) n')∧Kp (l::S.ch) H1 H2∧H2 l=some (.lst vs)∧vs.length≤i∧Reps (l::ex) H2 ds vs∧S.inv n2 H2∧(∀ j:Nat,k≤j→σ'[j]? = (startC k idx σ)[j]?)∧σ'.length=(startC k idx σ).length,
  ⟨items.length,Nat.zero_le _,rfl,n1,[],[],by simpa using hc,Kp.new hl _,upd_same,Nat.le_refl _,.nil,S.keep s1.2 fun b _ o' e=>Kp.new (ex:=[]) hl _ _ _ e (by simp),fun _ _=>rfl,rfl⟩,?_⟩
 rintro i m σ' H2 ⟨hi,rfl,n2,ds,vs,hcm,kp,h2l,hvl,rs,iv2,hsl,hln⟩
 have E2:Ev S (l::ex) (jenv k idx env) σ' H2 n2:=ev_turn E1 hl kp (by rw [h2l];intro z;cases z) iv2 jenv_jnk hsl hln
 have IT:=hit l H2 hl kp E2.al
 rcases Nat.lt_or_ge i items.length with hlt | hge
 · refine .inr ⟨(IT.2 i items[i] (List.getElem?_eq_getElem hlt)).1,fun x H3 y=>?_⟩
   obtain ⟨kp3,rx⟩:=(IT.2 i items[i] (List.getElem?_eq_getElem hlt)).2 x H3 y
   rw [List.drop_eq_getElem_cons hlt] at hcm
   have st3:Step S n2 H2 H3:=Step.new E2.inv kp3
   have E3:=E2.step st3
   refine G.gv E3 rx hcm fun env' σ2 ht E4 _ hs hl2=>T.tv E4 ht fun c n4 H4 h4 s4=>?_
   have hs2:∀ j:Nat,k≤j→σ2[j]? = (startC k idx σ)[j]?:=fun j hj=>by
    rw [hs j fun z=>by have:=hkk j z;omega];exact hsl j hj
   cases c with
   | true=>
    refine A.ev (E4.step s4) h4 fun d n5 v H5 h5 s5 r5=>?_
    have s25:=st3.trans (s4.trans s5)
    have k5:Kp S.ch H2 H5:=s25.1
    have h5l:H5 l=some (.lst vs):=k5 _ _ h2l lch
    refine ⟨vs,h5l,by omega,_,(?_:items.length-(i+1)<_),hlt,rfl,n5,ds++[d],vs++[v],?_,?_,upd_same,?_,?_,?_,hs2,hl2.trans hln⟩
    · omega
    · simpa using h5
    · exact (kp.trans (k5.mono fun b hb=>List.mem_cons_of_mem _ hb)).trans (Kp.at List.mem_cons_self _)
    · rw [List.length_append,List.length_singleton];omega
    · have q1:Reps (l::ex) H5 ds vs:=rs.keep (k5.mono E2.ch)
      exact (Reps.append q1 (.cons r5 .nil)).keep (Kp.at List.mem_cons_self _)
    · exact S.keep s25.2 fun b hb o e=>by rw [upd_ne (fun z=>lch (by rw [← z];exact hb))];exact e
   | false=>
    have s24:=st3.trans s4
    refine ⟨_,(?_:items.length-(i+1)<_),hlt,rfl,n4,ds,vs,by simpa using h4,kp.trans (s24.1.mono fun b hb=>List.mem_cons_of_mem _ hb),s24.1 _ _ h2l lch,by omega,rs.keep (s24.1.mono E2.ch),s24.2,hs2,hl2.trans hln⟩
    omega
 · have e:i=items.length:=by omega
   subst e
   rw [List.drop_length] at hcm
   refine .inl ⟨IT.1,kk _ _ _ _ _ (by simpa [cmpW] using hcm) ⟨fun b o e nb=>kp b o (s1.1 b o e nb) fun z=>(List.mem_cons.mp z).elim (fun e2=>by rw [e2,s1.free hl] at e;cases e) nb,iv2⟩ (s1.free hl) h2l (Nat.le_trans hvl hz) rs⟩⟩
structure VEnds where
 nx:List Vl→Nat→Prop
 rt:PyData→Nat→Prop
 rtn:List PyData→Nat→Prop
 bk:List Vl→Nat→Prop:=fun _ _=>False
 ct:List Vl→Nat→Prop:=fun _ _=>False
 xc:XK→Addr→Nat→Prop:=fun _ _ _=>False
 rt2:List (List PyData)→Nat→Prop:=fun _ _=>False
noncomputable abbrev GS:=VEnds→List Vl→Nat→Prop
structure Cv where
 S:Src
 ex0:List Addr
 H0:Hp
 held:List (PyData×V)
structure At (C:Cv) (ex:List Addr) (env:List Vl) (σ:L2.St) (H:Hp) (n:Nat):Prop where
 ev:Ev C.S ex env σ H n
 ex0:∀ a∈C.ex0,a∈ex
 al0:Alc C.ex0 C.H0
 sep:∀ i j a,a∈ownAt env σ i→a∈ownAt env σ j→i=j
 new:∀ i a,a∈ownAt env σ i→C.H0 a=none
 kp:Kp C.S.ch C.H0 H
 held:∀ h∈C.held,Rep ex H h.1 h.2
structure Ret (C:Cv) (d:PyData) (n:Nat) (v:V) (H:Hp):Prop where
 kp:Kp C.S.ch C.H0 H
 inv:C.S.inv n H
 r:Rep C.ex0 H d v
structure RetN (C:Cv) (ds:List PyData) (n:Nat) (a:Addr) (H:Hp):Prop where
 kp:Kp C.S.ch C.H0 H
 inv:C.S.inv n H
 fr:C.H0 a=none
 r:∃ vs,H a=some (.lst vs)∧vs.length≤sizeLine∧Reps (a::C.ex0) H ds vs
structure Ret2 (C:Cv) (ps:List (Addr×List PyData)) (n:Nat) (a:Addr) (H:Hp):Prop where
 kp:Kp C.S.ch C.H0 H
 inv:C.S.inv n H
 fr:C.H0 a=none
 frs:∀ p∈ps,C.H0 p.1=none
 o:Own2 C.S (a::ps.map (·.1)++C.ex0) H none ps a
structure EndsOk (C:Cv) (G:VEnds) (D:Ends):Prop where
 nx:∀ {ex env σ H n},At C ex env σ H n→G.nx env n→D.nx σ H
 bk:∀ {ex env σ H n},At C ex env σ H n→G.bk env n→D.bk σ H
 ct:∀ {ex env σ H n},At C ex env σ H n→G.ct env n→D.ct σ H
 rt:∀ {d n v H},Ret C d n v H→G.rt d n→D.rt v H
 rtn:∀ {ds n a H},RetN C ds n a H→G.rtn ds n→D.rt (.ref a) H
 xc:∀ {E c n H},Kp C.S.ch C.H0 H→C.S.inv n H→G.xc E c n→E (.ref c) none H
 r2:∀ {ps n a H},Ret2 C ps n a H→G.rt2 (ps.map (·.2)) n→D.rt (.ref a) H
class SV (ts:TS) (gs:outParam GS):Prop where
 sv:∀ {C:Cv} {G:VEnds} {D:Ends},EndsOk C G D→∀ {ex env σ H n},At C ex env σ H n→gs G env n→ts D σ H
section
variable {C:Cv}{ex:List Addr}{env:List Vl}{σ:L2.St}{H H':Hp}{n m:Nat}
theorem At.step (A:At C ex env σ H n) (s:Step C.S m H H'):At C ex env σ H' m:=⟨A.ev.step s,A.ex0,A.al0,A.sep,A.new,A.kp.trans s.1,fun h hh=>A.ev.rep s (A.held h hh)⟩
theorem own_sl {i:Nat}{a:Addr}(E:Ev C.S ex env σ H n) (h:a∈ownAt env σ i):H a≠none∧a∈ex∧a∉C.S.ch:=by
 unfold ownAt at h
 split at h
 · rename_i xs b e1 e2
   obtain ⟨c,vs,e,h1,h2,h3,h4,h5⟩:=E.sl i _ e1
   rw [e2] at e
   cases e
   rw [List.mem_singleton.mp h]
   exact ⟨(by rw [h1];intro z;cases z),h4,h5⟩
 · rename_i xs b e1 e2
   obtain ⟨c,vs,e,h1,h2,h4,h5⟩:=E.sl i _ e1
   rw [e2] at e
   cases e
   rw [List.mem_singleton.mp h]
   exact ⟨(by rw [h1];intro z;cases z),h4,h5⟩
 · rename_i ks ps b e1 e2
   obtain ⟨c,e,q⟩:=E.sl i _ e1
   rw [e2] at e
   cases e
   rcases List.mem_cons.mp h with rfl | h
   · exact ⟨(by rw [q.h];exact Option.some_ne_none _),q.m,q.c⟩
   · obtain ⟨p,hp,rfl⟩:=List.mem_map.mp h
     have w:=q.i p hp
     obtain ⟨vs,h1,_⟩:=w.h
     exact ⟨(by rw [h1];exact Option.some_ne_none _),w.m,w.c⟩
 · cases h
theorem set_get {α:Type}{l:List α}{i:Nat}{a b:α}(h:(l.set i a)[i]? = some b):b=a:=by
 have hl:=(List.getElem?_eq_some_iff.mp h).1
 rw [List.length_set] at hl
 rw [List.getElem?_set_self hl] at h
 exact (Option.some.inj h).symm
theorem own_one {j:Nat}{w:Vl}(e:env[j]? = some w):ownAt env σ j=ownAt [w] [(σ[j]?).join] 0:=by
 unfold ownAt
 rw [e]
 rfl
theorem At.put (A:At C ex env σ H n) {i:Nat}{d:PyData}{v:V}(r:Rep ex H d v):At C ex (env.set i (.d d)) (σ.set i (some v)) H n:=
 ⟨A.ev.put ⟨v,rfl,r⟩,A.ex0,A.al0,fun j k a h1 h2=>A.sep j k a (own_put j a h1) (own_put k a h2),fun j a h=>A.new j a (own_put j a h),A.kp,A.held⟩
theorem At.bind (A:At C ex env σ H n) {env':List Vl}{σ':L2.St}(E:Ev C.S ex env' σ' H n) (o:∀ i a,a∈ownAt env' σ' i→a∈ownAt env σ i):At C ex env' σ' H n:=
 ⟨E,A.ex0,A.al0,fun j k a h1 h2=>A.sep j k a (o j a h1) (o k a h2),fun j a h=>A.new j a (o j a h),A.kp,A.held⟩
theorem At.free (A:At C ex env σ H n) {a:Addr}(h:H a=none):C.H0 a=none:=by
 cases e:C.H0 a with
 | none=>rfl
 | some o=>
  by_cases hp:a∈C.S.ch
  · exact absurd h (C.S.dom A.ev.inv a hp)
  · rw [A.kp a o e hp] at h;cases h
theorem own_other {i j:Nat}{w:Vl}{o:Option V}(h:i≠j):ownAt (env.set i w) (σ.set i o) j=ownAt env σ j:=by
 unfold ownAt
 rw [List.getElem?_set_ne h,List.getElem?_set_ne h]
theorem own_at {i:Nat}{ds:List PyData}{a b:Addr}(h:b∈ownAt (env.set i (.own ds)) (σ.set i (some (.ref a))) i):b=a:=by
 unfold ownAt at h
 split at h
 · rename_i c e1 e2
   have e3:(σ.set i (some (.ref a)))[i]? = some (some (.ref c)):=join_some e2
   have:=set_get e3
   cases this
   exact List.mem_singleton.mp h
 · rename_i e1 e2
   have:=set_get e1
   cases this
 · rename_i e1 e2
   have:=set_get e1
   cases this
 · cases h
theorem At.own (A:At C ex env σ H n) {i:Nat}{ds:List PyData}{vs:List V}{a:Addr}(s:Step C.S m H H') (ha:H a=none) (hl:H' a=some (.lst vs)) (hz:vs.length≤sizeLine) (r:Reps (a::ex) H' ds vs) :
 At C (a::ex) (env.set i (.own ds)) (σ.set i (some (.ref a))) H' m:=by
 have ac:a∉C.S.ch:=fun z=>C.S.dom A.ev.inv a z ha
 have hc:∀ b∈C.S.ch,b∈a::ex:=fun b h=>List.mem_cons_of_mem _ (A.ev.ch b h)
 have E1:Ev C.S (a::ex) env σ H' m:=by
  refine ⟨A.ev.len,fun j w e=>(SlR.add ha (A.ev.sl j w e)).kp hc s.1,hc,fun b hb=>?_,s.2⟩
  rcases List.mem_cons.mp hb with rfl | hb
  · rw [hl];intro z;cases z
  · exact A.ev.al.step s b hb
 refine ⟨E1.put ⟨a,vs,rfl,hl,hz,r,List.mem_cons_self,ac⟩,fun b h=>List.mem_cons_of_mem _ (A.ex0 b h),A.al0,fun j k b h1 h2=>?_,fun j b h=>?_,A.kp.trans s.1,fun h hh=>(Rep.add ha (A.held h hh)).keep (s.1.mono hc)⟩
 · by_cases hj:i=j
   · subst hj
     have e:=own_at h1
     subst e
     by_cases hk:i=k
     · exact hk
     · rw [own_other hk] at h2
       exact absurd ha (own_sl A.ev h2).1
   · rw [own_other hj] at h1
     by_cases hk:i=k
     · subst hk
       have e:=own_at h2
       subst e
       exact absurd ha (own_sl A.ev h1).1
     · rw [own_other hk] at h2
       exact A.sep j k b h1 h2
 · by_cases hj:i=j
   · subst hj
     have e:=own_at h
     subst e
     exact A.free ha
   · rw [own_other hj] at h
     exact A.new j b h
theorem own_same {i:Nat}{xs ys:List PyData}(h:env[i]? = some (.own xs)):∀ j,ownAt (env.set i (.own ys)) σ j=ownAt env σ j:=fun j=>by
 unfold ownAt
 by_cases hj:i=j
 · subst hj
   rw [List.getElem?_set_self (List.getElem?_eq_some_iff.mp h).1,h]
   cases (σ[i]?).join with
   | none=>rfl
   | some v=>cases v<;>rfl
 · rw [List.getElem?_set_ne hj]
theorem At.re (A:At C ex env σ H n) {i:Nat}{xs ys:List PyData}{ws:List V}{a:Addr}(h:env[i]? = some (.own xs)) (hs:(σ[i]?).join=some (.ref a)) (r:Reps ex H ys ws) (hz:ws.length≤sizeLine) :
 At C ex (env.set i (.own ys)) σ (upd H a (.lst ws)) n:=by
 have ha:a∈ownAt env σ i:=by unfold ownAt;rw [h,hs];exact List.mem_singleton.mpr rfl
 obtain ⟨h1,h2,h3⟩:=own_sl A.ev ha
 have h0:=A.new i a ha
 have kx:Kp ex H (upd H a (.lst ws)):=Kp.at h2 _
 refine ⟨⟨by rw [List.length_set];exact A.ev.len,fun j w e=>?_,A.ev.ch,fun b hb=>?_,C.S.keep A.ev.inv fun b hb o e=>by rw [upd_ne (fun z=>h3 (by rw [← z];exact hb))];exact e⟩,A.ex0,A.al0,fun j k b q1 q2=>?_,fun j b q=>?_,Kp.late A.kp h0 _,fun x hx=>(A.held x hx).keep kx⟩
 · by_cases hj:i=j
   · subst hj
     rw [List.getElem?_set_self (List.getElem?_eq_some_iff.mp h).1] at e
     cases e
     exact ⟨a,ws,hs,upd_same,hz,r.keep kx,h2,h3⟩
   · rw [List.getElem?_set_ne hj] at e
     exact SlR.upd h2 (fun b hb z=>hj (A.sep i j a ha (by rw [own_one e,← z];exact hb))) (A.ev.sl j w e)
 · by_cases hb2:b=a
   · rw [hb2,upd_same];intro z;cases z
   · rw [upd_ne hb2];exact A.ev.al b hb
 · rw [own_same h] at q1 q2;exact A.sep j k b q1 q2
 · rw [own_same h] at q;exact A.new j b q
inductive Fz:List Vl→List Vl→Prop
 | refl {env:List Vl}:Fz env env
 | fz {env env':List Vl} (i:Nat) (xs:List PyData) (h:env[i]? = some (.own xs)) (t:Fz (env.set i (.d (.list xs))) env'):Fz env env'
 | jnk {env env':List Vl} (i:Nat) (t:Fz (env.set i .jnk) env'):Fz env env'
 | fz2 {env env':List Vl} (i:Nat) (ps:List (Addr×List PyData)) (h:env[i]? = some (.own2 none ps)) (t:Fz (env.set i (.d (.list (ps.map fun p=>.list p.2)))) env'):Fz env env'
 | fzh {env env':List Vl} (i:Nat) (ps:List (Addr×List PyData)) (h:env[i]? = some (.own2 none ps)) (t:Fz (env.set i (.own (ps.map fun p=>.list p.2))) env'):Fz env env'
theorem At.fz1 (A:At C ex env σ H n) {i:Nat}{xs:List PyData}(h:env[i]? = some (.own xs)):∃ ex',At C ex' (env.set i (.d (.list xs))) σ H n:=by
 obtain ⟨a,vs,e,h1,h2,h3,h4,h5⟩:=A.ev.sl i _ h
 have ha:a∈ownAt env σ i:=by unfold ownAt;rw [h,e];exact List.mem_singleton.mpr rfl
 have hsub:∀ b∈ex.filter (fun b=>decide (b≠a)),b∈ex:=fun b hb=>(List.mem_filter.mp hb).1
 have hin:∀ b∈ex,b≠a→b∈ex.filter (fun b=>decide (b≠a)):=fun b hb hn=>List.mem_filter.mpr ⟨hb,decide_eq_true hn⟩
 have hn:a∉ex.filter (fun b=>decide (b≠a)):=fun z=>(of_decide_eq_true (List.mem_filter.mp z).2) rfl
 have oo:∀ j b,b∈ownAt (env.set i (.d (.list xs))) σ j→b∈ownAt env σ j∧b≠a:=fun j b hb=>by
  by_cases hj:i=j
  · subst hj
    unfold ownAt at hb
    rw [List.getElem?_set_self (List.getElem?_eq_some_iff.mp h).1] at hb
    cases hb
  · have:ownAt (env.set i (.d (.list xs))) σ j=ownAt env σ j:=by unfold ownAt;rw [List.getElem?_set_ne hj]
    rw [this] at hb
    exact ⟨hb,fun z=>hj (A.sep i j a ha (by rw [← z];exact hb))⟩
 refine ⟨ex.filter fun b=>decide (b≠a),⟨by rw [List.length_set];exact A.ev.len,fun j w ew=>?_,fun b hb=>hin b (A.ev.ch b hb) fun z=>h5 (by rw [← z];exact hb),fun b hb=>A.ev.al b (hsub b hb),A.ev.inv⟩,fun b hb=>hin b (A.ex0 b hb) fun z=>?_,A.al0,fun j k b q1 q2=>A.sep j k b (oo j b q1).1 (oo k b q2).1,fun j b q=>A.new j b (oo j b q).1,A.kp,fun x hx=>Rep.mono hsub (A.held x hx)⟩
 · by_cases hj:i=j
   · subst hj
     rw [List.getElem?_set_self (List.getElem?_eq_some_iff.mp h).1] at ew
     cases ew
     exact ⟨_,e,.list h1 hn h2 (Reps.mono hsub h3)⟩
   · rw [List.getElem?_set_ne hj] at ew
     have q:=A.ev.sl j w ew
     have ne:∀ b∈ownAt [w] [(σ[j]?).join] 0,b≠a:=fun b hb z=>hj (A.sep i j a ha (by rw [own_one ew,← z];exact hb))
     cases w with
     | jnk=>trivial
     | jar=>exact q
     | tape=>exact q
     | d x=>obtain ⟨v,e,r⟩:=q;exact ⟨v,e,Rep.mono hsub r⟩
     | pin v x=>obtain ⟨e,r⟩:=q;exact ⟨e,Rep.mono hsub r⟩
     | own ys=>obtain ⟨b,ws,e,g1,g2,g3,g4,g5⟩:=q;exact ⟨b,ws,e,g1,g2,Reps.mono hsub g3,hin b g4 (ne b (by rw [e];exact List.mem_cons_self)),g5⟩
     | dct kvs=>obtain ⟨b,ws,e,g1,⟨g2,g3⟩,g4,g5⟩:=q;exact ⟨b,ws,e,g1,⟨g2,Reps.mono hsub g3⟩,hin b g4 (ne b (by rw [e];exact List.mem_cons_self)),g5⟩
     | own2 ks ps=>obtain ⟨b,e,q⟩:=q;exact ⟨b,e,q.h,q.z,q.k,q.nd,hin b q.m (ne b (by rw [e];exact List.mem_cons_self)),q.c,fun p hp=>let w:=q.i p hp;⟨hin p.1 w.m (ne p.1 (by rw [e];exact List.mem_cons_of_mem _ (List.mem_map.mpr ⟨p,hp,rfl⟩))),w.c,let ⟨vs,h1,h2,h3⟩:=w.h;⟨vs,h1,h2,Reps.mono hsub h3⟩⟩⟩
 · subst z
   exact A.al0 b hb (A.new i b ha)
theorem At.fz2 (A:At C ex env σ H n) {i:Nat}{ps:List (Addr×List PyData)}(h:env[i]? = some (.own2 none ps)):∃ ex',At C ex' (env.set i (.d (.list (ps.map fun p=>.list p.2)))) σ H n:=by
 obtain ⟨a,e,o⟩:=A.ev.sl i _ h
 have hL:∀ b∈a::ps.map (·.1),b∈ownAt env σ i:=fun b hb=>by unfold ownAt;rw [h,e];exact hb
 have hsub:∀ b∈ex.filter (fun b=>decide (b∉a::ps.map (·.1))),b∈ex:=fun b hb=>(List.mem_filter.mp hb).1
 have hin:∀ b∈ex,b∉a::ps.map (·.1)→b∈ex.filter (fun b=>decide (b∉a::ps.map (·.1))):=fun b hb hn=>List.mem_filter.mpr ⟨hb,decide_eq_true hn⟩
 have hn:∀ b∈a::ps.map (·.1),b∉ex.filter (fun b=>decide (b∉a::ps.map (·.1))):=fun b hb z=>(of_decide_eq_true (List.mem_filter.mp z).2) hb
 have hc:∀ b∈a::ps.map (·.1),b∉C.S.ch:=fun b hb=>by
  rcases List.mem_cons.mp hb with rfl | hb
  · exact o.c
  · obtain ⟨p,hp,rfl⟩:=List.mem_map.mp hb;exact (o.i p hp).c
 have oo:∀ j b,b∈ownAt (env.set i (.d (.list (ps.map fun p=>.list p.2)))) σ j→b∈ownAt env σ j∧b∉a::ps.map (·.1):=fun j b hb=>by
  by_cases hj:i=j
  · subst hj
    unfold ownAt at hb
    rw [List.getElem?_set_self (List.getElem?_eq_some_iff.mp h).1] at hb
    cases hb
  · have:ownAt (env.set i (.d (.list (ps.map fun p=>.list p.2)))) σ j=ownAt env σ j:=by unfold ownAt;rw [List.getElem?_set_ne hj]
    rw [this] at hb
    exact ⟨hb,fun z=>hj (A.sep i j b (hL b z) hb)⟩
 refine ⟨ex.filter fun b=>decide (b∉a::ps.map (·.1)),⟨by rw [List.length_set];exact A.ev.len,fun j w ew=>?_,fun b hb=>hin b (A.ev.ch b hb) fun z=>hc b z hb,fun b hb=>A.ev.al b (hsub b hb),A.ev.inv⟩,fun b hb=>hin b (A.ex0 b hb) fun z=>?_,A.al0,fun j k b q1 q2=>A.sep j k b (oo j b q1).1 (oo k b q2).1,fun j b q=>A.new j b (oo j b q).1,A.kp,fun x hx=>Rep.mono hsub (A.held x hx)⟩
 · by_cases hj:i=j
   · subst hj
     rw [List.getElem?_set_self (List.getElem?_eq_some_iff.mp h).1] at ew
     cases ew
     refine ⟨_,e,.list o.h (hn a List.mem_cons_self) (by unfold refs;rw [List.length_map,sizeLine_eq];have:=o.z;omega) ?_⟩
     have:∀ qs:List (Addr×List PyData),(∀ q∈qs,q∈ps)→Reps (ex.filter fun b=>decide (b∉a::ps.map (·.1))) H (qs.map fun p=>PyData.list p.2) (refs qs):=by
      intro qs
      induction qs with
      | nil=>exact fun _=>.nil
      | cons q qs ih=>
       intro hq
       have hm:=hq q List.mem_cons_self
       obtain ⟨vs,g1,g2,g3⟩:=(o.i q hm).h
       exact .cons (.list g1 (hn q.1 (List.mem_cons_of_mem _ (List.mem_map.mpr ⟨q,hm,rfl⟩))) g2 (Reps.mono hsub g3)) (ih fun x hx=>hq x (List.mem_cons_of_mem _ hx))
     exact this ps fun _ h=>h
   · rw [List.getElem?_set_ne hj] at ew
     have q:=A.ev.sl j w ew
     have ne:∀ b∈ownAt [w] [(σ[j]?).join] 0,b∉a::ps.map (·.1):=fun b hb z=>hj (A.sep i j b (hL b z) (by rw [own_one ew];exact hb))
     cases w with
     | jnk=>trivial
     | jar=>exact q
     | tape=>exact q
     | d x=>obtain ⟨v,e,r⟩:=q;exact ⟨v,e,Rep.mono hsub r⟩
     | pin v x=>obtain ⟨e,r⟩:=q;exact ⟨e,Rep.mono hsub r⟩
     | own ys=>obtain ⟨b,ws,e,g1,g2,g3,g4,g5⟩:=q;exact ⟨b,ws,e,g1,g2,Reps.mono hsub g3,hin b g4 (ne b (by rw [e];exact List.mem_cons_self)),g5⟩
     | dct kvs=>obtain ⟨b,ws,e,g1,⟨g2,g3⟩,g4,g5⟩:=q;exact ⟨b,ws,e,g1,⟨g2,Reps.mono hsub g3⟩,hin b g4 (ne b (by rw [e];exact List.mem_cons_self)),g5⟩
     | own2 ks qs=>obtain ⟨b,e,q⟩:=q;exact ⟨b,e,q.h,q.z,q.k,q.nd,hin b q.m (ne b (by rw [e];exact List.mem_cons_self)),q.c,fun p hp=>let w:=q.i p hp;⟨hin p.1 w.m (ne p.1 (by rw [e];exact List.mem_cons_of_mem _ (List.mem_map.mpr ⟨p,hp,rfl⟩))),w.c,let ⟨vs,h1,h2,h3⟩:=w.h;⟨vs,h1,h2,Reps.mono hsub h3⟩⟩⟩
 · exact A.al0 b hb (A.new i b (hL b z))
theorem At.fzh (A:At C ex env σ H n) {i:Nat}{ps:List (Addr×List PyData)}(h:env[i]? = some (.own2 none ps)):∃ ex',At C ex' (env.set i (.own (ps.map fun p=>.list p.2))) σ H n:=by
 obtain ⟨a,e,o⟩:=A.ev.sl i _ h
 have hL:∀ b∈ps.map (·.1),b∈ownAt env σ i:=fun b hb=>by unfold ownAt;rw [h,e];exact List.mem_cons_of_mem _ hb
 have hsub:∀ b∈ex.filter (fun b=>decide (b∉ps.map (·.1))),b∈ex:=fun b hb=>(List.mem_filter.mp hb).1
 have hin:∀ b∈ex,b∉ps.map (·.1)→b∈ex.filter (fun b=>decide (b∉ps.map (·.1))):=fun b hb hn=>List.mem_filter.mpr ⟨hb,decide_eq_true hn⟩
 have hn:∀ b∈ps.map (·.1),b∉ex.filter (fun b=>decide (b∉ps.map (·.1))):=fun b hb z=>(of_decide_eq_true (List.mem_filter.mp z).2) hb
 have hc:∀ b∈ps.map (·.1),b∉C.S.ch:=fun b hb=>by
  obtain ⟨p,hp,rfl⟩:=List.mem_map.mp hb;exact (o.i p hp).c
 have ha:a∈ownAt env σ i:=by unfold ownAt;rw [h,e];exact List.mem_cons_self
 have hna:a∉ps.map (·.1):=(List.nodup_cons.mp o.nd).1
 have oo:∀ j b,b∈ownAt (env.set i (.own (ps.map fun p=>.list p.2))) σ j→b∈ownAt env σ j∧b∉ps.map (·.1):=fun j b hb=>by
  by_cases hj:i=j
  · subst hj
    unfold ownAt at hb
    rw [List.getElem?_set_self (List.getElem?_eq_some_iff.mp h).1,e] at hb
    have hb':b=a:=List.mem_singleton.mp hb
    rw [hb']
    exact ⟨ha,hna⟩
  · have:ownAt (env.set i (.own (ps.map fun p=>.list p.2))) σ j=ownAt env σ j:=by unfold ownAt;rw [List.getElem?_set_ne hj]
    rw [this] at hb
    exact ⟨hb,fun z=>hj (A.sep i j b (hL b z) hb)⟩
 refine ⟨ex.filter fun b=>decide (b∉ps.map (·.1)),⟨by rw [List.length_set];exact A.ev.len,fun j w ew=>?_,fun b hb=>hin b (A.ev.ch b hb) fun z=>hc b z hb,fun b hb=>A.ev.al b (hsub b hb),A.ev.inv⟩,fun b hb=>hin b (A.ex0 b hb) fun z=>?_,A.al0,fun j k b q1 q2=>A.sep j k b (oo j b q1).1 (oo k b q2).1,fun j b q=>A.new j b (oo j b q).1,A.kp,fun x hx=>Rep.mono hsub (A.held x hx)⟩
 · by_cases hj:i=j
   · subst hj
     rw [List.getElem?_set_self (List.getElem?_eq_some_iff.mp h).1] at ew
     cases ew
     refine ⟨a,refs ps,e,o.h,by unfold refs;rw [List.length_map,sizeLine_eq];have:=o.z;omega,?_,hin a o.m hna,o.c⟩
     have:∀ qs:List (Addr×List PyData),(∀ q∈qs,q∈ps)→Reps (ex.filter fun b=>decide (b∉ps.map (·.1))) H (qs.map fun p=>PyData.list p.2) (refs qs):=by
      intro qs
      induction qs with
      | nil=>exact fun _=>.nil
      | cons q qs ih=>
       intro hq
       have hm:=hq q List.mem_cons_self
       obtain ⟨vs,g1,g2,g3⟩:=(o.i q hm).h
       exact .cons (.list g1 (hn q.1 (List.mem_map.mpr ⟨q,hm,rfl⟩)) g2 (Reps.mono hsub g3)) (ih fun x hx=>hq x (List.mem_cons_of_mem _ hx))
     exact this ps fun _ h=>h
   · rw [List.getElem?_set_ne hj] at ew
     have q:=A.ev.sl j w ew
     have ne:∀ b∈ownAt [w] [(σ[j]?).join] 0,b∉ps.map (·.1):=fun b hb z=>hj (A.sep i j b (hL b z) (by rw [own_one ew];exact hb))
     cases w with
     | jnk=>trivial
     | jar=>exact q
     | tape=>exact q
     | d x=>obtain ⟨v,e,r⟩:=q;exact ⟨v,e,Rep.mono hsub r⟩
     | pin v x=>obtain ⟨e,r⟩:=q;exact ⟨e,Rep.mono hsub r⟩
     | own ys=>obtain ⟨b,ws,e,g1,g2,g3,g4,g5⟩:=q;exact ⟨b,ws,e,g1,g2,Reps.mono hsub g3,hin b g4 (ne b (by rw [e];exact List.mem_cons_self)),g5⟩
     | dct kvs=>obtain ⟨b,ws,e,g1,⟨g2,g3⟩,g4,g5⟩:=q;exact ⟨b,ws,e,g1,⟨g2,Reps.mono hsub g3⟩,hin b g4 (ne b (by rw [e];exact List.mem_cons_self)),g5⟩
     | own2 ks qs=>obtain ⟨b,e,q⟩:=q;exact ⟨b,e,q.h,q.z,q.k,q.nd,hin b q.m (ne b (by rw [e];exact List.mem_cons_self)),q.c,fun p hp=>let w:=q.i p hp;⟨hin p.1 w.m (ne p.1 (by rw [e];exact List.mem_cons_of_mem _ (List.mem_map.mpr ⟨p,hp,rfl⟩))),w.c,let ⟨vs,h1,h2,h3⟩:=w.h;⟨vs,h1,h2,Reps.mono hsub h3⟩⟩⟩
 · exact A.al0 b hb (A.new i b (hL b z))
theorem At.jnk (A:At C ex env σ H n) (i:Nat):At C ex (env.set i .jnk) σ H n:=by
 have oo:∀ j b,b∈ownAt (env.set i .jnk) σ j→b∈ownAt env σ j:=fun j b hb=>by
  by_cases hj:i=j
  · subst hj
    unfold ownAt at hb
    by_cases hl:i<env.length
    · rw [List.getElem?_set_self hl] at hb;cases hb
    · rw [List.getElem?_eq_none (by rw [List.length_set];omega)] at hb;cases hb
  · have:ownAt (env.set i .jnk) σ j=ownAt env σ j:=by unfold ownAt;rw [List.getElem?_set_ne hj]
    rw [this] at hb
    exact hb
 refine A.bind ⟨by rw [List.length_set];exact A.ev.len,fun j w e=>?_,A.ev.ch,A.ev.al,A.ev.inv⟩ oo
 by_cases hj:i=j
 · subst hj
   have hl:i<env.length:=by
    have:=(List.getElem?_eq_some_iff.mp e).1
    rw [List.length_set] at this;exact this
   rw [List.getElem?_set_self hl] at e
   cases e
   trivial
 · rw [List.getElem?_set_ne hj] at e
   exact A.ev.sl j w e
theorem At.fz {env':List Vl}(f:Fz env env'):∀ {ex:List Addr},At C ex env σ H n→∃ ex',At C ex' env' σ H n:=by
 induction f with
 | refl=>exact fun A=>⟨_,A⟩
 | fz i xs h t ih=>exact fun A=>let ⟨_,B⟩:=A.fz1 h;ih B
 | jnk i t ih=>exact fun A=>ih (A.jnk i)
 | fz2 i ps h t ih=>exact fun A=>let ⟨_,B⟩:=A.fz2 h;ih B
 | fzh i ps h t ih=>exact fun A=>let ⟨_,B⟩:=A.fzh h;ih B
end
section
variable {te ta:TE}{ge ga:GE}{gn:GN}{t u tb:TS}{gt gu gb:GS}{i j:Nat}{K:PySem.W.Frag}
noncomputable instance sv_next:SV tNext (fun G env n=>G.nx env n):=⟨fun {C G D} O {ex env σ H n} A h=>O.nx A h⟩
noncomputable instance sv_never:SV tNever (fun _ _ _=>False):=⟨fun {C G D} O {ex env σ H n} A h=>h⟩
noncomputable abbrev gSeq (t u:GS):GS:=fun G env n=>t { G with nx:=fun env1 n1=>∃ env2,Fz env1 env2∧u G env2 n1 } env n
noncomputable instance sv_seq [T:SV t gt] [U:SV u gu]:SV (tSeq t u) (gSeq gt gu):=⟨fun {C G D} O {ex env σ H n} A h=>by
 refine T.sv (C:=C) (G:={ G with nx:=fun env1 n1=>∃ env2,Fz env1 env2∧gu G env2 n1 }) (D:={ D with nx:=u D }) ⟨fun {ex1 env1 σ1 H1 n1} A1 h1=>?_,O.bk,O.ct,O.rt,O.rtn,O.xc,O.r2⟩ A h
 obtain ⟨env2,f,h2⟩:=h1
 obtain ⟨ex2,A2⟩:=A1.fz f
 exact U.sv O A2 h2⟩
noncomputable abbrev gSet (i:Nat) (g:GE):GS:=fun G env n=>g env n fun d n1=>G.nx (env.set i (.d d)) n1
noncomputable abbrev gSetN (i:Nat) (g:GN):GS:=fun G env n=>g env n fun ds n1=>G.nx (env.set i (.own ds)) n1
noncomputable instance sv_setN [E:NV te gn]:SV (tAsg te (gName i)) (gSetN i gn):=⟨fun {C G D} O {ex env σ H n} A h=>E.nv A.ev h fun ds n1 a vs H1 h1 s1 ha hl hz r=>O.nx (A.own s1 ha hl hz r) h1⟩
noncomputable instance (priority:=low) sv_set [E:EV true te ge]:SV (tAsg te (gName i)) (gSet i ge):=⟨fun {C G D} O {ex env σ H n} A h=>E.ev A.ev h fun d n1 v H1 h1 s1 r=>O.nx ((A.step s1).put r) h1⟩
noncomputable instance sv_setC {wi:TI}{k:Nat}{idx:List Nat}{g:TG}{tt:TT} [E:NV (tComp wi k idx g tt te) gn]:SV (tSetComp i wi k idx g tt te) (gSetN i gn):=⟨fun {C G D} O {ex env σ H n} A h=>
 show tComp wi k idx g tt te σ H (fun v H2=>D.nx (σ.set i (some v)) H2) from E.nv A.ev h fun ds n1 a vs H1 h1 s1 ha hl hz r=>O.nx (A.own s1 ha hl hz r) h1⟩
noncomputable abbrev gAsg (bd:GG) (g:GE):GS:=fun G env n=>g env n fun d n1=>bd d env fun env1=>G.nx env1 n1
noncomputable instance (priority:=low) sv_asg {g:TG}{bd:GG}{ks:List Nat} [E:EV true te ge] [B:GV g bd ks]:SV (tAsg te g) (gAsg bd ge):=⟨fun {C G D} O {ex env σ H n} A h=>E.ev A.ev h fun d n1 v H1 h1 s1 r=>
 B.gv (A.step s1).ev r h1 fun env' σ' p E' o _ _=>O.nx ((A.step s1).bind E' o) p⟩
noncomputable abbrev gRet (g:GE):GS:=fun G env n=>g env n fun d n1=>G.rt d n1
noncomputable abbrev gRetN (g:GN):GS:=fun G env n=>g env n fun ds n1=>G.rtn ds n1
noncomputable abbrev gRetV (i:Nat):GS:=fun G env n=>match env[i]? with
 | some (.d x)=>G.rt x n
 | some (.own xs)=>G.rtn xs n
 | _=>False
noncomputable instance (priority:=low) sv_ret [E:EV true te ge]:SV (tRet te) (gRet ge):=⟨fun {C G D} O {ex env σ H n} A h=>E.ev A.ev h fun d n1 v H1 h1 s1 r=>O.rt ⟨(A.step s1).kp,s1.2,Rep.mono A.ex0 r⟩ h1⟩
noncomputable instance sv_retN [E:NV te gn]:SV (tRet te) (gRetN gn):=⟨fun {C G D} O {ex env σ H n} A h=>E.nv A.ev h fun ds n1 a vs H1 h1 s1 ha hl hz r=>
 O.rtn ⟨(A.step s1).kp,s1.2,A.free ha,vs,hl,hz,Reps.mono (fun b hb=>(List.mem_cons.mp hb).elim (fun e=>by rw [e];exact List.mem_cons_self) fun h=>List.mem_cons_of_mem _ (A.ex0 b h)) r⟩ h1⟩
noncomputable instance (priority:=high) sv_retV:SV (tRet (tVar i)) (gRetV i):=⟨fun {C G D} O {ex env σ H n} A h=>by
 unfold gRetV at h
 split at h
 · rename_i x e
   obtain ⟨v,ev,r⟩:=A.ev.sl i _ e
   exact ⟨v,join_some ev,O.rt ⟨A.kp,A.ev.inv,Rep.mono A.ex0 r⟩ h⟩
 · rename_i xs e
   obtain ⟨a,vs,ev,h1,h2,h3,h4,h5⟩:=A.ev.sl i _ e
   have ha:a∈ownAt env σ i:=by unfold ownAt;rw [e,ev];exact List.mem_singleton.mpr rfl
   obtain ⟨ex',A'⟩:=A.fz1 e
   obtain ⟨v',ev',r'⟩:=A'.ev.sl i _ (List.getElem?_set_self (List.getElem?_eq_some_iff.mp e).1)
   rw [ev] at ev'
   cases ev'
   have:=A.new i a ha
   refine ⟨_,join_some ev,O.rtn ⟨A.kp,A.ev.inv,this,vs,h1,h2,Reps.mono (fun b hb=>?_) h3⟩ h⟩
   rcases List.mem_cons.mp hb with rfl | hb
   · exact h4
   · exact A.ex0 b hb
 · exact h.elim⟩
noncomputable abbrev gIfS (c:GT) (t u:GS):GS:=fun G env n=>c env n fun b n1=>if b=true then t G env n1 else u G env n1
noncomputable instance sv_if {c:TT}{gc:GT} [X:TV c gc] [T:SV t gt] [U:SV u gu]:SV (tIfS c t u) (gIfS gc gt gu):=⟨fun {C G D} O {ex env σ H n} A h=>X.tv A.ev h fun b n1 H1 h1 s1=>by
 cases b with
 | true=>exact T.sv O (A.step s1) h1
 | false=>exact U.sv O (A.step s1) h1⟩
noncomputable abbrev gFor (gi:GN) (bd:GG) (gb:GS):GS:=fun G env n=>gi env n fun items n1=>∃ W:Nat→List Vl→Nat→Prop,W 0 env n1 ∧
 (∀ i x env n,items[i]? = some x→W i env n→bd x env fun env1=>gb { G with nx:=W (i+1),ct:=W (i+1),bk:=G.nx } env1 n)∧∀ env n,W items.length env n→G.nx env n
noncomputable instance sv_for {wi:TI}{gi:GN}{g:TG}{bd:GG}{ks:List Nat} [I:IV wi gi] [B:GV g bd ks] [T:SV tb gb]:SV (tFor wi g tb) (gFor gi bd gb):=⟨fun {C G D} O {ex env σ H n} A h=>I.iv A.ev h fun items n1 J hd H1 h1 s1 hr hit=>by
 obtain ⟨W,w0,wt,wd⟩:=h1
 have A1:=A.step s1
 have dropd:∀ {ex2 env2 σ2 H2 n2},At { C with held:=hd++C.held } ex2 env2 σ2 H2 n2→At C ex2 env2 σ2 H2 n2:=fun {_ _ _ _ _} B=>⟨B.ev,B.ex0,B.al0,B.sep,B.new,B.kp,fun h hh=>B.held h (List.mem_append_right _ hh)⟩
 refine ⟨fun i m σ2 H2=>i≤items.length∧m=items.length-i∧∃ ex2 env2 n2,At { C with held:=hd++C.held } ex2 env2 σ2 H2 n2∧W i env2 n2,⟨_,Nat.zero_le _,rfl,ex,env,n1,⟨A1.ev,A1.ex0,A1.al0,A1.sep,A1.new,A1.kp,fun h hh=>(List.mem_append.mp hh).elim (hr h) (A1.held h)⟩,w0⟩,?_⟩
 rintro i m σ2 H2 ⟨hi,rfl,ex2,env2,n2,A2,w2⟩
 have IT:=hit ex2 H2 A2.ev.al fun h hh=>A2.held h (List.mem_append_left _ hh)
 rcases Nat.lt_or_ge i items.length with hlt | hge
 · refine .inr ⟨(IT.2 i items[i] (List.getElem?_eq_getElem hlt)).1,fun σ' H'=>∃ ex3 env3 n3,At { C with held:=hd++C.held } ex3 env3 σ' H' n3∧W (i+1) env3 n3,fun σ' H' h=>⟨items.length-(i+1),by omega,hlt,rfl,h⟩,fun x H3 y=>?_⟩
   obtain ⟨kp3,rx⟩:=(IT.2 i items[i] (List.getElem?_eq_getElem hlt)).2 x H3 y
   have A3:=A2.step (Step.new A2.ev.inv kp3)
   refine B.gv A3.ev rx (wt i _ env2 n2 (List.getElem?_eq_getElem hlt) w2) fun env' σ' p E' o _ _=>?_
   refine T.sv (C:={ C with held:=hd++C.held }) (G:={ G with nx:=W (i+1),ct:=W (i+1),bk:=G.nx }) (D:={ D with nx:=fun σ' H'=>∃ ex3 env3 n3,At { C with held:=hd++C.held } ex3 env3 σ' H' n3∧W (i+1) env3 n3,ct:=fun σ' H'=>∃ ex3 env3 n3,At { C with held:=hd++C.held } ex3 env3 σ' H' n3∧W (i+1) env3 n3,bk:=D.nx }) ⟨fun A4 w4=>⟨_,_,_,A4,w4⟩,fun A4 q4=>O.nx (dropd A4) q4,fun A4 w4=>⟨_,_,_,A4,w4⟩,fun R q=>O.rt ⟨R.kp,R.inv,R.r⟩ q,fun R q=>O.rtn ⟨R.kp,R.inv,R.fr,R.r⟩ q,O.xc,fun R q=>O.r2 ⟨R.kp,R.inv,R.fr,R.frs,R.o⟩ q⟩ (A3.bind E' o) p
 · have e:i=items.length:=by omega
   subst e
   exact .inl ⟨IT.1,O.nx (dropd A2) (wd _ _ w2)⟩⟩
noncomputable abbrev gWhile (c:GT) (gb:GS):GS:=fun G env n=>∃ W:Nat→List Vl→Nat→Prop,(∃ m,W m env n)∧∀ m env n,W m env n→c env n fun b n1=>
 if b=true then gb { G with nx:=fun env1 n2=>∃ m',m'<m∧W m' env1 n2,ct:=fun env1 n2=>∃ m',m'<m∧W m' env1 n2,bk:=G.nx } env n1 else G.nx env n1
noncomputable instance sv_while {c:TT}{gc:GT} [X:TV c gc] [T:SV tb gb]:SV (tWhile c tb) (gWhile gc gb):=⟨fun {C G D} O {ex env σ H n} A h=>by
 obtain ⟨W,⟨m0,w0⟩,wt⟩:=h
 refine ⟨fun m σ2 H2=>∃ ex2 env2 n2,At C ex2 env2 σ2 H2 n2∧W m env2 n2,⟨m0,ex,env,n,A,w0⟩,?_⟩
 rintro m σ2 H2 ⟨ex2,env2,n2,A2,w2⟩
 refine X.tv A2.ev (wt m env2 n2 w2) fun b n3 H3 h3 s3=>?_
 cases b with
 | true=>
  refine iteT ⟨fun σ' H'=>∃ m',m'<m∧∃ ex2 env2 n2,At C ex2 env2 σ' H' n2∧W m' env2 n2,fun σ' H' h=>h,?_⟩
  exact T.sv (C:=C) (G:={ G with nx:=fun env1 n2=>∃ m',m'<m∧W m' env1 n2,ct:=fun env1 n2=>∃ m',m'<m∧W m' env1 n2,bk:=G.nx }) (D:={ D with nx:=fun σ' H'=>∃ m',m'<m∧∃ ex2 env2 n2,At C ex2 env2 σ' H' n2∧W m' env2 n2,ct:=fun σ' H'=>∃ m',m'<m∧∃ ex2 env2 n2,At C ex2 env2 σ' H' n2∧W m' env2 n2,bk:=D.nx }) ⟨fun A4 ⟨m',hm,w4⟩=>⟨m',hm,_,_,_,A4,w4⟩,fun A4 q4=>O.nx A4 q4,fun A4 ⟨m',hm,w4⟩=>⟨m',hm,_,_,_,A4,w4⟩,O.rt,O.rtn,O.xc,O.r2⟩ (A2.step s3) h3
 | false=>exact iteF (O.nx (A2.step s3) h3)⟩
noncomputable abbrev gAug (i:Nat) (g:GE) (f:Int→Int→Int):GS:=fun G env n=>match env[i]? with
 | some (.d (.int x))=>g env n fun d n1=>(match d with | .int y=>G.nx (env.set i (.d (.int (f x y)))) n1 | _=>False)
 | _=>False
noncomputable instance sv_aug {f:Int→Int→Int} [E:EV false te ge]:SV (tAug i te (ipI f)) (gAug i ge f):=⟨fun {C G D} O {ex env σ H n} A h=>by
 unfold gAug at h
 split at h
 · rename_i x e
   obtain ⟨v,ev,r⟩:=A.ev.sl i _ e
   cases r
   refine ⟨_,join_some ev,E.ev A.ev h fun d n1 v H1 h1 s1 r=>?_⟩
   cases r with
   | int y=>exact ⟨x,y,rfl,rfl,O.nx ((A.step s1).put (.int _)) h1⟩
   | none=>exact h1.elim
   | obj=>exact h1.elim
   | dctf=>exact h1.elim
   | bool=>exact h1.elim
   | str=>exact h1.elim
   | tuple=>exact h1.elim
   | list=>exact h1.elim
 · exact h.elim⟩
theorem At.at_own {C:Cv}{ex:List Addr}{env:List Vl}{σ:L2.St}{H:Hp}{n:Nat}(A:At C ex env σ H n) {i:Nat}{xs:List PyData}(e:env[i]? = some (.own xs)):∃ a vs,(σ[i]?).join=some (.ref a)∧H a=some (.lst vs)∧vs.length≤sizeLine∧Reps ex H xs vs:=by
 obtain ⟨a,vs,ev,h1,h2,h3,h4,h5⟩:=A.ev.sl i _ e
 exact ⟨a,vs,ev,h1,h2,h3⟩
noncomputable abbrev gApp (i:Nat) (g:GE):GS:=fun G env n=>match env[i]? with
 | some (.own xs)=>g env n fun d n1=>xs.length<sizeLine∧G.nx (env.set i (.own (xs++[d]))) n1
 | _=>False
theorem own_step {C:Cv}{ex:List Addr}{env:List Vl}{σ:L2.St}{H H1:Hp}{n n1:Nat}{i:Nat}{xs:List PyData}{a:Addr}{vs:List V}(A:At C ex env σ H n) (e:env[i]? = some (.own xs)) (ev:(σ[i]?).join=some (.ref a)) (h1:H a=some (.lst vs)) (r:Reps ex H xs vs) (s:Step C.S n1 H H1):H1 a=some (.lst vs)∧Reps ex H1 xs vs:=by
 have ha:a∈ownAt env σ i:=by unfold ownAt;rw [e,ev];exact List.mem_singleton.mpr rfl
 exact ⟨s.1 _ _ h1 (own_sl A.ev ha).2.2,A.ev.reps s r⟩
noncomputable instance sv_app [E:EV true te ge]:SV (tDrop (tBM K "list" rAppend (tVar i) (tCons te tNil))) (gApp i ge):=⟨fun {C G D} O {ex env σ H n} A h=>by
 unfold gApp at h
 split at h
 · rename_i xs e
   obtain ⟨a,vs,ev,h1,h2,h3⟩:=A.at_own e
   refine ⟨_,join_some ev,.inl ⟨rfl,_,SqL.of h1⟩,E.ev A.ev h fun d n1 v H1 hd s1 r=>?_⟩
   obtain ⟨g1,g2⟩:=own_step A e ev h1 h3 s1
   have l:=g2.length
   exact ⟨a,vs,v,rfl,rfl,g1,by rw [← l];exact hd.1,O.nx ((A.step s1).re e ev (Reps.append g2 (.cons r .nil)) (by rw [List.length_append,List.length_singleton,← l];exact hd.1)) hd.2⟩
 · exact h.elim⟩
noncomputable abbrev gExt (i:Nat) (g:GE):GS:=fun G env n=>match env[i]? with
 | some (.own xs)=>g env n fun d n1=>(match d with | .list ys=>xs.length+ys.length≤sizeLine∧G.nx (env.set i (.own (xs++ys))) n1 | _=>False)
 | _=>False
noncomputable instance sv_ext [E:EV true te ge]:SV (tDrop (tBM K "list" rExtend (tVar i) (tCons te tNil))) (gExt i ge):=⟨fun {C G D} O {ex env σ H n} A h=>by
 unfold gExt at h
 split at h
 · rename_i xs e
   obtain ⟨a,vs,ev,h1,h2,h3⟩:=A.at_own e
   refine ⟨_,join_some ev,.inl ⟨rfl,_,SqL.of h1⟩,E.ev A.ev h fun d n1 v H1 hd s1 r=>?_⟩
   obtain ⟨g1,g2⟩:=own_step A e ev h1 h3 s1
   have l:=g2.length
   cases r with
   | list e2 m2 z2 rs=>
    have l2:=rs.length
    exact ⟨a,_,vs,_,rfl,rfl,g1,e2,by rw [← l,← l2];exact hd.1,O.nx ((A.step s1).re e ev (Reps.append g2 rs) (by rw [List.length_append,← l,← l2];exact hd.1)) hd.2⟩
   | none=>exact hd.elim
   | obj=>exact hd.elim
   | dctf=>exact hd.elim
   | bool=>exact hd.elim
   | str=>exact hd.elim
   | tuple=>exact hd.elim
   | int=>exact hd.elim
 · exact h.elim⟩
theorem len_erase (vs:List V) (k:Nat):(vs.eraseIdx k).length≤vs.length:=by
 rw [List.length_eraseIdx];split<;>omega
end
theorem ArgsR.len {S:Src}{ex:List Addr}{H:Hp}:∀ {as:List Vl}{vs:List V},ArgsR S ex H as vs→as.length=vs.length
 | [],[],_=>rfl
 | _::_,_::_,h=>by rw [List.length_cons,List.length_cons,ArgsR.len h.2]
 | [],_::_,h=>h.elim
 | _::_,[],h=>h.elim
theorem ArgsR.get {S:Src}{ex:List Addr}{H:Hp}:∀ {as:List Vl}{vs:List V}{i:Nat}{w:Vl},ArgsR S ex H as vs→as[i]? = some w→∃ v,vs[i]? = some v∧SlR S ex H w (some v)
 | [],[],_,_,_,e=>by simp at e
 | _::_,v::_,0,_,h,e=>by simp at e;subst e;exact ⟨v,rfl,h.1⟩
 | _::_,_::_,i+1,_,h,e=>by simpa using ArgsR.get (i:=i) h.2 (by simpa using e)
 | [],_::_,_,_,h,_=>h.elim
 | _::_,[],_,_,h,_=>h.elim
noncomputable def plainA:Vl→Bool
 | .own _ | .dct _ | .own2 _ _=>false
 | _=>true
noncomputable def envOf (N:List Str) (as:List Vl):List Vl:=as++List.replicate (N.length-as.length) .jnk
theorem at_start {S:Src}{ex:List Addr}{H:Hp}{as:List Vl}{vs:List V}{n:Nat}{N:List Str}(r:ArgsR S ex H as vs) (hp:as.all plainA=true) (hc:∀ a∈S.ch,a∈ex) (al:Alc ex H) (iv:S.inv n H):At ⟨S,ex,H,[]⟩ ex (envOf N as) (start N vs) H n:=by
 have l:=r.len
 have no:∀ i,ownAt (envOf N as) (start N vs) i=[]:=fun i=>by
  unfold ownAt envOf
  cases e:(as++List.replicate (N.length-as.length) Vl.jnk)[i]? with
  | none=>rfl
  | some w=>
   have:w∈as++List.replicate (N.length-as.length) Vl.jnk:=List.mem_of_getElem? e
   have hw:plainA w=true:=by
    rcases List.mem_append.mp this with h | h
    · exact List.all_eq_true.mp hp w h
    · rw [(List.mem_replicate.mp h).2];rfl
   cases w with
   | own _=>cases hw
   | dct _=>cases hw
   | own2 _ _=>cases hw
   | _=>rfl
 refine ⟨⟨?_,fun i w e=>?_,hc,al,iv⟩,fun a h=>h,al,fun i j a h=>?_,fun i a h=>?_,.refl,fun h hh=>by cases hh⟩
 · unfold envOf L2.start
   rw [List.length_append,List.length_append,List.length_replicate,List.length_replicate,List.length_map,l];exact Nat.le_refl _
 · unfold envOf at e
   by_cases hi:i<as.length
   · rw [List.getElem?_append_left hi] at e
     obtain ⟨v,hv,sr⟩:=r.get e
     have:(start N vs)[i]? = some (some v):=by
      unfold L2.start
      rw [List.getElem?_append_left (by rw [List.length_map,← l];exact hi),List.getElem?_map,hv];rfl
     rw [this]
     exact sr
   · rw [List.getElem?_append_right (Nat.le_of_not_lt hi)] at e
     have:w = .jnk:=(List.mem_replicate.mp (List.mem_of_getElem? e)).2
     subst this
     trivial
 · rw [no] at h;cases h
 · rw [no] at h;cases h
noncomputable def endsV (P:PyData→Nat→Prop):VEnds:={ nx:=fun _ n=>P .none n,rt:=P,rtn:=fun ds n=>P (.list ds) n,rt2:=fun xss n=>P (.list (xss.map .list)) n }
noncomputable def endsN (P:List PyData→Nat→Prop):VEnds:={ nx:=fun _ _=>False,rt:=fun _ _=>False,rtn:=P }
theorem ret2_rep {C:Cv}{ps:List (Addr×List PyData)}{n:Nat}{a:Addr}{H:Hp}(al:Alc C.ex0 C.H0) (R:Ret2 C ps n a H):Rep C.ex0 H (.list ((ps.map (·.2)).map .list)) (.ref a):=by
 refine .list R.o.h (al.nm R.fr) (by unfold refs;rw [List.length_map,sizeLine_eq];have:=R.o.z;omega) ?_
 have:∀ qs:List (Addr×List PyData),(∀ q∈qs,q∈ps)→Reps C.ex0 H ((qs.map (·.2)).map .list) (refs qs):=by
  intro qs
  induction qs with
  | nil=>exact fun _=>.nil
  | cons q qs ih=>
   intro hq
   have hm:=hq q List.mem_cons_self
   obtain ⟨vs,g1,g2,g3⟩:=(R.o.i q hm).h
   exact .cons (.list g1 (al.nm (R.frs q hm)) g2 (Reps.mono (fun b hb=>List.mem_append_right _ hb) g3)) (ih fun x hx=>hq x (List.mem_cons_of_mem _ hx))
 exact this ps fun _ h=>h
theorem lift_body {sp:GSp}{gs:GS}{ts:TS}{N:List Str}{vs:List V}{H:Hp}{Q:VK}{E:XK} [T:SV ts gs] (h:liftV sp vs H Q E) (hs:∀ as n P,sp as n P→as.all plainA=true∧gs (endsV P) (envOf N as) n):ts { nx:=fun _ H'=>Q .non H',rt:=Q } (start N vs) H:=by
 obtain ⟨S,ex,as,n,P,r,hc,al,iv,p,q⟩:=h
 obtain ⟨hp,g⟩:=hs as n P p
 refine T.sv (C:=⟨S,ex,H,[]⟩) (G:=endsV P) ⟨fun {ex' env σ H' n'} A h=>?_,fun _ h=>h.elim,fun _ h=>h.elim,fun R h=>?_,fun {ds n' a H'} R h=>?_,fun _ _ h=>h.elim,fun {ps n' a H'} R h=>?_⟩ (at_start r hp hc al iv) g
 · exact q _ _ _ _ h ⟨A.kp,A.ev.inv⟩ .none
 · exact q _ _ _ _ h ⟨R.kp,R.inv⟩ R.r
 · obtain ⟨ws,h1,h2,h3⟩:=R.r
   exact q _ _ _ _ h ⟨R.kp,R.inv⟩ (.list h1 (al.nm R.fr) h2 (Reps.sub h3))
 · exact q _ _ _ _ h ⟨R.kp,R.inv⟩ (ret2_rep al R)
theorem lift_bodyN {sp:GSn}{gs:GS}{ts:TS}{N:List Str}{vs:List V}{H:Hp}{Q:VK}{E:XK} [T:SV ts gs] (h:liftN sp vs H Q E) (hs:∀ as n P,sp as n P→as.all plainA=true∧gs (endsN P) (envOf N as) n):ts { nx:=fun _ H'=>Q .non H',rt:=Q } (start N vs) H:=by
 obtain ⟨S,ex,as,n,P,r,hc,al,iv,p,q⟩:=h
 obtain ⟨hp,g⟩:=hs as n P p
 refine T.sv (C:=⟨S,ex,H,[]⟩) (G:=endsN P) ⟨fun _ h=>h.elim,fun _ h=>h.elim,fun _ h=>h.elim,fun _ h=>h.elim,fun {ds n' a H'} R h=>?_,fun _ _ h=>h.elim,fun _ h=>h.elim⟩ (at_start r hp hc al iv) g
 obtain ⟨ws,h1,h2,h3⟩:=R.r
 exact q _ _ _ _ _ h ⟨R.kp,R.inv⟩ R.fr h1 h2 h3
theorem lift_len {sp:GSp}{k:Nat}(h:∀ as n P,sp as n P→as.length=k):∀ vs H Q E,liftV sp vs H Q E→vs.length=k:=fun vs H Q E ⟨S,ex,as,n,P,r,_,_,_,p,_⟩=>by rw [← r.len];exact h _ _ _ p
theorem lift_lenN {sp:GSn}{k:Nat}(h:∀ as n P,sp as n P→as.length=k):∀ vs H Q E,liftN sp vs H Q E→vs.length=k:=fun vs H Q E ⟨S,ex,as,n,P,r,_,_,_,p,_⟩=>by rw [← r.len];exact h _ _ _ p
section
variable {turn:PyData→Nat→(Option PyData→Nat→Prop)→Prop}{items:List PyData}{n:Nat}{Q:List PyData→Nat→Prop}
theorem cmpW_map (f:PyData→PyData) (h:∀ x∈items,∀ n K,K (some (f x)) n→turn x n K) (q:Q (items.map f) n):cmpW turn items n Q:=by
 induction items generalizing n Q with
 | nil=>exact q
 | cons x xs ih=>exact h x List.mem_cons_self _ _ (ih (fun y hy=>h y (List.mem_cons_of_mem _ hy)) q)
theorem cmpW_inv (R:PyData→Prop) (I:Nat→Prop) (h:∀ x∈items,∀ n K,I n→(∀ y n',R y→I n'→K (some y) n')→turn x n K) (h0:I n) (q:∀ ys n',ys.length=items.length→(∀ y∈ys,R y)→I n'→Q ys n'):cmpW turn items n Q:=by
 induction items generalizing n Q with
 | nil=>exact q [] n rfl (fun y hy=>by cases hy) h0
 | cons x xs ih=>
  refine h x List.mem_cons_self _ _ h0 fun y n' hy hn=>ih (fun z hz=>h z (List.mem_cons_of_mem _ hz)) hn fun ys n2 hl hr hn2=>q _ _ (by simp [hl]) (fun z hz=>?_) hn2
  rcases List.mem_cons.mp hz with rfl | hz
  · exact hy
  · exact hr z hz
end
theorem Fz.eq {a b:List Vl}(h:a=b):Fz a b:=h ▸ .refl
noncomputable abbrev lstI (ns:List Int):PyData:=.list (ns.map .int)
theorem args2 {S:Src}{ex:List Addr}{H:Hp}{a b:Vl}{vs:List V}(h:ArgsR S ex H [a,b] vs):∃ u v,vs=[u,v]∧SlR S ex H a (some u)∧SlR S ex H b (some v):=by
 match vs,h with
 | [u,v],h=>exact ⟨u,v,rfl,h.1,h.2.1⟩
 | [],h=>exact h.elim
 | [_],h=>exact h.2.elim
 | _::_::_::_,h=>exact h.2.2.elim
noncomputable def gsPick:GSp:=fun as n Q=>∃ many:Int,as=[.jar,.d (.int many)]∧0<many∧many<2^9000∧∀ r:Int,0≤r→r<many→Q (.int r) n
noncomputable instance scal_pick:Scal gsPick:=⟨fun {as n P} h=>by
 obtain ⟨many,e,h0,h1,q⟩:=h
 exact ⟨many,e,h0,h1,fun r r0 r1=>⟨rfl,q r r0 r1⟩⟩⟩
theorem imp_pick:∀ (vs:List V) (H:Hp) (Q:VK) (E:XK),liftV gsPick vs H Q E→spPickE vs H Q E:=fun vs H Q E h=>by
 obtain ⟨S,ex,as,n,P,r,hc,al,iv,⟨many,rfl,h0,h1,q⟩,k⟩:=h
 obtain ⟨u,v,rfl,⟨p,c,rfl,eu⟩,⟨w,ew,rw'⟩⟩:=args2 r
 cases eu
 cases ew
 cases rw'
 obtain ⟨e,J,hn⟩:=iv
 exact ⟨p,c,many,e,rfl,J,h0,h1,fun r H' r0 r1 J' kp=>k _ _ _ _ (q r r0 r1) ⟨kp,⟨e,J',hn⟩⟩ (.int r)⟩
theorem at_getD {α:Type}{xs:List α}{i:Int}{d:α}(h0:0≤i) (h:xs[i.toNat]? = some d):atI xs i=some d:=by
 have:=(List.getElem?_eq_some_iff.mp h).1
 unfold atI
 rw [ixN_of h0 (by omega)]
 exact h
class SQ (te:TE) (g:outParam GN):Prop where
 sq:∀ {S:Src} {ex:List Addr} {env:List Vl} {σ:L2.St} {H:Hp} {n:Nat} {Q:VK} {P:List PyData→Nat→Prop},Ev S ex env σ H n→g env n P→(∀ ds n' a vs H',P ds n'→Step S n' H H'→a∉S.ch→H' a=some (.lst vs)→vs.length≤sizeLine→Reps ex H' ds vs→Q (.ref a) H')→te σ H Q
noncomputable abbrev gSq (i:Nat):GN:=fun env n Q=>match env[i]? with
 | some (.own xs)=>Q xs n
 | some (.d (.list xs))=>Q xs n
 | _=>False
noncomputable instance (priority:=high) sq_var {i:Nat}:SQ (tVar i) (gSq i):=⟨fun {S ex env σ H n Q P} E h k=>by
 unfold gSq at h
 split at h
 · rename_i xs e
   obtain ⟨a,vs,ev,h1,h2,h3,h4,h5⟩:=E.sl i _ e
   exact ⟨_,join_some ev,k _ _ _ _ _ h (.refl E.inv) h5 h1 h2 h3⟩
 · rename_i xs e
   obtain ⟨v,ev,r⟩:=E.sl i _ e
   cases r with
   | list e1 m z rs=>exact ⟨_,join_some ev,k _ _ _ _ _ h (.refl E.inv) (fun z=>m (E.ch _ z)) e1 z rs⟩
 · exact h.elim⟩
noncomputable abbrev gSqE (g:GE):GN:=fun env n Q=>g env n fun d n1=>match d with
 | .list xs=>Q xs n1
 | _=>False
noncomputable instance (priority:=low) sq_ev {te:TE}{g:GE} [A:EV true te g]:SQ te (gSqE g):=⟨fun {S ex env σ H n Q P} E h k=>A.ev E h fun d n1 v H1 h1 s1 r1=>by
 cases r1 with
 | list e m z rs=>exact k _ _ _ _ _ h1 s1 (fun z=>m (E.ch _ z)) e z rs
 | none=>exact h1.elim
 | obj=>exact h1.elim
 | dctf=>exact h1.elim
 | bool=>exact h1.elim
 | str=>exact h1.elim
 | int=>exact h1.elim
 | tuple=>exact h1.elim⟩
noncomputable instance sq_nv {te:TE}{g:GN} [A:NV te g]:SQ te g:=⟨fun {S ex env σ H n Q P} E h k=>A.nv E h fun ds n1 a vs H1 h1 s1 ha hl hz r=>k _ _ _ _ _ h1 s1 (fun z=>S.dom E.inv a z ha) hl hz (Reps.sub r)⟩
noncomputable abbrev gCatS (ga gb:GN):GN:=fun env n Q=>ga env n fun xs n1=>gb env n1 fun ys n2=>xs.length+ys.length≤sizeLine∧Q (xs++ys) n2
noncomputable instance (priority:=high) nv_catS {ta tb:TE}{ga gb:GN} [A:SQ ta ga] [B:SQ tb gb]:NV (tOp rCat ta tb) (gCatS ga gb):=⟨fun {S ex env σ H n Q P} E h k=>
 A.sq E h fun xs n1 a vs H1 h1 s1 na ha hz r1=>B.sq (E.step s1) h1 fun ys n2 b us H2 h2 s2 nb hb hz2 r2=>by
  have r1':=(E.step s1).reps s2 r1
  have l1:=r1'.length
  have l2:=r2.length
  refine ⟨a,b,vs,us,rfl,rfl,s2.1 _ _ ha na,hb,by rw [← l1,← l2];exact h2.1,fun p hp=>?_⟩
  obtain ⟨c1,c2,c3⟩:=nv_close E (s1.trans s2) hp (Reps.append r1' r2)
  exact k _ _ _ _ _ h2.2 c1 c2 upd_same (by rw [List.length_append,← l1,← l2];exact h2.1) c3⟩
noncomputable abbrev gSlS (g:GN) (gl gh:List Vl→Nat→(Option Int→Nat→Prop)→Prop):GN:=fun env n Q=>g env n fun xs n1=>gl env n1 fun lo n2=>gh env n2 fun hi n3=>Q (cutD xs lo hi) n3
noncomputable instance (priority:=high) nv_slS {K:PySem.W.Frag}{te:TE}{g:GN}{tl th:TO}{gl gh:List Vl→Nat→(Option Int→Nat→Prop)→Prop} [A:SQ te g] [B:OPV tl gl] [C:OPV th gh]:NV (tSl (rSlL K) te tl th) (gSlS g gl gh):=⟨fun {S ex env σ H n Q P} E h k=>
 A.sq E h fun xs n1 a vs H1 h1 s1 na ha hz r1=>B.op (E.step s1) h1 fun lo n2 H2 h2 s2=>C.op (E.step (s1.trans s2)) h2 fun hi n3 H3 h3 s3=>by
  have r3:=(E.step s1).reps (s2.trans s3) r1
  refine ⟨a,vs,rfl,SqL.of ((s2.trans s3).1 _ _ ha na),fun p hp=>?_⟩
  obtain ⟨c1,c2,c3⟩:=nv_close E ((s1.trans s2).trans s3) hp (reps_cut r3 lo hi)
  exact k _ _ _ _ _ h3 c1 c2 upd_same (Nat.le_trans (cutV_length _ _ _) hz) c3⟩
section
variable {X:Cx}
end
section
variable {K:PySem.W.Frag}{H:Hp}{ex:List Addr}
end
theorem jar_most {c:Addr}{r s t m:Int}:valV (jarKV c r s (t,some m)) (Sum.inr "turns")=some (V.int m):=by
 unfold jarKV
 rw [valV_neg str_cm,valV_neg str_rm,valV_neg str_sm,valV_neg str_tm]
 exact valV_pos rfl
noncomputable abbrev gMost (i:Nat):GE:=fun env n Q=>match env[i]? with
 | some .jar=>0<n∧Q (.int ((n:Int)-1)) n
 | _=>False
noncomputable instance (priority:=high) ev_most {b:Bool}{i:Nat}:EV b (tDGet (tVar i) (tC (.str "turns"))) (gMost i):=⟨fun {S ex env σ H n Q P} E h k=>by
 unfold gMost at h
 split at h
 · rename_i e
   obtain ⟨p,c,rfl,ev⟩:=E.sl i _ e
   obtain ⟨e',⟨ns,r,sd,tn,X,hl⟩,hn⟩:=E.inv
   have he:e'=some ((n:Int)-1):=hn.resolve_left (by have:=h.1;omega)
   subst he
   refine ⟨_,join_some ev,p,_,rfl,?_,k _ _ _ _ h.2 (.refl E.inv) (.int _)⟩
   have:=DGet.k (k:=Sum.inr "turns") X.d
   rw [jar_most] at this
   exact this
 · exact h.elim⟩
theorem jar_putMost {c:Addr}{r s x:Int}{t:Int×Option Int}:putK (jarKV c r s t) (Sum.inr "turns") (V.int x)=jarKV c r s (t.1,some x):=by
 unfold putK jarKV
 obtain ⟨t,e⟩:=t
 cases e with
 | none=>
  rw [if_neg]
  · rfl
  · simp only [mostKV,List.any_cons,List.any_nil,decide_eq_false str_cm,decide_eq_false str_rm,decide_eq_false str_sm,decide_eq_false str_tm]
    decide
 | some m=>
  rw [if_pos]
  · simp only [mostKV,List.map_cons,List.map_nil,if_neg str_cm,if_neg str_rm,if_neg str_sm,if_neg str_tm,if_true]
  · simp [mostKV]
noncomputable abbrev gPutMost (i:Nat) (g:GE):GS:=fun G env n=>g env n fun d n1=>match d,env[i]? with
 | .int m,some .jar=>0≤m∧G.nx env (m.toNat+1)
 | _,_=>False
theorem At.jar_put {C:Cv}{ex:List Addr}{env:List Vl}{σ:L2.St}{H:Hp}{n m:Nat}{p c:Addr}{o:HO}(A:At C ex env σ H n) (hS:C.S=Src.jar p c) (iv:JarN (upd H p o) p c m):At C ex env σ (upd H p o) m:=by
 refine A.step ⟨Kp.at (by rw [hS];exact List.mem_cons_self) _,by rw [hS];exact iv⟩
noncomputable instance sv_putMost {i:Nat}{tv:TE}{gv:GE} [E:EV false tv gv]:SV (sDPut (tVar i) (tC (.str "turns")) tv) (gPutMost i gv):=⟨fun {C G D} O {ex env σ H n} A h=>E.ev A.ev h fun d n1 v H1 h1 s1 r=>by
 have A1:=A.step s1
 split at h1
 · rename_i m e
   cases r
   obtain ⟨p,c,hS,ev⟩:=A1.ev.sl i _ e
   obtain ⟨hm,q⟩:=h1
   have iv:=A1.ev.inv
   rw [hS] at iv
   obtain ⟨e',⟨ns,r,sd,tn,X,hl⟩,hn⟩:=iv
   refine ⟨_,join_some ev,p,upd H1 p (.dK (putK (jarKV c r sd (tn,e')) (Sum.inr "turns") (V.int m))),rfl,DPut.k (k:=Sum.inr "turns") X.d (jar_short _),?_⟩
   rw [jar_putMost]
   refine O.nx (A1.jar_put hS (m:=m.toNat+1) ⟨some m,⟨ns,r,sd,tn,X.put r sd (tn,some m),hl⟩,.inr (congrArg some (by omega))⟩) q
 · exact h1.elim⟩
structure Fa where
 len:Int
 a:Int
 b:Int
 g:Nat→Int
 d:Nat→Int
noncomputable def Fa.then (x y:Fa):Fa:=⟨x.len+y.len,x.a,y.b,fun i=>x.g i+y.g i,fun i=>max (x.d i) (y.d i-x.g i)⟩
noncomputable def faWay (w:Way):Fa:=⟨1,w.a,w.b,fun i=>w.g.getD i 0,fun i=>max 0 (-(w.g.getD i 0))⟩
noncomputable def rowFrom (f:Fa):List Fa→Fa
 | []=>f
 | x::xs=>rowFrom (f.then x) xs
noncomputable def rowF:List Fa→Fa
 | []=>⟨0,0,0,fun _=>0,fun _=>0⟩
 | x::xs=>rowFrom x xs
noncomputable def All2 {α β:Type}(R:α→β→Prop):List α→List β→Prop
 | [],[]=>True
 | x::xs,y::ys=>R x y∧All2 R xs ys
 | _,_=>False
theorem All2.length {α β:Type}{R:α→β→Prop}:∀ {xs:List α}{ys:List β},All2 R xs ys→xs.length=ys.length
 | [],[],_=>rfl
 | _::_,_::_,h=>by simp [All2.length h.2]
 | [],_::_,h=>h.elim
 | _::_,[],h=>h.elim
theorem All2.get {α β:Type}{R:α→β→Prop}:∀ {xs:List α}{ys:List β}{i:Nat}{x:α},All2 R xs ys→xs[i]? = some x→∃ y,ys[i]? = some y∧R x y
 | [],[],_,_,_,e=>by simp at e
 | _::_,y::_,0,_,h,e=>by simp at e;subst e;exact ⟨y,rfl,h.1⟩
 | _::_,_::_,i+1,_,h,e=>by simpa using All2.get (i:=i) h.2 (by simpa using e)
 | [],_::_,_,_,h,_=>h.elim
 | _::_,[],_,_,h,_=>h.elim
noncomputable def Leads:List Fa→Prop
 | []=>True
 | [_]=>True
 | x::y::r=>x.b=y.a∧Leads (y::r)
noncomputable def fl (u:Nat) (f:Nat→Int):List PyData:=(List.range u).map fun i=>.int (f i)
theorem fEq_t {s:Str}{Q:PyData→Prop}(h:Q (.bool true)):fEq false (.str s) (.str s) Q:=by
 unfold fEq
 simp only [eqS,decide_true]
 exact h
theorem fEq_f {s t:Str}{Q:PyData→Prop}(hne:¬ s=t) (h:Q (.bool false)):fEq false (.str s) (.str t) Q:=by
 unfold fEq
 simp only [eqS,decide_eq_false hne]
 exact h
theorem rowFrom_a:∀ (fs:List Fa) (f:Fa),(rowFrom f fs).a=f.a
 | [],f=>rfl
 | y::ys,f=>rowFrom_a ys (f.then y)
theorem rowFrom_b:∀ (fs:List Fa) (f:Fa),(rowFrom f fs).b=(fs.getLastD f).b
 | [],f=>rfl
 | [y],f=>rfl
 | y::z::ys,f=>by
  have:=rowFrom_b (z::ys) (f.then y)
  show (rowFrom (f.then y) (z::ys)).b=_
  rw [this]
  rfl
noncomputable def endsT (f:Fa):PyData:=.tuple [.int f.a,.int f.b]
theorem at_way {ws:List Way}{k:Int}(h0:0≤k) (h1:k<ws.length):atI (ws.map wayPD) k=some (wayPD (wayAt ws k)):=by
 refine at_getD h0 ?_
 rw [List.getElem?_map,List.getElem?_eq_getElem (by omega)]
 unfold wayAt
 rw [List.getD_eq_getElem?_getD,List.getElem?_eq_getElem (by omega)]
 rfl
theorem at_last {α:Type}{xs:List α}{x:α}(h:xs≠[]) (e:xs.getLast? = some x):atI xs (-1)=some x:=by
 have hl:0<xs.length:=List.length_pos_iff.mpr h
 unfold atI ixN
 rw [if_neg (by omega),if_pos (by omega)]
 show xs[(-1+(xs.length:Int)).toNat]? = some x
 rw [show (-1+(xs.length:Int)).toNat=xs.length-1 by omega,← List.getLast?_eq_getElem?]
 exact e
theorem at_zero {α:Type}{x:α}{xs:List α}:atI (x::xs) 0=some x:=by
 refine at_getD (Int.le_refl 0) rfl
theorem cut1 {xs:List PyData}:cutD xs (some 1) none=xs.drop 1:=cutD_drop xs 1
theorem zipD_len (xs ys:List PyData):(zipD xs ys).length=min xs.length ys.length:=by unfold zipD;exact List.length_zipWith
theorem all_true {α:Type}(xs:List α):(xs.map fun _=>true).all id=true:=by
 rw [List.all_map];exact List.all_eq_true.mpr fun _ _=>rfl
theorem rowF_a {f:Fa}{fs:List Fa}:(rowF (f::fs)).a=f.a:=rowFrom_a fs f
theorem rowF_b {f:Fa}{fs:List Fa}:(rowF (f::fs)).b=(fs.getLastD f).b:=rowFrom_b fs f
theorem ite_t {c:Bool}{A B:Prop}(h:c=true) (a:A):if c=true then A else B:=by rw [if_pos h];exact a
theorem ite_f {c:Bool}{A B:Prop}(h:c=false) (b:B):if c=true then A else B:=by rw [if_neg (by rw [h];exact Bool.false_ne_true)];exact b
theorem fEq_i {i j:Int}{Q:PyData→Prop}(h:Q (.bool (decide (i=j)))):fEq false (.int i) (.int j) Q:=h
noncomputable def pathF (ws:List Way) (bs:List Int):List Fa:=bs.map fun k=>faWay (wayAt ws k)
theorem pth_b {ws:List Way}{b:Int}:∀ {bs:List Int}{f:Fa},Pth ws f.b bs b→(rowFrom f (pathF ws bs)).b=b
 | [],_,h=>h
 | k::r,f,h=>pth_b (bs:=r) (f:=f.then (faWay (wayAt ws k))) h.2.2
theorem pth_leads {ws:List Way}{b:Int}:∀ {bs:List Int}{f:Fa},Pth ws f.b bs b→Leads (f::pathF ws bs)
 | [],_,_=>trivial
 | k::r,f,h=>⟨h.2.1.symm,pth_leads (bs:=r) (f:=faWay (wayAt ws k)) h.2.2⟩
theorem eqOk_nil (ns:List Int):EqOk (lstI ns) (.list []):=⟨by rw [PyData.canLay0];exact canLay_ints ns,rfl,Nat.le_trans (Nat.min_le_right _ _) (by decide)⟩
theorem eqv_nilI (ns:List Int):PyData.eqv (lstI ns) (.list [])=ns.isEmpty:=by cases ns<;>rfl
theorem neNil {ns:List Int}{Q:PyData→Prop}(h1:ns≠[]→Q (.bool true)) (h2:ns=[]→Q (.bool false)):fEqD true (lstI ns) (.list []) Q:=by
 refine ⟨eqOk_nil ns,?_⟩
 rw [eqv_nilI]
 cases ns with
 | nil=>exact h2 rfl
 | cons _ _=>exact h1 (by simp)
noncomputable def endsL:VEnds:={ nx:=fun _ _=>False,rt:=fun d _=>d = .bool true,rtn:=fun _ _=>False }
theorem law_start {K:PySem.W.Frag}{N:List Str}{vs:List V}{H:Hp}{Q:VK}{E E':XK}{rest:TS}{gs:GS} [T:SV rest gs] (hN:2≤N.length) (h:spLaw K vs H Q E) (hs:gs endsL (.jnk :: .jar::List.replicate (N.length-2) .jnk) 0) :
 tSeq (tAsg (tCall (spJar K) [] E' (tCons (tVar 0) tNil)) (gName 1)) rest { nx:=fun _ H'=>Q .non H',rt:=Q } (L2.start N vs) H:=by
 obtain ⟨a,ns,rfl,hS,hlen,q⟩:=h
 have est:L2.start N [V.ref a]=some (V.ref a)::none::List.replicate (N.length-2) none:=by
  unfold L2.start
  rw [show N.length-[V.ref a].length=(N.length-2)+1 by simp;omega]
  rfl
 rw [est]
 refine ⟨_,rfl,a,ns,rfl,hS,hlen,fun p c H1 k1 _ _ J=>?_⟩
 have al:Alc [p,c] H1:=fun b hb z=>J.fresh z hb
 have no:∀ i,ownAt (.jnk :: .jar::List.replicate (N.length-2) .jnk) (some (V.ref a)::some (V.ref p)::List.replicate (N.length-2) none) i=[]:=fun i=>by
  unfold ownAt
  cases e:((.jnk :: .jar::List.replicate (N.length-2) .jnk:List Vl))[i]? with
  | none=>rfl
  | some w=>
   have hm:=List.mem_of_getElem? e
   have:w = .jnk∨w = .jar:=by
    rcases List.mem_cons.mp hm with h | h
    · exact .inl h
    · rcases List.mem_cons.mp h with h | h
      · exact .inr h
      · exact .inl (List.mem_replicate.mp h).2
   rcases this with rfl | rfl<;>rfl
 refine T.sv (C:=⟨Src.jar p c,[p,c],H1,[]⟩) (G:=endsL) ⟨fun _ h=>h.elim,fun _ h=>h.elim,fun _ h=>h.elim,fun {d n v H'} R h=>?_,fun _ h=>h.elim,fun _ _ h=>h.elim,fun _ h=>h.elim⟩ (ex:=[p,c]) (env:=.jnk :: .jar::List.replicate (N.length-2) .jnk) (σ:=some (V.ref a)::some (V.ref p)::List.replicate (N.length-2) none) ⟨⟨?_,fun i w e=>?_,fun b h=>h,al,J.n⟩,fun b h=>h,al,fun i j b h=>?_,fun i b h=>?_,.refl,fun x hx=>by cases hx⟩ hs
 · cases h
   have r:=R.r
   cases r
   exact q _
 · simp
 · match i with
   | 0=>cases e;trivial
   | 1=>cases e;exact ⟨p,c,rfl,rfl⟩
   | i+2=>
    have:w = .jnk:=(List.mem_replicate.mp (List.mem_of_getElem? (by simpa using e))).2
    subst this
    trivial
 · rw [no] at h;cases h
 · rw [no] at h;cases h
end My
namespace L2
open PySem PySem.Spec PyProof.Rows
section
variable {X:Cx}{x:Str}{e:Expr}{es:List Expr}{p pos:Pos}{t:TA}{k:Nat}{ps:List Str}{sp:Sp}{i:Int}
end
end L2
namespace My
open PySem PySem.Spec PyProof.Rows L2
structure Wk (ws:List Way) (ks:List Int) (f:Fa):Prop where
 ne:ks≠[]
 inW:InW ws ks
 ld:Leads (pathF ws ks)
 f:f=rowF (pathF ws ks)
theorem vseq {t u:GS}{G:VEnds}{env:List Vl}{n:Nat}(Mid:List Vl→Nat→Prop) (h1:∀ N:List Vl→Nat→Prop,(∀ e k,Mid e k→N e k)→t { G with nx:=N } env n) (h2:∀ e k,Mid e k→∃ e2,Fz e e2∧u G e2 k):gSeq t u G env n:=h1 _ h2
theorem Wk.ends {ws:List Way}{ks:List Int}{f:Fa}(h:Wk ws ks f):∃ k l:Int,atI (ks.map PyData.int) 0=some (.int k)∧atI (ks.map PyData.int) (-1)=some (.int l)∧(0≤k∧k<ws.length)∧(0≤l∧l<ws.length)∧(wayAt ws k).a=f.a∧(wayAt ws l).b=f.b:=by
 cases ks with
 | nil=>exact absurd rfl h.ne
 | cons k r=>
  have hm:r.getLastD k∈k::r:=by
   rw [List.getLastD_eq_getLast?]
   cases e:r.getLast? with
   | none=>exact List.mem_cons_self
   | some l=>exact List.mem_cons_of_mem _ (List.mem_of_getLast? e)
  refine ⟨k,r.getLastD k,at_zero,at_last (by simp) ?_,h.inW k List.mem_cons_self,h.inW _ hm,?_,?_⟩
  · rw [List.getLast?_map,List.getLast?_cons,List.getLastD_eq_getLast?];rfl
  · rw [h.f];exact (rowF_a (f:=faWay (wayAt ws k))).symm
  · rw [h.f]
    show _=(rowF (faWay (wayAt ws k)::pathF ws r)).b
    rw [rowF_b]
    have:(pathF ws r).getLastD (faWay (wayAt ws k))=faWay (wayAt ws (r.getLastD k)):=by
     rw [List.getLastD_eq_getLast?,List.getLastD_eq_getLast?,pathF,List.getLast?_map]
     cases r.getLast? <;> rfl
    rw [this]
    rfl
noncomputable abbrev GSx:=List Vl→Nat→(PyData→Nat→Prop)→(Addr→Nat→Prop)→Prop
noncomputable abbrev walkD (ks:List Int):PyData:=.list (ks.map .int)
noncomputable def gsIsWalk1:GSp:=fun as n Q=>∃ (R U:Int) (ws:List Way) (ks:List Int) (f:Fa),as=[.d (bookPD R U ws),.d (walkD ks)]∧BookOk R U ws∧Wk ws ks f∧ks.length≤10000∧Q (.bool true) n
noncomputable def gsEndsW:GSp:=fun as n Q=>∃ (R U:Int) (ws:List Way) (ks:List Int) (f:Fa),as=[.d (bookPD R U ws),.d (walkD ks)]∧BookOk R U ws∧Wk ws ks f∧Q (endsT f) n
noncomputable def gsHasWay:GSp:=fun as n Q=>∃ (R U:Int) (ws:List Way) (k:Int),as=[.d (bookPD R U ws),.d (.int k)]∧(0≤k∧k<ws.length)∧Q (.bool true) n
noncomputable def gsBetween:GSp:=fun as n Q=>∃ (x a b:Int),as=[.d (.int x),.d (.int a),.d (.int b)]∧Q (.bool (decide (a≤x)&&decide (x≤b))) n
noncomputable def gsWhole:GSp:=fun as n Q=>∃ (x:Int),as=[.d (.int x)]∧Q (.bool true) n
theorem walk_zip {ws:List Way}:∀ {ks:List Int},InW ws ks→Leads (pathF ws ks)→∀ x∈zipD (ks.map PyData.int) ((ks.map PyData.int).drop 1),∃ a b:Int,x = .tuple [.int a,.int b]∧(0≤a∧a<ws.length)∧(0≤b∧b<ws.length)∧(wayAt ws a).b=(wayAt ws b).a
 | [],_,_,x,h=>by simp [zipD] at h
 | [f],_,_,x,h=>by simp [zipD] at h
 | f::g::r,hi,hl,x,h=>by
  have e:zipD ((f::g::r).map PyData.int) (((f::g::r).map PyData.int).drop 1) = .tuple [.int f,.int g]::zipD ((g::r).map PyData.int) (((g::r).map PyData.int).drop 1):=rfl
  rw [e] at h
  rcases List.mem_cons.mp h with rfl | h
  · exact ⟨f,g,rfl,hi f List.mem_cons_self,hi g (List.mem_cons_of_mem _ List.mem_cons_self),hl.1⟩
  · exact walk_zip (fun j hj=>hi j (List.mem_cons_of_mem _ hj)) hl.2 x h
theorem neSelf {x:PyData}{Q:PyData→Prop}(h:x.canLay0=true) (hd:x.depth≤50) (q:Q (.bool false)):fEqD true x x Q:=⟨⟨h,h,Nat.le_trans (Nat.min_le_left _ _) hd⟩,by rw [PySem.SeqAt.eqv_refl _ h];exact q⟩
noncomputable abbrev gTru (g:GE):GT:=fun env n Q=>g env n fun d n1=>match d with
 | .list xs=>Q (!xs.isEmpty) n1
 | .tuple xs=>Q (!xs.isEmpty) n1
 | _=>False
theorem empty_reps {ex:List Addr}{H:Hp}{ds:List PyData}{vs:List V}(r:Reps ex H ds vs):ds.isEmpty=vs.isEmpty:=by
 cases r<;>rfl
noncomputable def tTru (K:PySem.W.Frag) (te:TE):TT:=fun σ H Q=>te σ H fun x H'=>∃ k,TruV K x H' k∧Q k H'
theorem pt_tru {X:Cx}{a:Expr}{ta:TE}(ha:PE X a ta) (he:∀ whole,isTrue a X.env whole=(do let v ← whole;standAt a.pos;holding [v] (truthy v))):PT X a (tTru X.K ta):=pt_truth ha he
noncomputable instance tv_tru {K:PySem.W.Frag}{te:TE}{g:GE} [A:EV false te g]:TV (tTru K te) (gTru g):=⟨fun {S ex env σ H n Q P} E h k=>A.ev E h fun d n1 v H1 h1 s1 r1=>by
 cases r1 with
 | list e m z rs=>exact ⟨_,.inl ⟨_,SqL.of e,rfl⟩,by rw [← empty_reps rs];exact k _ _ _ h1 s1⟩
 | tuple e m z rs=>exact ⟨_,.inr (.inl ⟨_,SqT.of e,rfl⟩),by rw [← empty_reps rs];exact k _ _ _ h1 s1⟩
 | none=>exact h1.elim
 | obj=>exact h1.elim
 | dctf=>exact h1.elim
 | bool=>exact h1.elim
 | str=>exact h1.elim
 | int=>exact h1.elim⟩
theorem eqNilI {ns:List Int}{Q:PyData→Prop}(h1:ns=[]→Q (.bool true)) (h2:ns≠[]→Q (.bool false)):fEqD false (lstI ns) (.list []) Q:=by
 refine ⟨eqOk_nil ns,?_⟩
 rw [eqv_nilI]
 cases ns with
 | nil=>exact h1 rfl
 | cons _ _=>exact h2 (by simp)
noncomputable abbrev gPop0 (bd:GG) (i:Nat):GS:=fun G env n=>match env[i]? with
 | some (.own xs)=>∃ y,xs[xs.length-1]? = some y∧bd y (env.set i (.own xs.dropLast)) fun env1=>G.nx env1 n
 | _=>False
theorem reps_dropLast {ex:List Addr}{H:Hp}:∀ {ds:List PyData}{vs:List V},Reps ex H ds vs→Reps ex H ds.dropLast vs.dropLast
 | _,_,.nil=>.nil
 | _,_,.cons r .nil=>.nil
 | _,_,.cons r (.cons q t)=>.cons r (reps_dropLast (.cons q t))
noncomputable instance (priority:=high) sv_pop0 {K:PySem.W.Frag}{i:Nat}{g:TG}{bd:GG}{ks:List Nat} [B:GV g bd ks]:SV (tAsg (tBM0 K "list" rPop (tVar i)) g) (gPop0 bd i):=⟨fun {C G D} O {ex env σ H n} A h=>by
 unfold gPop0 at h
 split at h
 · rename_i xs e
   obtain ⟨a,vs,ev,h1,h2,h3⟩:=A.at_own e
   obtain ⟨y,hy,q⟩:=h
   obtain ⟨u,hu,ru⟩:=h3.get hy
   have l:=h3.length
   have A2:=A.re e ev (reps_dropLast h3) (Nat.le_trans (by rw [List.length_dropLast];omega) h2)
   have hx:a∈ex:=(own_sl A.ev (by unfold ownAt;rw [e,ev];exact List.mem_singleton.mpr rfl)).2.1
   refine ⟨_,join_some ev,.inl ⟨rfl,_,SqL.of h1⟩,a,vs,u,rfl,rfl,h1,by rw [← l];exact hu,?_⟩
   exact B.gv A2.ev (ru.keep (Kp.at hx _)) q fun env' σ' p E' o _ _=>O.nx (A2.bind E' o) p
 · exact h.elim⟩
noncomputable def strIs:PyData→Str→Bool
 | .str t,s=>decide (t=s)
 | _,_=>false
noncomputable abbrev MT:Int:=10^100-1
theorem strIs_eq {w:PyData}{s:Str}(h:strIs w s=true):w = .str s:=by
 cases w<;>first | exact absurd h Bool.false_ne_true | (exact congrArg _ (of_decide_eq_true h))
theorem strIs_self (s:Str):strIs (.str s) s=true:=decide_eq_true rfl
theorem strIs_ne {s t:Str}(h:¬ s=t):strIs (.str s) t=false:=decide_eq_false h
theorem betw_of {i lo hi:Int}(h1:lo≤i) (h2:i≤hi):betwD (.int i) lo hi=true:=by
 show (decide (lo≤i)&&decide (i≤hi))=true
 rw [decide_eq_true h1,decide_eq_true h2];rfl
noncomputable abbrev pairD (p:PyData×Nat):PyData:=.tuple [p.1,.int (p.2:Int)]
mutual
noncomputable def nd:PyData→Nat
 | .tuple ds=>1+nds ds
 | _=>0
noncomputable def nds:List PyData→Nat
 | []=>0
 | d::r=>nd d+nds r
end
mutual
noncomputable def smI:PyData→Bool
 | .int i=>decide (i≤MT)
 | .tuple ds=>smIs ds
 | .list ds=>smIs ds
 | _=>true
noncomputable def smIs:List PyData→Bool
 | []=>true
 | d::r=>smI d&&smIs r
end
end My
namespace HT
open PySem PySem.Spec PyProof.Rows
section
variable {prog:Program}{w:World}{A:Around}{E:Value→Shared→Prop}{s:Shared}
end
end HT
namespace L2
open PySem PySem.Spec PyProof.Rows
section
variable {X:Cx}{e st:Expr}{te:TE}{ts:TO}{pos p2:Pos}
end
end L2
namespace My
open PySem PySem.Spec PyProof.Rows L2
section
variable {b:Bool}{te:TE}{g:GE}
end
noncomputable def gdB (d:PyData):Bool:=d.canLay0&&(d.intsShort 101&&(d.showable&&smI d))
theorem fEq_ss {s t:Str}{Q:PyData→Prop}(h:Q (.bool (decide (s=t)))):fEq false (.str s) (.str t) Q:=h
section
variable {d:PyData}{k n g:Int}(hg:gdB d=true) (gk:gdB (.int k)=true) (wk:(PyData.int k).weight≤10) (gn:gdB (.int n)=true) (wn:(PyData.int n).weight≤10) (gg:gdB (.int g)=true) (wg:(PyData.int g).weight≤333)
include hg gk wk gn wn gg wg
end
end My
namespace L2
open PySem PySem.Spec PyProof.Rows
section
variable {X:Cx}
end
end L2
namespace My
open PySem PySem.Spec PyProof.Rows L2
theorem cmpW_out {turn:PyData→Nat→(Option PyData→Nat→Prop)→Prop}{n:Nat}{R:PyData→PyData→Prop}:∀ {items:List PyData}{Q:List PyData→Nat→Prop},(∀ x∈items,∀ K,(∀ y,R x y→K (some y) n)→turn x n K)→(∀ ys,All2 R items ys→Q ys n)→cmpW turn items n Q
 | [],Q,_,q=>q [] trivial
 | x::xs,Q,h,q=>h x List.mem_cons_self _ fun y hy=>cmpW_out (R:=R) (fun z hz=>h z (List.mem_cons_of_mem _ hz)) fun ys hys=>q (y::ys) ⟨hy,hys⟩
section
variable {S:Src}{ex L:List Addr}{H H1 H2:Hp}{w:Vl}{o:Option V}
end
section
variable {C:Cv}{ex:List Addr}{env:List Vl}{σ:L2.St}{H H':Hp}{n m:Nat}
end
section
variable {C:Cv}{ex:List Addr}{env:List Vl}{σ:L2.St}{H H':Hp}{n m:Nat}
end
section
variable {R a x y:Nat}{f g:Nat→Nat→Bool}
end
noncomputable def esOf (ws:List Way) (ks:List Int):List (Nat×Nat):=ks.map fun k=>((wayAt ws k).a.toNat,(wayAt ws k).b.toNat)
theorem rng_at0 {k i:Nat}{x:PyData}(h:(rngD 0 k)[i]? = some x):i<k∧x = .int (i:Int):=by
 unfold rngD at h
 rw [List.getElem?_map] at h
 obtain ⟨j,hj,rfl⟩:=Option.map_eq_some_iff.mp h
 obtain ⟨hi,e⟩:=List.getElem?_eq_some_iff.mp hj
 rw [List.getElem_range] at e
 subst e
 rw [List.length_range] at hi
 exact ⟨hi,by rw [Int.zero_add]⟩
section
variable {X:Cx}{pins:List (Addr×Obj)}{σ:L2.St}{H:Hp}{s:Shared}{a:Addr}{kvs:List (Key×V)}{k:Key}{u:Value}{A:Around}{E:Value→Shared→Prop}
end
section
variable {X:Cx}{o e f:Expr}{apos cpos p pos:Pos}{td ty tx:TE}
end
section
variable {C:Cv}{ex:List Addr}{env:List Vl}{σ:L2.St}{H H':Hp}{n m:Nat}
end
theorem flat_rep1 {m:Nat}{x:PyData}:(List.replicate m [x]).flatten=List.replicate m x:=by
 induction m with
 | zero=>rfl
 | succ m ih=>rw [List.replicate_succ,List.flatten_cons,ih,List.replicate_succ];rfl
theorem reps_ints {ex:List Addr}{H:Hp}:∀ (ns:List Int),Reps ex H (ns.map PyData.int) (ns.map V.int)
 | []=>.nil
 | n::ns=>.cons (.int n) (reps_ints ns)
theorem lay_is:∀ ns:List Int,PyData.canLayAll0 (ns.map PyData.int)=true
 | []=>rfl
 | n::ns=>by rw [List.map_cons,PyData.canLayAll0,lay_is ns];rfl
theorem dep_is:∀ ns:List Int,PyData.depthAll (ns.map PyData.int)=0
 | []=>rfl
 | n::ns=>by rw [List.map_cons,PyData.depthAll,dep_is ns];rfl
theorem neL {ns:List Int}{Q:PyData→Prop}(q:Q (.bool false)):fEqD true (lstI ns) (lstI ns) Q:=neSelf (by unfold lstI;rw [PyData.canLay0];exact lay_is ns) (by unfold lstI;rw [PyData.depth,dep_is];decide) q
theorem scal_is:∀ ns:List Int,(ns.map PyData.int).all scalD=true
 | []=>rfl
 | n::ns=>by rw [List.map_cons,List.all_cons,scal_is ns];rfl
theorem in_is {k:Int}{ns:List Int}:inD (.int k) (ns.map .int)=decide (k∈ns):=by
 unfold inD
 induction ns with
 | nil=>rfl
 | cons n ns ih=>
  rw [List.map_cons,List.any_cons,ih]
  have:PyData.eqv (.int n) (.int k)=decide (n=k):=rfl
  rw [this,Bool.eq_iff_iff,Bool.or_eq_true,decide_eq_true_iff,decide_eq_true_iff,decide_eq_true_iff,List.mem_cons]
  constructor
  · rintro (h | h)
    · exact .inl h.symm
    · exact .inr h
  · rintro (h | h)
    · exact .inl h.symm
    · exact .inr h
noncomputable abbrev GSn2:=List Vl→Nat→(List (List PyData)→Nat→Prop)→Prop
section
variable {b:Bool}{i:Nat}{sp:GSn2}{E':XK}{t:TA}{gt:GA}
end
end My
namespace L2
open PySem PySem.Spec PyProof.Rows My
section
variable {X:Cx}
theorem call_maxL (hc:X.calm=true):CallR X (.builtin "max") (fun xs H Q=>∃ (p:Addr) (ns:List Int),xs=[.ref p]∧SqL X.K H p (ns.map V.int)∧ns≠[]∧∀ m∈ns,(∀ n∈ns,n≤m)→Q (.int m) H):=by
 intro pins s σ H xs us Q I r h
 obtain ⟨p,ns,rfl,hq,hne,q⟩:=h
 obtain ⟨u,rfl,ru⟩:=vals1 r
 cases ru
 obtain ⟨its,rv,pl,hz⟩:=I.list hq
 have hl:=pl.isList
 have hi:=intsAre_of rv
 obtain ⟨xs,e⟩:=hi.allInts.items
 have h1:=hi.numsOf
 have h2:numsOf its.toArray.toList=(xs.toList.map (·.1)):=by rw [e,nums_intItems]
 have h2':(xs.toList.map (·.1))=ns:=by rw [← h2];simpa using h1
 have hlen:xs.size=ns.length:=by rw [← h2'];simp
 have hpos:0<ns.length:=List.length_pos_iff.mpr hne
 rw [e] at hl
 refine max_intList (I.ok.hd hc) hl (by omega) fun v h' tk hv hk=>?_
 obtain ⟨b1,b2⟩:=argBest_gt (numAt xs) (xs.size-1)
 generalize argBest (fun i j=>decide (numAt xs i>numAt xs j)) (xs.size-1)=m at hv b1 b2
 obtain ⟨t,rfl⟩:=intItems_at hv
 have num:∀ i (hi:i<ns.length),numAt xs i=ns[i]:=fun i hi=>by
  have hix:i<xs.size:=by omega
  have e1:numAt xs i=xs[i].1:=by unfold numAt;rw [Array.getElem?_eq_getElem hix];rfl
  rw [e1]
  have e2:(xs.toList.map (·.1))[i]'(by simpa using hix)=xs[i].1:=by simp
  rw [← e2]
  congr 1
 refine ⟨.int (numAt xs m),H,I.kept (t':=tk) hk,⟨t,rfl⟩,q _ ?_ fun n hn=>?_⟩
 · rw [num m (by omega)];exact List.getElem_mem _
 · obtain ⟨i,hi,rfl⟩:=List.mem_iff_getElem.mp hn
   rw [← num i hi]
   exact b2 i (by omega)
end
end L2
namespace My
open PySem PySem.Spec PyProof.Rows L2
noncomputable def fMax:G1:=fun ds Q=>∃ ns:List Int,ds=[.list (ns.map .int)]∧ns≠[]∧∀ m∈ns,(∀ n∈ns,n≤m)→Q (.int m)
noncomputable instance cs_maxL {K:PySem.W.Frag}:CS (fun xs H Q=>∃ (p:Addr) (ns:List Int),xs=[.ref p]∧SqL K H p (ns.map V.int)∧ns≠[]∧∀ m∈ns,(∀ n∈ns,n≤m)→Q (.int m) H) fMax:=⟨fun {H xs ds Q P} r h k=>by
 obtain ⟨ns,rfl,hne,q⟩:=h
 cases r with
 | cons r1 t=>
  cases t
  cases r1 with
  | list e _ _ rs=>
   cases rs.ints_inv
   exact ⟨_,ns,rfl,SqL.of e,hne,fun m h1 h2=>k _ _ (q m h1 h2) fun _=>.int _⟩⟩
theorem w_again_put:¬ (("again":Str) = "put"):=by decide +kernel
theorem w_row_put:¬ (("row":Str) = "put"):=by decide +kernel
theorem w_row_again:¬ (("row":Str) = "again"):=by decide +kernel
theorem w_either_put:¬ (("either":Str) = "put"):=by decide +kernel
theorem w_either_again:¬ (("either":Str) = "again"):=by decide +kernel
theorem w_either_row:¬ (("either":Str) = "row"):=by decide +kernel
theorem w_put_again:¬ (("put":Str) = "again"):=by decide +kernel
noncomputable def neT:PyData→Bool
 | .tuple (_::_)=>true
 | _=>false
noncomputable def itemsT:PyData→List PyData
 | .tuple ds=>ds
 | _=>[]
noncomputable def headD:PyData→PyData
 | .tuple (w::_)=>w
 | _=>.none
noncomputable def wordW (U:Int) (w x:PyData):Bool:=if strIs w "put" = true then gainsD x U else if strIs w "again" = true then true else (strIs w "row" || strIs w "either")&&neT x
noncomputable def wordB (U:Int):PyData→Bool
 | .tuple [w,x]=>wordW U w x
 | _=>false
noncomputable def innerX (w x:PyData):List PyData:=if strIs w "put" = true then [] else if strIs w "again" = true then [x] else itemsT x
noncomputable def innerW:PyData→List PyData
 | .tuple [w,x]=>innerX w x
 | _=>[]
noncomputable def putsN (U:Int):Nat→PyData→Nat
 | 0,_=>100
 | f+1,d=>if wordB U d=true then (if strIs (headD d) "put" = true then 1 else ((innerW d).map (putsN U f)).sum) else 100
theorem word_inv {U:Int}{d:PyData}(h:wordB U d=true):(∃ x,d = .tuple [.str "put",x]∧gainsD x U=true)∨(∃ x,d = .tuple [.str "again",x])∨(∃ (s:Str) (y:PyData) (ys:List PyData),(s = "row"∨s = "either")∧d = .tuple [.str s,.tuple (y::ys)]):=by
 unfold wordB at h
 split at h
 · rename_i w x
   unfold wordW at h
   split at h
   · rename_i hw
     rw [strIs_eq hw]
     exact .inl ⟨x,rfl,h⟩
   · split at h
     · rename_i hw
       rw [strIs_eq hw]
       exact .inr (.inl ⟨x,rfl⟩)
     · rw [Bool.and_eq_true,Bool.or_eq_true] at h
       obtain ⟨hw,hx⟩:=h
       unfold neT at hx
       split at hx
       · rename_i y ys
         rcases hw with hw | hw
         · rw [strIs_eq hw]
           exact .inr (.inr ⟨_,y,ys,.inl rfl,rfl⟩)
         · rw [strIs_eq hw]
           exact .inr (.inr ⟨_,y,ys,.inr rfl,rfl⟩)
       · cases hx
 · cases h
theorem word_put {U:Int}{x:PyData}:wordB U (.tuple [.str "put",x])=gainsD x U:=by
 show wordW U (.str "put") x=_
 rw [wordW,if_pos (strIs_self _)]
theorem word_again {U:Int}{x:PyData}:wordB U (.tuple [.str "again",x])=true:=by
 show wordW U (.str "again") x=true
 rw [wordW,if_neg (by rw [strIs_ne w_again_put];exact Bool.false_ne_true),if_pos (strIs_self _)]
theorem ne_tup (ds:List PyData):neT (.tuple ds) = !ds.isEmpty:=by cases ds<;>rfl
theorem word_row {U:Int}{s:Str}{ds:List PyData}(h:s = "row"∨s = "either"):wordB U (.tuple [.str s,.tuple ds]) = !ds.isEmpty:=by
 show wordW U (.str s) (.tuple ds)=_
 rcases h with rfl | rfl
 · rw [wordW,if_neg (by rw [strIs_ne w_row_put];exact Bool.false_ne_true),if_neg (by rw [strIs_ne w_row_again];exact Bool.false_ne_true),strIs_self,Bool.true_or,Bool.true_and,ne_tup]
 · rw [wordW,if_neg (by rw [strIs_ne w_either_put];exact Bool.false_ne_true),if_neg (by rw [strIs_ne w_either_again];exact Bool.false_ne_true),strIs_self,Bool.or_true,Bool.true_and,ne_tup]
theorem inner_put {x:PyData}:innerW (.tuple [.str "put",x])=[]:=by
 show innerX (.str "put") x=_
 rw [innerX,if_pos (strIs_self _)]
theorem inner_again {x:PyData}:innerW (.tuple [.str "again",x])=[x]:=by
 show innerX (.str "again") x=_
 rw [innerX,if_neg (by rw [strIs_ne w_again_put];exact Bool.false_ne_true),if_pos (strIs_self _)]
theorem inner_row {s:Str}{ds:List PyData}(h:s = "row"∨s = "either"):innerW (.tuple [.str s,.tuple ds])=ds:=by
 show innerX (.str s) (.tuple ds)=_
 rcases h with rfl | rfl
 · rw [innerX,if_neg (by rw [strIs_ne w_row_put];exact Bool.false_ne_true),if_neg (by rw [strIs_ne w_row_again];exact Bool.false_ne_true)];rfl
 · rw [innerX,if_neg (by rw [strIs_ne w_either_put];exact Bool.false_ne_true),if_neg (by rw [strIs_ne w_either_again];exact Bool.false_ne_true)];rfl
theorem rs_put {s:Str}(h:s = "row"∨s = "either"):¬ s = "put":=by
 rcases h with rfl | rfl
 · exact w_row_put
 · exact w_either_put
theorem rs_again {s:Str}(h:s = "row"∨s = "either"):¬ s = "again":=by
 rcases h with rfl | rfl
 · exact w_row_again
 · exact w_either_again
theorem puts_no {U:Int}{f:Nat}{d:PyData}(h:wordB U d=false):putsN U f d=100:=by
 cases f with
 | zero=>rfl
 | succ f=>rw [putsN,if_neg (by rw [h];exact Bool.false_ne_true)]
theorem puts_put {U:Int}{f:Nat}{x:PyData}(h:gainsD x U=true):putsN U (f+1) (.tuple [.str "put",x])=1:=by
 rw [putsN,if_pos (by rw [word_put];exact h)]
 exact if_pos (strIs_self _)
theorem puts_again {U:Int}{f:Nat}{x:PyData}:putsN U (f+1) (.tuple [.str "again",x])=putsN U f x:=by
 rw [putsN,if_pos word_again,if_neg (show ¬ strIs (headD (.tuple [.str "again",x])) "put" = true by rw [headD,strIs_ne w_again_put];exact Bool.false_ne_true),inner_again]
 show putsN U f x+0=_
 omega
theorem puts_row {U:Int}{f:Nat}{s:Str}{ds:List PyData}(hs:s = "row"∨s = "either") (h:ds≠[]):putsN U (f+1) (.tuple [.str s,.tuple ds])=(ds.map (putsN U f)).sum:=by
 rw [putsN,if_pos (by rw [word_row hs];cases ds<;>simp_all),if_neg (show ¬ strIs (headD (.tuple [.str s,.tuple ds])) "put" = true by rw [headD,strIs_ne (rs_put hs)];exact Bool.false_ne_true),inner_row hs]
theorem sum_pos:∀ {l:List Nat},(∀ x∈l,1≤x)→l.length≤l.sum
 | [],_=>Nat.le_refl _
 | x::l,h=>by
  have:=h x List.mem_cons_self
  have:=sum_pos fun y hy=>h y (List.mem_cons_of_mem _ hy)
  rw [List.length_cons,List.sum_cons];omega
theorem puts_pos {U:Int}:∀ (f:Nat) (d:PyData),1≤putsN U f d
 | 0,_=>by rw [putsN];decide
 | f+1,d=>by
  cases h:wordB U d with
  | false=>rw [puts_no h];decide
  | true=>
   rcases word_inv h with ⟨x,rfl,hx⟩ | ⟨x,rfl⟩ | ⟨s,y,ys,hs,rfl⟩
   · rw [puts_put hx];decide
   · rw [puts_again];exact puts_pos f x
   · rw [puts_row hs (by simp)]
     have:=sum_pos (l:=(y::ys).map (putsN U f)) fun z hz=>by
      obtain ⟨e,_,rfl⟩:=List.mem_map.mp hz
      exact puts_pos f e
     rw [List.length_map,List.length_cons] at this
     omega
theorem puts_in {U:Int}{f:Nat}{d:PyData}(h:wordB U d=true):putsN U (f+1) d=(if innerW d=[] then 1 else 0)+((innerW d).map (putsN U f)).sum:=by
 rcases word_inv h with ⟨x,rfl,hx⟩ | ⟨x,rfl⟩ | ⟨s,y,ys,hs,rfl⟩
 · rw [puts_put hx,inner_put];rfl
 · rw [puts_again,inner_again]
   show _=(if [x]=[] then 1 else 0)+(putsN U f x+0)
   rw [if_neg (by simp)];omega
 · rw [puts_row hs (by simp),inner_row hs,if_neg (by simp)];omega
noncomputable def itN (U:Int):Nat→PyData→Nat
 | 0,_=>1
 | f+1,d=>if wordB U d=true then 1+((innerW d).map (itN U f)).sum else 1
theorem it_in {U:Int}{f:Nat}{d:PyData}(h:wordB U d=true):itN U (f+1) d=1+((innerW d).map (itN U f)).sum:=by rw [itN,if_pos h]
noncomputable def wsumN (g:Nat→PyData→Nat) (ps:List (PyData×Nat)):Nat:=(ps.map fun p=>g (11-p.2) p.1).sum
theorem wsum_app {g:Nat→PyData→Nat}{a b:List (PyData×Nat)}:wsumN g (a++b)=wsumN g a+wsumN g b:=by
 unfold wsumN;rw [List.map_append,List.sum_append]
theorem wsum_one {g:Nat→PyData→Nat}{d:PyData}{k:Nat}:wsumN g [(d,k)]=g (11-k) d:=by
 unfold wsumN;simp
theorem wsum_inner {g:Nat→PyData→Nat}{ds:List PyData}{k:Nat}:wsumN g (ds.map fun e=>(e,k+1))=(ds.map (g (10-k))).sum:=by
 unfold wsumN
 rw [List.map_map]
 have:((fun p:PyData×Nat=>g (11-p.2) p.1)∘fun e=>(e,k+1))=g (10-k):=by
  funext e
  show g (11-(k+1)) e=_
  rw [show 11-(k+1)=10-k by omega]
 rw [this]
theorem wsum_len {U:Int}{ps:List (PyData×Nat)}:ps.length≤wsumN (putsN U) ps:=by
 have:=sum_pos (l:=ps.map fun p=>putsN U (11-p.2) p.1) fun z hz=>by
  obtain ⟨p,_,rfl⟩:=List.mem_map.mp hz
  exact puts_pos _ _
 rw [List.length_map] at this
 exact this
noncomputable def gsInnerW:GSn:=fun as n Q=>∃ (U:Int) (d:PyData),as=[.d d]∧wordB U d=true∧Q (innerW d) n
noncomputable abbrev putW (gs:List Int):PyData:=.tuple [.str "put",.tuple (gs.map .int)]
noncomputable abbrev againW (e:PyData):PyData:=.tuple [.str "again",e]
noncomputable abbrev rowW (s:Str) (ds:List PyData):PyData:=.tuple [.str s,.tuple ds]
noncomputable def Wd (U:Int):Nat→Nat→PyData→Prop
 | 0,_,_=>False
 | f+1,m,d=>(∃ gs:List Int,d=putW gs∧(gs.length:Int)=U∧(∀ g∈gs,-99≤g∧g≤99)∧m=1)∨(∃ e,d=againW e∧Wd U f m e)∨(∃ (s:Str) (ms:List Nat) (ds:List PyData),(s = "row"∨s = "either")∧d=rowW s ds∧ds≠[]∧All2 (Wd U f) ms ds∧m=ms.sum)
theorem all2_imp {α β:Type}{R S:α→β→Prop}(h:∀ a b,R a b→S a b):∀ {as:List α}{bs:List β},All2 R as bs→All2 S as bs
 | [],[],_=>trivial
 | a::as,b::bs,x=>⟨h a b x.1,all2_imp h x.2⟩
 | [],_::_,x=>x.elim
 | _::_,[],x=>x.elim
theorem Wd.up {U:Int}:∀ {f m:Nat}{d:PyData},Wd U f m d→Wd U (f+1) m d
 | 0,_,_,h=>h.elim
 | f+1,m,d,h=>by
  rcases h with h | ⟨e,rfl,h⟩ | ⟨s,ms,ds,hs,rfl,hne,ha,rfl⟩
  · exact .inl h
  · exact .inr (.inl ⟨e,rfl,h.up⟩)
  · exact .inr (.inr ⟨s,ms,ds,hs,rfl,hne,all2_imp (fun _ _ h=>h.up) ha,rfl⟩)
theorem Wd.mono {U:Int}{f g m:Nat}{d:PyData}(h:Wd U f m d) (hg:f≤g):Wd U g m d:=by
 induction hg with
 | refl=>exact h
 | step _ ih=>exact ih.up
theorem all2_sum {U:Int}{f:Nat}(ih:∀ m d,Wd U f m d→putsN U f d=m):∀ {ms:List Nat}{ds:List PyData},All2 (Wd U f) ms ds→(ds.map (putsN U f)).sum=ms.sum
 | [],[],_=>rfl
 | m::ms,d::ds,h=>by rw [List.map_cons,List.sum_cons,List.sum_cons,ih m d h.1,all2_sum ih h.2]
 | [],_::_,h=>h.elim
 | _::_,[],h=>h.elim
theorem gains_ok {U:Int}{gs:List Int}(h:(gs.length:Int)=U) (hg:∀ g∈gs,-99≤g∧g≤99):gainsD (.tuple (gs.map .int)) U=true:=by
 show (decide (((gs.map PyData.int).length:Int)=U)&&(gs.map PyData.int).all fun x=>betwD x (-99) 99)=true
 rw [List.length_map,decide_eq_true h,Bool.true_and,List.all_map,List.all_eq_true]
 intro g hgm
 exact betw_of (hg g hgm).1 (hg g hgm).2
theorem Wd.puts {U:Int}:∀ {f m:Nat}{d:PyData},Wd U f m d→putsN U f d=m
 | 0,_,_,h=>h.elim
 | f+1,m,d,h=>by
  rcases h with ⟨gs,rfl,hl,hg,rfl⟩ | ⟨e,rfl,h⟩ | ⟨s,ms,ds,hs,rfl,hne,ha,rfl⟩
  · exact puts_put (gains_ok hl hg)
  · rw [puts_again];exact h.puts
  · rw [puts_row hs hne];exact all2_sum (fun _ _ h=>h.puts) ha
theorem Wd.pos {U:Int}{f m:Nat}{d:PyData}(h:Wd U f m d):1≤m:=by rw [← h.puts];exact puts_pos f d
noncomputable def gsSplit:GSn:=fun as n Q=>∃ many:Nat,as=[.jar,.d (.int (many:Int))]∧(1≤many∧many≤7)∧∀ ms:List Nat,(∀ x∈ms,1≤x)→ms.sum=many→Q (ms.map fun x:Nat=>.int (x:Int)) n
noncomputable def gsWordOf (m:Nat):GSp:=fun as n Q=>∃ (U:Int) (many deep:Nat),as=[.jar,.d (.int U),.d (.int (many:Int)),.d (.int (deep:Int))]∧(1≤U∧U≤6)∧(1≤many∧many≤7)∧(1≤deep∧deep≤m)∧(deep=1→many=1)∧∀ d,Wd U deep many d→Q d n
noncomputable def gsWithin (f:Nat):GSp:=fun as n Q=>∃ (U:Int) (m:Nat) (d:PyData),as=[.d d]∧Wd U f m d∧m≤7∧∀ k:Nat,1≤k→k≤f→Wd U k m d→Q (.int (k:Int)) n
noncomputable instance {f:Nat}:Scal (gsWithin f):=⟨fun {as n P} h=>by obtain ⟨U,m,d,e,hw,hm,q⟩:=h;exact ⟨U,m,d,e,hw,hm,fun k h1 h2 h3=>⟨rfl,q k h1 h2 h3⟩⟩⟩
noncomputable def gsSomeWord:GSp:=fun as n Q=>as=[.jar]∧∀ (U:Int) (m:Nat) (d:PyData),(1≤U∧U≤6)→Wd U 10 m d→m≤7→Q (.tuple [d,.int U]) n
theorem ints_of {ys:List PyData}{C:Int→Prop}(h:∀ y∈ys,∃ g:Int,y = .int g∧C g):∃ gs:List Int,ys=gs.map .int∧∀ g∈gs,C g:=by
 induction ys with
 | nil=>exact ⟨[],rfl,fun g hg=>by cases hg⟩
 | cons y ys ih=>
  obtain ⟨gs,rfl,hg⟩:=ih fun z hz=>h z (List.mem_cons_of_mem _ hz)
  obtain ⟨g,rfl,hc⟩:=h y List.mem_cons_self
  refine ⟨g::gs,rfl,fun x hx=>?_⟩
  rcases List.mem_cons.mp hx with rfl | hx
  · exact hc
  · exact hg x hx
noncomputable def DpR (U:Int) (f:Nat) (x y:PyData):Prop:=∃ k:Nat,y = .int (k:Int)∧1≤k∧k≤f∧∀ m,Wd U f m x→Wd U k m x
theorem dp_all {U:Int}{f:Nat}:∀ {ds ys:List PyData},All2 (DpR U f) ds ys→∃ ks:List Int,ys=ks.map .int∧ks.length=ds.length∧(∀ k∈ks,1≤k∧k≤f)∧∀ M:Nat,(∀ k∈ks,k≤M)→∀ ms,All2 (Wd U f) ms ds→All2 (Wd U M) ms ds
 | [],[],_=>⟨[],rfl,rfl,fun k hk=>(by cases hk),fun M _ ms h=>by
  cases ms with
  | nil=>trivial
  | cons _ _=>exact h.elim⟩
 | d::ds,y::ys,h=>by
  obtain ⟨ks,rfl,hl,hk,hM⟩:=dp_all h.2
  obtain ⟨k,rfl,k1,k2,hw⟩:=h.1
  refine ⟨(k:Int)::ks,rfl,by rw [List.length_cons,List.length_cons,hl],fun x hx=>?_,fun M hle ms ha=>?_⟩
  · rcases List.mem_cons.mp hx with rfl | hx
    · exact ⟨by omega,by omega⟩
    · exact hk x hx
  · cases ms with
    | nil=>exact ha.elim
    | cons m ms=>
     have:=hle (k:Int) List.mem_cons_self
     exact ⟨(hw m ha.1).mono (by omega),hM M (fun x hx=>hle x (List.mem_cons_of_mem _ hx)) ms ha.2⟩
 | [],_::_,h=>h.elim
 | _::_,[],h=>h.elim
theorem all2_get {α β:Type}{R:α→β→Prop}:∀ {as:List α}{bs:List β}{b:β},All2 R as bs→b∈bs→∃ a,a∈as∧R a b
 | [],[],_,_,h=>by cases h
 | a::as,c::bs,b,h,hb=>by
  rcases List.mem_cons.mp hb with rfl | hb
  · exact ⟨a,List.mem_cons_self,h.1⟩
  · obtain ⟨x,hx,r⟩:=all2_get h.2 hb
    exact ⟨x,List.mem_cons_of_mem _ hx,r⟩
 | [],_::_,_,h,_=>h.elim
 | _::_,[],_,h,_=>h.elim
theorem mem_sum {ms:List Nat}{m:Nat}(h:m∈ms):m≤ms.sum:=by
 induction ms with
 | nil=>cases h
 | cons x ms ih=>
  rw [List.sum_cons]
  rcases List.mem_cons.mp h with rfl | h
  · omega
  · have:=ih h;omega
theorem Wd.step {U:Int}{k m:Nat}{d e:PyData}(h:Wd U k m d) (he:e=againW d∨e=rowW "row" [d]∨e=rowW "either" [d]):Wd U (k+1) m e:=by
 rcases he with rfl | rfl | rfl
 · exact .inr (.inl ⟨d,rfl,h⟩)
 · exact .inr (.inr ⟨_,[m],[d],.inl rfl,rfl,by simp,⟨h,trivial⟩,by simp⟩)
 · exact .inr (.inr ⟨_,[m],[d],.inr rfl,rfl,by simp,⟨h,trivial⟩,by simp⟩)
theorem all2_nat {U:Int}{f:Nat}:∀ {ms:List Nat}{ys:List PyData},All2 (fun x y=>∃ k:Nat,x=PyData.int (k:Int)∧Wd U f k y) (ms.map fun x:Nat=>.int (x:Int)) ys→All2 (Wd U f) ms ys
 | [],[],_=>trivial
 | m::ms,y::ys,h=>by
  obtain ⟨k,e,hw⟩:=h.1
  have:m=k:=by
   injection e with e
   omega
  subst this
  exact ⟨hw,all2_nat h.2⟩
 | [],_::_,h=>h.elim
 | _::_,[],h=>h.elim
theorem or_ite {c1 c2:Bool}{A B:Prop}(h1:(c1||c2)=true→A) (h2:(c1||c2)=false→B):if c1=true then (if true=true then A else B) else (if c2=true then A else B):=by
 cases c1 with
 | true=>exact iteT (iteT (h1 rfl))
 | false=>
  refine iteF ?_
  cases c2 with
  | true=>exact iteT (h1 rfl)
  | false=>exact iteF (h2 rfl)
theorem within_go {U:Int}{f m n:Nat}{d:PyData}{P:PyData→Nat→Prop}{turn:PyData→Nat→(Option PyData→Nat→Prop)→Prop}(q:∀ k:Nat,1≤k→k≤f+1→Wd U k m d→P (.int (k:Int)) n) {ds:List PyData}{ms:List Nat}(hne:ds≠[]) (ha:All2 (Wd U f) ms ds) (hM:∀ M:Nat,All2 (Wd U M) ms ds→Wd U (M+1) m d)
 (ht:∀ x∈ds,∀ K,(∀ y,DpR U f x y→K (some y) n)→turn x n K):cmpW turn ds n (fun ys n1=>fMax [.list ys] fun x=>ofV (match x with | .int i=>V.int (1+i) | _=>V.non) fun d=>P d n1):=by
 refine cmpW_out (R:=DpR U f) ht fun ys hys=>?_
 obtain ⟨ks,rfl,hl,hk,hks⟩:=dp_all hys
 have hkn:ks≠[]:=fun z=>hne (List.length_eq_zero_iff.mp (by rw [← hl,z];rfl))
 refine ⟨ks,rfl,hkn,fun M hMm hMle=>?_⟩
 obtain ⟨m1,m2⟩:=hk M hMm
 have e:(1:Int)+M=((M.toNat+1:Nat):Int):=by omega
 show P (.int (1+M)) n
 rw [e]
 exact q _ (by omega) (by omega) (hM M.toNat (hks M.toNat (fun k h=>by have:=hMle k h;omega) ms ha))
theorem fNe_self {b:Bool}{Q:PyData→Prop}(q:Q (.bool false)):fEq true (.bool b) (.bool b) Q:=by
 unfold fEq
 cases b<;>exact q
end My
namespace L2
open PySem PySem.Spec PyProof.Rows My
section
variable {X:Cx}{x y:Str}{e:Expr}{es:List Expr}{p p' pos apos:Pos}{t:TA}{k:Nat}{ps:List Str}{sp:Sp}{i:Int}
end
end L2
namespace My
open PySem PySem.Spec PyProof.Rows L2
noncomputable abbrev GSxn:=List Vl→Nat→(List PyData→Nat→Prop)→(Addr→Nat→Prop)→Prop
section
variable {i:Nat}{sp:GSxn}{t:TA}{gt:GA}{tv:TE}{gv:GE}{d:Int}
end
end My
namespace L2
open PySem PySem.Spec PyProof.Rows My
section
variable {X:Cx}{tg iter kx vx:Expr}{ifs:List Expr}{scope sc:Scope}{N N':List Str}{k:Nat}{idx:List Nat}{wi:TI}{g:TG}{tt:TT}{tk tv:TE}{pos:Pos}
end
section
variable {X:Cx}
end
end L2
namespace My
open PySem PySem.Spec PyProof.Rows L2
section
variable {C:Cv}{ex:List Addr}{env:List Vl}{σ:L2.St}{H H':Hp}{n m:Nat}
end
theorem pth_snoc {ws:List Way}{ks:List Int}{a b k:Int}(h:Pth ws a ks b) (hk:0≤k∧k<ws.length) (e:(wayAt ws k).a=b):Pth ws a (ks++[k]) (wayAt ws k).b:=h.app ⟨hk,e,rfl⟩
end My
namespace L2
open PySem PySem.Spec PyProof.Rows
section
variable {X:Cx}{pos p2:Pos}
end
end L2
namespace My
open PySem PySem.Spec PyProof.Rows L2
end My
namespace L2
open PySem PySem.Spec PyProof.Rows PySem.SeqAt
section
variable {X:Cx}
end
end L2
namespace My
open PySem PySem.Spec PyProof.Rows L2
noncomputable abbrev gTupO (i:Nat):GE:=fun env n Q=>match env[i]? with
 | some (.own xs)=>Q (.tuple xs) n
 | some (.d (.list xs))=>Q (.tuple xs) n
 | some (.d (.tuple xs))=>Q (.tuple xs) n
 | _=>False
noncomputable instance (priority:=high) ev_tupO {K:PySem.W.Frag}{i:Nat}:EV true (tCB (fun xs H Q=>∃ p ys,xs=[.ref p]∧((SqL K H p ys∧∀ l,H l=none→Q (.ref l) (upd H l (.tup ys)))∨(SqT K H p ys∧Q (.ref p) H))) (tCons (tVar i) tNil)) (gTupO i):=⟨fun {S ex env σ H n Q P} E h k=>by
 unfold gTupO at h
 split at h
 · rename_i xs e
   obtain ⟨a,vs,ev,h1,h2,h3,h4,h5⟩:=E.sl i _ e
   exact ⟨_,join_some ev,_,_,rfl,.inl ⟨SqL.of h1,fun l hl=>k _ _ _ _ h (Step.new E.inv (Kp.new hl _)) (.tuple upd_same (E.al.nm hl) h2 (h3.keep (Kp.new hl _)))⟩⟩
 · rename_i xs e
   obtain ⟨v,ev,r⟩:=E.sl i _ e
   cases r with
   | list h1 _ h2 h3=>exact ⟨_,join_some ev,_,_,rfl,.inl ⟨SqL.of h1,fun l hl=>k _ _ _ _ h (Step.new E.inv (Kp.new hl _)) (.tuple upd_same (E.al.nm hl) h2 (h3.keep (Kp.new hl _)))⟩⟩
 · rename_i xs e
   obtain ⟨v,ev,r⟩:=E.sl i _ e
   cases r with
   | tuple h1 hn h2 h3=>exact ⟨_,join_some ev,_,_,rfl,.inr ⟨SqT.of h1,k _ _ _ _ h (.refl E.inv) (.tuple h1 hn h2 h3)⟩⟩
 · exact h.elim⟩
theorem pth_ab {ws:List Way}{ks:List Int}{a b:Int}(h:Pth ws a ks b) (hne:ks≠[]):(rowF (pathF ws ks)).a=a∧(rowF (pathF ws ks)).b=b∧Leads (pathF ws ks):=by
 cases ks with
 | nil=>exact absurd rfl hne
 | cons k r=>
  refine ⟨?_,?_,?_⟩
  · show (rowFrom (faWay (wayAt ws k)) (pathF ws r)).a=a
    rw [rowFrom_a];exact h.2.1
  · exact pth_b (bs:=r) (f:=faWay (wayAt ws k)) h.2.2
  · exact pth_leads (bs:=r) (f:=faWay (wayAt ws k)) h.2.2
end My
namespace L2
open PySem PySem.Spec PyProof.Rows
section
variable {X:Cx}
end
end L2
namespace My
open PySem PySem.Spec PyProof.Rows L2
noncomputable def pwp (lt:Nat→Nat→Bool) (n:Nat) {α:Type}:PySem.W.KasT α→(α→Prop)→Prop
 | .ret a,Q=>Q a
 | .ask i j k,Q=>i<n∧j<n∧i≠j∧pwp lt n (k (lt i j)) Q
theorem pwp_mono {lt:Nat→Nat→Bool}{n:Nat}{α:Type}{P Q:α→Prop}(h:∀ a,P a→Q a):∀ {t:PySem.W.KasT α},pwp lt n t P→pwp lt n t Q
 | .ret a,g=>h a g
 | .ask i j k,g=>⟨g.1,g.2.1,g.2.2.1,pwp_mono h g.2.2.2⟩
theorem pwp_bind {lt:Nat→Nat→Bool}{n:Nat}{α β:Type}{f:α→PySem.W.KasT β}{Q:β→Prop}:∀ {t:PySem.W.KasT α},pwp lt n t (fun a=>pwp lt n (f a) Q)→pwp lt n (t.bind f) Q
 | .ret a,g=>g
 | .ask i j k,g=>⟨g.1,g.2.1,g.2.2.1,pwp_bind (t:=k (lt i j)) g.2.2.2⟩
theorem pwp_run {lt:Nat→Nat→Bool}{n:Nat}{α:Type}{cmp:Nat→Nat→(Bool→Shared→Prop)→Shared→Prop}{s:Shared}(hc:∀ i j,i<n→j<n→i≠j→∀ C:Bool→Shared→Prop,C (lt i j) s→cmp i j C s) {P:α→Prop}{R:α→Shared→Prop}(hr:∀ a,P a→R a s):∀ {t:PySem.W.KasT α},pwp lt n t P→t.kasWp cmp R s
 | .ret a,g=>hr a g
 | .ask i j k,g=>hc i j g.1 g.2.1 g.2.2.1 _ (pwp_run hc hr g.2.2.2)
section
variable {n:Nat}{key:Nat→Int}
structure PA (n:Nat) (p:Array Nat):Prop where
 size:p.size=n
 perm:p.toList.Perm (List.range n)
theorem PA.lt {p:Array Nat}(h:PA n p) {i:Nat}(hi:i<n):p.getD i 0<n:=by
 have hs:i<p.size:=by rw [h.size];exact hi
 have hm:p.getD i 0∈p.toList:=by
  rw [Array.getD,dif_pos hs,Array.mem_toList_iff]
  exact Array.getElem_mem hs
 exact List.mem_range.mp (h.perm.mem_iff.mp hm)
theorem PA.inj {p:Array Nat}(h:PA n p) {i j:Nat}(hi:i<n) (hj:j<n) (e:p.getD i 0=p.getD j 0):i=j:=by
 have nd:p.toList.Nodup:=h.perm.nodup_iff.mpr List.nodup_range
 have hi':i<p.toList.length:=by rw [Array.length_toList,h.size];exact hi
 have hj':j<p.toList.length:=by rw [Array.length_toList,h.size];exact hj
 rw [Array.getD,dif_pos (by rw [h.size];exact hi),Array.getD,dif_pos (by rw [h.size];exact hj)] at e
 rcases Nat.lt_trichotomy i j with g | g | g
 · exact absurd (show p.toList[i]=p.toList[j] by rw [Array.getElem_toList,Array.getElem_toList];exact e) (List.pairwise_iff_getElem.mp nd i j hi' hj' g)
 · exact g
 · exact absurd (show p.toList[j]=p.toList[i] by rw [Array.getElem_toList,Array.getElem_toList];exact e.symm) (List.pairwise_iff_getElem.mp nd j i hj' hi' g)
theorem PA.ne {p:Array Nat}(h:PA n p) {i j:Nat}(hi:i<n) (hj:j<n) (hne:i≠j):p.getD i 0≠p.getD j 0:=fun e=>hne (h.inj hi hj e)
noncomputable def kv (key:Nat→Int) (p:Array Nat) (i:Nat):Int:=key (p.getD i 0)
noncomputable abbrev ltK (key:Nat→Int):Nat→Nat→Bool:=fun i j=>decide (key i<key j)
noncomputable def UpTo (key:Nat→Int) (p:Array Nat) (m:Nat):Prop:=∀ i j,i<j→j<m→kv key p i<kv key p j
noncomputable def DnTo (key:Nat→Int) (p:Array Nat) (m:Nat):Prop:=∀ i j,i<j→j<m→kv key p j<kv key p i
noncomputable def Inj (n:Nat) (key:Nat→Int):Prop:=∀ i j,i<n→j<n→key i=key j→i=j
theorem kv_ne {p:Array Nat}(hk:Inj n key) (h:PA n p) {i j:Nat}(hi:i<n) (hj:j<n) (hne:i≠j):kv key p i≠kv key p j:=fun e=>hne (h.inj hi hj (hk _ _ (h.lt hi) (h.lt hj) e))
theorem UpTo.add {p:Array Nat}{a:Nat}(h:UpTo key p a) (h1:1≤a) (hl:kv key p (a-1)<kv key p a):UpTo key p (a+1):=fun i j hij hj=>by
 rcases Nat.lt_or_ge j a with g | g
 · exact h i j hij g
 · have:j=a:=by omega
   subst this
   rcases Nat.lt_or_ge i (j-1) with g2 | g2
   · have:=h i (j-1) g2 (by omega)
     omega
   · have:i=j-1:=by omega
     rw [this];exact hl
theorem DnTo.add {p:Array Nat}{a:Nat}(h:DnTo key p a) (h1:1≤a) (hl:kv key p a<kv key p (a-1)):DnTo key p (a+1):=fun i j hij hj=>by
 rcases Nat.lt_or_ge j a with g | g
 · exact h i j hij g
 · have:j=a:=by omega
   subst this
   rcases Nat.lt_or_ge i (j-1) with g2 | g2
   · have:=h i (j-1) g2 (by omega)
     omega
   · have:i=j-1:=by omega
     rw [this];exact hl
theorem asc_ok {p:Array Nat}(hk:Inj n key) (hp:PA n p):∀ {f a:Nat},1≤a→a+f≤n→UpTo key p a→pwp (ltK key) n (PySem.W.kas_asc p f a) fun m=>a≤m∧m≤a+f∧UpTo key p m∧(m=a+f∨kv key p m<kv key p (m-1))
 | 0,a,_,_,hu=>⟨Nat.le_refl _,Nat.le_refl _,hu,.inl rfl⟩
 | f+1,a,h1,h2,hu=>by
  refine ⟨hp.lt (by omega),hp.lt (by omega),hp.ne (by omega) (by omega) (by omega),?_⟩
  by_cases c:kv key p a<kv key p (a-1)
  · rw [show ltK key (p.getD a 0) (p.getD (a-1) 0)=true from decide_eq_true c]
    exact ⟨Nat.le_refl _,by omega,hu,.inr c⟩
  · rw [show ltK key (p.getD a 0) (p.getD (a-1) 0)=false from decide_eq_false c]
    have hne:=kv_ne hk hp (i:=a) (j:=a-1) (by omega) (by omega) (by omega)
    refine pwp_mono (fun m hm=>?_) (asc_ok hk hp (f:=f) (a:=a+1) (by omega) (by omega) (hu.add h1 (by omega)))
    obtain ⟨g1,g2,g3,g4⟩:=hm
    exact ⟨by omega,by omega,g3,g4.imp (fun z=>by omega) id⟩
theorem desc_ok {p:Array Nat}(hk:Inj n key) (hp:PA n p):∀ {f a:Nat},1≤a→a+f≤n→DnTo key p a→pwp (ltK key) n (PySem.W.kas_desc f p a 0) fun r=>r.1=p∧r.2.2=0∧a≤r.2.1∧r.2.1≤a+f∧DnTo key p r.2.1
 | 0,a,_,_,hu=>⟨rfl,rfl,Nat.le_refl _,Nat.le_refl _,hu⟩
 | f+1,a,h1,h2,hu=>by
  refine ⟨hp.lt (by omega),hp.lt (by omega),hp.ne (by omega) (by omega) (by omega),?_⟩
  by_cases c:kv key p a<kv key p (a-1)
  · rw [show ltK key (p.getD a 0) (p.getD (a-1) 0)=true from decide_eq_true c]
    refine pwp_mono (fun r hr=>?_) (desc_ok hk hp (f:=f) (a:=a+1) (by omega) (by omega) (hu.add h1 c))
    obtain ⟨g1,g2,g3,g4,g5⟩:=hr
    exact ⟨g1,g2,by omega,by omega,g5⟩
  · rw [show ltK key (p.getD a 0) (p.getD (a-1) 0)=false from decide_eq_false c]
    have hne:=kv_ne hk hp (i:=a) (j:=a-1) (by omega) (by omega) (by omega)
    have c2:kv key p (a-1)<kv key p a:=by omega
    refine ⟨hp.lt (by omega),hp.lt (by omega),hp.ne (by omega) (by omega) (by omega),?_⟩
    rw [show ltK key (p.getD (a-1) 0) (p.getD a 0)=true from decide_eq_true c2]
    exact ⟨rfl,rfl,Nat.le_refl _,Nat.le_add_right _ _,hu⟩
theorem getD_of {p q:Array Nat}{i j:Nat}(h:p[i]? = q[j]?):p.getD i 0=q.getD j 0:=by
 rw [Array.getD_eq_getD_getElem?,Array.getD_eq_getD_getElem?,h]
theorem rev_PA {p:Array Nat}(hp:PA n p) (m:Nat):PA n (PySem.W.kas_rev p 0 m):=by
 refine ⟨by rw [PySem.W.kas_rev,mirror_size];exact hp.size,?_⟩
 exact (Array.perm_iff_toList_perm.mp (mirror_perm p 0 m _)).trans hp.perm
theorem rev_up {p:Array Nat}(hp:PA n p) {m:Nat}(hm:m≤n) (h:DnTo key p m):UpTo key (PySem.W.kas_rev p 0 m) m:=fun i j hij hj=>by
 have e:∀ k,k<m→(PySem.W.kas_rev p 0 m).getD k 0=p.getD (m-1-k) 0:=fun k hk=>by
  apply getD_of
  rw [PySem.W.kas_rev,getElem?_mirror_all (by rw [hp.size];exact hm),if_pos ⟨Nat.zero_le _,hk⟩]
  congr 1
  omega
 unfold kv
 rw [e i (by omega),e j hj]
 exact h (m-1-j) (m-1-i) (by omega) (by omega)
theorem tail_ok {p:Array Nat}(hk:Inj n key) (hp:PA n p) {m:Nat}(h1:1≤m) (hm:m≤n) (h:DnTo key p m):pwp (ltK key) n (PySem.W.kas_tail3 m n p) fun r=>1≤r.1∧r.1≤n∧PA n r.2∧UpTo key r.2 r.1:=by
 unfold PySem.W.kas_tail3
 have hp':=rev_PA hp m
 refine pwp_bind (pwp_mono (fun k g=>?_) (asc_ok hk hp' (f:=n-m) (a:=m) h1 (by omega) (rev_up hp hm h)))
 exact ⟨by omega,by omega,hp',g.2.2.1⟩
theorem count_ok {p:Array Nat}(hk:Inj n key) (hp:PA n p) (h2:2≤n):pwp (ltK key) n (PySem.W.kas_count n p) fun r=>1≤r.1∧r.1≤n∧PA n r.2∧UpTo key r.2 r.1:=by
 unfold PySem.W.kas_count
 refine pwp_bind (pwp_mono (fun m g=>?_) (asc_ok hk hp (f:=n-1) (a:=1) (Nat.le_refl _) (by omega) fun i j hij hj=>by omega))
 obtain ⟨g1,g2,g3,g4⟩:=g
 by_cases e:m=n
 · rw [if_pos (by simpa using e)]
   exact ⟨g1,by omega,hp,g3⟩
 rw [if_neg (by simpa using e)]
 have hlt:m<n:=by omega
 have g4:kv key p m<kv key p (m-1):=g4.resolve_left (by omega)
 by_cases e1:m>1
 · rw [if_pos e1]
   refine ⟨hp.lt (by omega),hp.lt (by omega),hp.ne (by omega) (by omega) (by omega),?_⟩
   rw [show ltK key (p.getD 0 0) (p.getD (m-1) 0)=true from decide_eq_true (g3 0 (m-1) (by omega) (by omega))]
   exact ⟨g1,by omega,hp,g3⟩
 rw [if_neg e1]
 have em:m=1:=by omega
 subst em
 unfold PySem.W.kas_descPart
 have hd:DnTo key p 2:=fun i j hij hj=>by
  have:i=0:=by omega
  have:j=1:=by omega
  subst_vars
  exact g4
 refine pwp_bind (pwp_mono (fun r g=>?_) (desc_ok hk hp (f:=n-(1+1)) (a:=1+1) (by omega) (by omega) hd))
 obtain ⟨q1,q2,q3,q4,q5⟩:=g
 rw [if_neg (by omega),q1]
 exact tail_ok hk hp (by omega) (by omega) q5
theorem place_ok {p:Array Nat}(hk:Inj n key) (hp:PA n p) {k:Nat}(hkn:k<n) (hu:UpTo key p k):∀ {f l r:Nat},r-l≤f→l≤r→r≤k→(∀ i,i<l→kv key p i<kv key p k)→(∀ i,r≤i→i<k→kv key p k<kv key p i) →
 pwp (ltK key) n (PySem.W.kas_place p k f l r) fun m=>m≤k∧(∀ i,i<m→kv key p i<kv key p k)∧∀ i,m≤i→i<k→kv key p k<kv key p i
 | 0,l,r,hf,hlr,hr,h1,h2=>by
  have:l=r:=by omega
  subst this
  exact ⟨hr,h1,h2⟩
 | f+1,l,r,hf,hlr,hr,h1,h2=>by
  unfold PySem.W.kas_place
  by_cases c:l≥r
  · rw [if_pos c]
    have:l=r:=by omega
    subst this
    exact ⟨hr,h1,h2⟩
  rw [if_neg c]
  refine ⟨hp.lt hkn,hp.lt (by omega),hp.ne hkn (by omega) (by omega),?_⟩
  by_cases c2:kv key p k<kv key p ((l+r)/2)
  · rw [show ltK key (p.getD k 0) (p.getD ((l+r)/2) 0)=true from decide_eq_true c2]
    refine place_ok hk hp hkn hu (f:=f) (by omega) (by omega) (by omega) h1 fun i hi hik=>?_
    rcases Nat.lt_or_ge ((l+r)/2) i with g | g
    · have:=hu ((l+r)/2) i g hik
      omega
    · have:i=(l+r)/2:=by omega
      rw [this];exact c2
  · rw [show ltK key (p.getD k 0) (p.getD ((l+r)/2) 0)=false from decide_eq_false c2]
    have hne:=kv_ne hk hp (i:=k) (j:=(l+r)/2) hkn (by omega) (by omega)
    refine place_ok hk hp hkn hu (f:=f) (by omega) (by omega) (by omega) (fun i hi=>?_) h2
    rcases Nat.lt_or_ge i ((l+r)/2) with g | g
    · have:=hu i ((l+r)/2) g (by omega)
      omega
    · have:i=(l+r)/2:=by omega
      rw [this];omega
theorem bub_PA {p:Array Nat}(hp:PA n p) (k d:Nat):PA n (bubble p k d):=
 ⟨by rw [bubble_size];exact hp.size,(Array.perm_iff_toList_perm.mp (bubble_perm p k d)).trans hp.perm⟩
theorem bub_up {p:Array Nat}(hp:PA n p) {k m:Nat}(hkn:k<n) (hu:UpTo key p k) (hm:m≤k) (h1:∀ i,i<m→kv key p i<kv key p k) (h2:∀ i,m≤i→i<k→kv key p k<kv key p i):UpTo key (bubble p k (k-m)) (k+1):=fun i j hij hj=>by
 have e:∀ q,q≤k→kv key (bubble p k (k-m)) q=if q=m then kv key p k else if m<q then kv key p (q-1) else kv key p q:=fun q hq=>by
  have hb:=getElem?_bubble (xs:=p) (src:=k) (by rw [hp.size];exact hkn) (k-m) (by omega) q
  rw [show k-(k-m)=m by omega] at hb
  unfold kv
  by_cases c1:q=m
  · rw [if_pos c1];rw [if_pos c1] at hb;rw [getD_of hb]
  rw [if_neg c1];rw [if_neg c1] at hb
  by_cases c2:m<q
  · rw [if_pos c2];rw [if_pos ⟨c2,hq⟩] at hb;rw [getD_of hb]
  · rw [if_neg c2];rw [if_neg (fun z=>c2 z.1)] at hb;rw [getD_of hb]
 rw [e i (by omega),e j (by omega)]
 by_cases ci:i=m
 · rw [if_pos ci,if_neg (by omega),if_pos (by omega)]
   exact h2 (j-1) (by omega) (by omega)
 rw [if_neg ci]
 by_cases ci2:m<i
 · rw [if_pos ci2,if_neg (by omega),if_pos (by omega)]
   exact hu (i-1) (j-1) (by omega) (by omega)
 rw [if_neg ci2]
 by_cases cj:j=m
 · rw [if_pos cj];exact h1 i (by omega)
 rw [if_neg cj]
 by_cases cj2:m<j
 · rw [if_pos cj2]
   rcases Nat.lt_or_ge i (j-1) with g | g
   · exact hu i (j-1) g (by omega)
   · omega
 · rw [if_neg cj2];exact hu i j hij (by omega)
theorem bin_ok (hk:Inj n key):∀ {f:Nat}{p:Array Nat}{k:Nat},PA n p→UpTo key p k→k+f≤n→pwp (ltK key) n (PySem.W.kas_bin f p k) fun q=>PA n q∧UpTo key q (k+f)
 | 0,p,k,hp,hu,_=>⟨hp,hu⟩
 | f+1,p,k,hp,hu,hn=>by
  unfold PySem.W.kas_bin
  refine pwp_bind (pwp_mono (fun m g=>?_) (place_ok hk hp (k:=k) (by omega) hu (f:=k) (l:=0) (r:=k) (by omega) (by omega) (Nat.le_refl _) (fun i hi=>by omega) fun i h1 h2=>by omega))
  refine pwp_mono (fun q g2=>?_) (bin_ok hk (f:=f) (k:=k+1) (bub_PA hp k (k-m)) (bub_up hp (by omega) hu g.1 g.2.1 g.2.2) (by omega))
  rw [show k+(f+1)=k+1+f by omega]
  exact g2
theorem sort_ok (hk:Inj n key) (h2:2≤n):pwp (ltK key) n (PySem.W.kas_sort n) fun p=>PA n p∧UpTo key p n:=by
 unfold PySem.W.kas_sort
 have h0:PA n (List.toArray (List.range n)):=⟨by simp,by simp⟩
 refine pwp_bind (pwp_mono (fun r g=>?_) (count_ok hk h0 h2))
 obtain ⟨g1,g2,g3,g4⟩:=g
 by_cases c:r.1<n
 · rw [if_pos c]
   have hm:max r.1 1=r.1:=by omega
   rw [hm]
   refine pwp_mono (fun q g=>?_) (bin_ok hk (f:=n-r.1) (k:=r.1) g3 g4 (by omega))
   rw [show r.1+(n-r.1)=n by omega] at g
   exact g
 · rw [if_neg c]
   have:r.1=n:=by omega
   rw [this] at g4
   exact ⟨g3,g4⟩
end
end My
namespace L2
open PySem PySem.Spec PyProof.Rows PySem.SeqAt
open AutoSeq1 (wpAny_loadPart')
section
variable {prog:Program}{w:World}{A:Around}{E:Value→Shared→Prop}{s:Shared}
noncomputable def Beside (a:Addr) (h h':Heap):Prop:=∀ b o,b≠a→h.get? b=some o→h'.get? b=some o
end
section
variable {prog:Program}{w:World}{A:Around}{E:Value→Shared→Prop}{s:Shared}
end
theorem vals_refs:∀ {as:List Addr}{us:List Value},Vals (as.map V.ref) us→us=as.map Value.ref:=by
 intro as
 induction as with
 | nil=>intro us r;cases r;rfl
 | cons a as ih=>
  intro us r
  cases r with
  | cons r t=>
   cases r
   rw [ih t];rfl
theorem vals_of_refs:∀ as:List Addr,Vals (as.map V.ref) (as.map Value.ref)
 | []=>.nil
 | a::as=>.cons rfl (vals_of_refs as)
section
variable {X:Cx}
end
section
variable {X:Cx}
noncomputable def rSortI (K:PySem.W.Frag):List V→Hp→VK→Prop:=fun xs H Q=>∃ (p:Addr) (ns:List Int),xs=[.ref p]∧H p=some (.lst (ns.map V.int))∧ns.length<64∧∀ (ns':List Int) (l:Addr),ns'.Perm ns→ns'.Pairwise (·≤·)→H l=none→Q (.ref l) (upd H l (.lst (ns'.map V.int)))
theorem vals_of_ints:∀ {us:List Value}{ns:List Int},IntsAre us ns→Vals (ns.map V.int) us
 | _,_,.nil=>.nil
 | _,_,.cons n t h=>.cons ⟨_,rfl⟩ (vals_of_ints h)
theorem call_sortI:CallR X (.builtin "sorted") (rSortI X.K):=by
 intro pins s σ H xs us Q I r h
 obtain ⟨p,ns,rfl,hp,h64,q⟩:=h
 obtain ⟨u,rfl,ru⟩:=vals1 r
 cases ru
 obtain ⟨z,its,n,rv,hl,e⟩:=I.lstM hp
 rw [List.length_map] at hl
 refine sorted_ints (l:=p) ⟨_,e,rfl,n,rfl⟩ (intsAre_of rv) (by omega) fun out ns' a1 a2 a3=>?_
 obtain ⟨e9,he9⟩:=sortedAll_at s.heap its out
 have kp:∀ b o,s.heap.get? b=some o→(sortedAll s.heap its out).get? b=some o:=fun b o e=>sortedAll_old e
 have hsz:(ns'.map V.int).length≤sizeLine:=by rw [List.length_map,a2.length_eq,sizeLine_eq];omega
 exact ⟨.ref (s.heap.objs.size+1),_,I.laid (t':=s.toks) (o:=.lst (ns'.map V.int)) kp (Nat.le_succ _) ⟨hsz,out.toList,e9,vals_of_ints a1,he9⟩,rfl,q ns' (s.heap.objs.size+1) a2 a3 (I.hok.fresh (Nat.le_succ _))⟩
end
end L2
namespace My
open PySem PySem.Spec PyProof.Rows L2
noncomputable def fSortI:List PyData→(List PyData→Prop)→Prop:=fun ds P=>∃ ns:List Int,ds=[.list (ns.map .int)]∧ns.length<64∧∀ ns':List Int,ns'.Perm ns→ns'.Pairwise (·≤·)→P (ns'.map .int)
noncomputable instance cn_sortI {K:PySem.W.Frag}:CN (rSortI K) fSortI:=⟨fun {ex H xs ds Q P} r h k=>by
 obtain ⟨ns,rfl,h64,hp⟩:=h
 cases r with
 | cons r1 t=>
  cases t
  cases r1 with
  | @list p vs _ e nm z rr=>
   cases rr.ints_inv
   refine ⟨p,ns,rfl,e,h64,fun ns' l hq hs hn=>k _ l _ (hp ns' hq hs) hn ?_ (reps_ints _)⟩
   rw [List.length_map,hq.length_eq,sizeLine_eq];omega⟩
noncomputable abbrev rt (ws:List Way) (ks:List Int) (i j:Int):Prop:=Rt (esOf ws ks) (wayAt ws i).b.toNat (wayAt ws j).a.toNat
theorem op_notIn_seqK {X:Cx}{K':PySem.W.Frag}(hK:X.K=K'):OpR X (compareOp .NotIn) (rIn K' true):=hK▸op_notIn_seq
end My
namespace L2
open PySem PySem.Spec PyProof.Rows PySem.SeqAt
section
variable {X:Cx}
end
section
variable {X:Cx}{v:Expr}{te:TE}{a:Str}{ja:Nat}{pa pf pos:Pos}
end
end L2
namespace My
open PySem PySem.Spec PyProof.Rows L2
end My
namespace L2
open PySem PySem.Spec PyProof.Rows PySem.SeqAt
section
open AutoSeq1 (wpAny_loadPart')
end
section
variable {prog:Program}{w:World}{A:Around}{E:Value→Shared→Prop}{s:Shared}
end
section
variable {X:Cx}{es:List Expr}{kk:Nat}{tp:Pos}
end
end L2
namespace My
open PySem PySem.Spec PyProof.Rows L2
section
variable {K:PySem.W.Frag}{ex:List Addr}{H:Hp}
end
open PySem.StrLaws PySem.Builtin.Str
end My
namespace L2
open PySem PySem.Spec PyProof.Rows PySem.SeqAt
end L2
namespace My
open PySem PySem.Spec PyProof.Rows L2
theorem cmpW_mapG {α:Type}{turn:PyData→Nat→(Option PyData→Nat→Prop)→Prop}{n:Nat}{Q:List PyData→Nat→Prop}{f:α→PyData}(g:α→PyData) {xs:List α}(h:∀ x∈xs,∀ n K,K (some (g x)) n→turn (f x) n K) (q:Q (xs.map g) n):cmpW turn (xs.map f) n Q:=by
 induction xs generalizing n Q with
 | nil=>exact q
 | cons x xs ih=>exact h x List.mem_cons_self _ _ (ih (fun y hy=>h y (List.mem_cons_of_mem _ hy)) q)
end My
namespace PySem
open Sem (wp)
section
variable {prog:Program}{w:World}{A:Around}{E:Value→Shared→Prop}{h:Heap}{g:Array GenState}{d:Drawn}{t:Nat}{os:OsState}
variable {nm q:Str}{C N:Addr}{bs bm bmB:List Value}{hdct:Bool}{sn:List Str}{sub:List Value}{ab:Bool}{col:Option Bool}{dd:Option Addr}{k0 k1 k2 k3 k5:Option Value}{B newId initId:String}
end
end PySem
namespace L2
open PySem PySem.Spec PyProof.Rows
section
variable {prog:Program}{w:World}{A:Around}{E:Value→Shared→Prop}{s:Shared}{l:Addr}{xs:Array (Int×Tok)}
end
section
variable {X:Cx}
end
end L2
namespace My
open PySem PySem.Spec PyProof.Rows L2
section
variable {R:Int}{ws:List Way}{ks:List Int}{x:Int}{l:List Int}{i j:Nat}
end
end My
namespace L2
open PySem PySem.Spec PyProof.Rows PySem.SeqAt
section
variable {X:Cx}{pins:List (Addr×Obj)}{σ:St}{A:Around}{R:Result→Shared→Prop}{it l d:Addr}{ps:List (Key×V×Addr)}
end
section
variable {prog:Program}{w:World}{A:Around}{E:Value→Shared→Prop}{s:Shared}
end
section
variable {X:Cx}
end
end L2
namespace My
open PySem PySem.Spec PyProof.Rows L2 PySem.SeqAt PySem.MeetsSeq
section
variable {X:Cx}
end
noncomputable abbrev gListO (i:Nat):GN:=fun env n Q=>match env[i]? with
 | some (.own xs)=>Q xs n
 | some (.d x)=>fListOf [x] fun d=>Q d n
 | _=>False
noncomputable instance (priority:=high) nv_listO {K:PySem.W.Frag}{i:Nat}:NV (tCB (fun xs H Q=>∃ p ys,xs=[.ref p]∧(SqL K H p ys∨SqT K H p ys)∧∀ l,H l=none→Q (.ref l) (upd H l (.lst ys))) (tCons (tVar i) tNil)) (gListO i):=⟨fun {S ex env σ H n Q P} E h k=>by
 unfold gListO at h
 split at h
 · rename_i xs e
   obtain ⟨a,vs,ev,h1,h2,h3,h4,h5⟩:=E.sl i _ e
   refine ⟨_,join_some ev,_,_,rfl,.inl (SqL.of h1),fun p hp=>?_⟩
   obtain ⟨c1,c2,c3⟩:=nv_close E (.refl E.inv) hp h3
   exact k _ _ _ _ _ h c1 c2 upd_same h2 c3
 · rename_i x e
   refine (nv_cn (r:=fun xs H Q=>∃ p ys,xs=[.ref p]∧(SqL K H p ys∨SqT K H p ys)∧∀ l,H l=none→Q (.ref l) (upd H l (.lst ys))) (t:=tCons (tVar i) tNil)).nv E ?_ k
   show gVar i env n _
   unfold gVar
   rw [e]
   exact h
 · exact h.elim⟩
open PySem PySem.Spec PyProof.Rows L2
section
variable {R U:Int}{ws:List Way}{ks:List Int}
end
end My
namespace L2
open PySem PySem.Spec PyProof.Rows
section
variable {P:Program}{w:World}{K:PySem.W.Frag}{mg:Str→Option Value}{base:Heap}{C:Addr}{x m qual:Str}{st:Stmt}{ps:List Str}{k:Nat}{sp:Sp}
end
section
variable {X:Cx}{x m:Str}{C:Addr}{o e:Expr}{es:List Expr}{p pos apos:Pos}{ta:TE}{t:TA}{k:Nat}{ps:List Str}{sp:Sp}
end
end L2
namespace My
open PySem PySem.Spec PyProof.Rows L2
section
variable {b:Bool}{te ta:TE}{g:GE}
end
noncomputable abbrev St':=Int×List Int
noncomputable abbrev Kn:=List (Int×St')
end My
namespace L2
open PySem PySem.Spec PyProof.Rows My
section
variable {X:Cx}{x:Str}{e:Expr}{es:List Expr}{p pos:Pos}{t:TA}{k:Nat}{ps:List Str}{sp:Sp}{i:Int}{E:XK}
end
end L2
namespace My
open PySem PySem.Spec PyProof.Rows L2
section
variable {i:Nat}{sp:GSx}{t:TA}{gt:GA}{tv:TE}{gv:GE}{d:Int}{b:Bool}{E':XK}
end
theorem enumD_ways (ws:List Way):enumD (ws.map wayPD)=(List.range ws.length).map fun i=>.tuple [.int ((i:Nat):Int),wayPD (wayAt ws ((i:Nat):Int))]:=by
 apply List.ext_getElem?
 intro i
 unfold enumD
 rw [List.getElem?_mapIdx,List.getElem?_map,List.getElem?_map]
 by_cases h:i<ws.length
 · rw [List.getElem?_range h,List.getElem?_eq_getElem h]
   have:wayAt ws ((i:Nat):Int)=ws[i]:=by
    have h2:=at_way (ws:=ws) (k:=((i:Nat):Int)) (by omega) (by omega)
    unfold wayAt
    simp [h]
   show some (PyData.tuple [.int ((i:Nat):Int),wayPD ws[i]])=some (PyData.tuple [.int ((i:Nat):Int),wayPD (wayAt ws ((i:Nat):Int))])
   rw [this]
 · rw [List.getElem?_eq_none (by omega),List.getElem?_eq_none (by rw [List.length_range];omega)];rfl
theorem cmpW_fm {β:Type}{turn:PyData→Nat→(Option PyData→Nat→Prop)→Prop}{n:Nat}{g h:β→PyData}{p:β→Bool}:∀ {ks:List β}{Q:List PyData→Nat→Prop},(∀ k∈ks,∀ K:Option PyData→Nat→Prop,(p k=true→K (some (h k)) n)→(p k=false→K none n)→turn (g k) n K)→Q ((ks.filter p).map h) n→cmpW turn (ks.map g) n Q
 | [],_,_,q=>q
 | k::ks,Q,ht,q=>by
  refine ht k List.mem_cons_self _ (fun c=>?_) (fun c=>?_)
  · rw [List.filter_cons_of_pos c] at q
    exact cmpW_fm (fun k hk=>ht k (List.mem_cons_of_mem _ hk)) q
  · rw [List.filter_cons_of_neg (by rw [c];exact Bool.false_ne_true)] at q
    exact cmpW_fm (fun k hk=>ht k (List.mem_cons_of_mem _ hk)) q
section
variable {K:PySem.W.Frag}{C:Addr}{s0:St'}{p:Kn}{Q:PyData→Prop}
end
section
variable {x t:Int}{xr gr:List Int}{N:Nat}
end
end My
namespace L2
open PySem PySem.Spec PyProof.Rows
variable {X:Cx}
end L2
namespace My
open PySem PySem.Spec PyProof.Rows L2
end My
namespace L2
open PySem PySem.Spec PyProof.Rows PySem.SeqAt
open AutoSeq1 (wpAny_loadPart')
section
variable {prog:Program}{w:World}{A:Around}{E:Value→Shared→Prop}{s:Shared}{R:Result→Shared→Prop}
end
section
variable {X:Cx}
end
open PySem PySem.Spec PyProof.Rows My
section
variable {X:Cx}{tg:Expr}
end
section
variable {X:Cx}{es:List Expr}{kk:Nat}{tp:Pos}
end
end L2
namespace My
open PySem PySem.Spec PyProof.Rows L2
end My
namespace L2
open PySem PySem.Spec PyProof.Rows My
end L2
namespace My
open PySem PySem.Spec PyProof.Rows L2
end My
namespace L2
open PySem PySem.Spec PyProof.Rows My
end L2
namespace My
open PySem PySem.Spec PyProof.Rows L2
noncomputable abbrev Fn:=Nat→Int
section
variable {rows rows':List (List Int)}{f g:Fn}{p:Nat}
variable {by_ r:List Int}
end
section
variable {ws:List Way}{s0:St'}
end
end My
namespace L2
open PySem PySem.Spec PyProof.Rows My
section
variable {X:Cx}{pins:List (Addr×Obj)}{σ:St}{H H1:Hp}{s s1:Shared}
end
end L2
namespace My
open PySem PySem.Spec PyProof.Rows L2
end My
namespace L2
open PySem PySem.Spec PyProof.Rows PySem.SeqAt
open AutoSeq1 (wpAny_loadPart')
section
variable {prog:Program}{w:World}{A:Around}{E:Value→Shared→Prop}{s:Shared}
end
section
variable {prog:Program}{w:World}{A:Around}{E:Value→Shared→Prop}{s:Shared}{R:Result→Shared→Prop}
end
section
variable {X:Cx}
theorem nd_ne {α:Type}{l:List α}(nd:l.Nodup) {i j:Nat}{x y:α}(d:i≠j) (h1:l[i]? = some x) (h2:l[j]? = some y):x≠y:=fun ez=>by
 obtain ⟨n1,m1⟩:=List.getElem?_eq_some_iff.mp h1
 obtain ⟨n2,m2⟩:=List.getElem?_eq_some_iff.mp h2
 rcases Nat.lt_trichotomy i j with z | z | z
 · exact List.pairwise_iff_getElem.mp nd i j n1 n2 z (by rw [m1,m2];exact ez)
 · exact d z
 · exact List.pairwise_iff_getElem.mp nd j i n2 n1 z (by rw [m1,m2];exact ez.symm)
end
end L2
namespace My
open PySem PySem.Spec PyProof.Rows L2
theorem nd_sub_len {α:Type} [DecidableEq α]:∀ {L V:List α},L.Nodup→(∀ x∈L,x∈V)→L.length≤V.length
 | [],_,_,_=>Nat.zero_le _
 | x::L,V,nd,hs=>by
  obtain ⟨h1,h2⟩:=List.nodup_cons.mp nd
  have hx:=hs x List.mem_cons_self
  have:=nd_sub_len (V:=V.erase x) h2 fun y hy=>(List.mem_erase_of_ne (fun e=>h1 (by rw [← e];exact hy))).mpr (hs y (List.mem_cons_of_mem _ hy))
  rw [List.length_erase_of_mem hx] at this
  have:=List.length_pos_of_mem hx
  rw [List.length_cons]
  omega
theorem nd_sup {α:Type} [DecidableEq α]:∀ {L V:List α},L.Nodup→(∀ x∈L,x∈V)→V.length≤L.length→V.Nodup
 | [],V,_,_,h=>by
  rw [List.length_eq_zero_iff.mp (Nat.le_zero.mp h)]
  exact List.nodup_nil
 | x::L,V,nd,hs,h=>by
  obtain ⟨h1,h2⟩:=List.nodup_cons.mp nd
  have hx:=hs x List.mem_cons_self
  have sub:∀ y∈L,y∈V.erase x:=fun y hy=>(List.mem_erase_of_ne (fun e=>h1 (by rw [← e];exact hy))).mpr (hs y (List.mem_cons_of_mem _ hy))
  have le:=List.length_erase_of_mem hx
  rw [List.length_cons] at h
  have ih:=nd_sup h2 sub (by omega)
  rw [(List.perm_cons_erase hx).nodup_iff,List.nodup_cons]
  refine ⟨fun hin=>?_,ih⟩
  have:=nd_sub_len (L:=x::L) (V:=V.erase x) nd fun y hy=>by
   rcases List.mem_cons.mp hy with rfl | hy
   · exact hin
   · exact sub y hy
  have:=List.length_pos_of_mem hx
  rw [List.length_cons] at *
  omega
section
variable {ws:List Way}{s0:St'}
end
end My
namespace L2
open PySem PySem.Spec PyProof.Rows
section
variable {X:Cx}{y:Str}{p' pos apos:Pos}
end
end L2
namespace My
open PySem PySem.Spec PyProof.Rows L2
section
variable {ws:List Way}{s0:St'}
end
end My
namespace L2
open PySem PySem.Spec PyProof.Rows
noncomputable def AscA (xs:Array Nat):Prop:=xs.toList.Pairwise (· < ·)
theorem asc_get {xs:Array Nat}(h:AscA xs) {i k:Nat}(hi:i<k) (hk:k<xs.size):xs[i]<xs[k]:=by
 have:=List.pairwise_iff_getElem.mp h i k (by rw [Array.length_toList];omega) (by rw [Array.length_toList];omega) hi
 rw [Array.getElem_toList,Array.getElem_toList] at this
 exact this
theorem below_go {xs:Array Nat}{j:Nat}(h:AscA xs):∀ (fuel lo hi:Nat),hi-lo≤fuel→lo≤hi→hi≤xs.size→(∀ i (hi:i<xs.size),i<lo→xs[i]<j)→(∀ i (hx:i<xs.size),hi≤i→¬ xs[i]<j) →
 SetTable.below.go xs j fuel lo hi≤xs.size∧(∀ i (hx:i<xs.size),i<SetTable.below.go xs j fuel lo hi→xs[i]<j)∧∀ i (hx:i<xs.size),SetTable.below.go xs j fuel lo hi≤i→¬ xs[i]<j
 | 0,lo,hi,hf,hle,hs,h1,h2=>by
  rw [SetTable.below.go]
  have:lo=hi:=by omega
  subst this
  exact ⟨hs,h1,h2⟩
 | fuel+1,lo,hi,hf,hle,hs,h1,h2=>by
  rw [SetTable.below.go]
  by_cases c:lo<hi
  · rw [if_pos c]
    have hm:(lo+hi)/2<xs.size:=by omega
    have hg:xs.getD ((lo+hi)/2) j=xs[(lo+hi)/2]:=by rw [Array.getD_eq_getD_getElem?,Array.getElem?_eq_getElem hm];rfl
    show (if xs.getD ((lo+hi)/2) j<j then SetTable.below.go xs j fuel ((lo+hi)/2+1) hi else SetTable.below.go xs j fuel lo ((lo+hi)/2))≤xs.size∧_
    simp only [hg]
    by_cases d:xs[(lo+hi)/2]<j
    · rw [if_pos d]
      refine below_go h fuel _ _ (by omega) (by omega) hs (fun i hx hii=>?_) h2
      rcases Nat.lt_or_ge i ((lo+hi)/2) with z | z
      · exact Nat.lt_trans (asc_get h z hm) d
      · have:i=(lo+hi)/2:=by omega
        subst this
        exact d
    · rw [if_neg d]
      refine below_go h fuel _ _ (by omega) (by omega) (by omega) h1 (fun i hx hii=>?_)
      rcases Nat.lt_or_ge ((lo+hi)/2) i with z | z
      · have:=asc_get h z hx
        omega
      · have:i=(lo+hi)/2:=by omega
        subst this
        exact d
  · rw [if_neg c]
    have:lo=hi:=by omega
    subst this
    exact ⟨hs,h1,h2⟩
theorem below_spec {xs:Array Nat}(h:AscA xs) (j:Nat):SetTable.below xs j≤xs.size∧(∀ i (hx:i<xs.size),i<SetTable.below xs j→xs[i]<j)∧∀ i (hx:i<xs.size),SetTable.below xs j≤i→¬ xs[i]<j:=
 below_go h xs.size 0 xs.size (Nat.le_refl _) (Nat.zero_le _) (Nat.le_refl _) (fun i _ hi=>absurd hi (Nat.not_lt_zero _)) (fun i hx hi=>absurd hx (Nat.not_lt.mpr hi))
theorem below_next {xs:Array Nat}(h:AscA xs) {i:Nat}(hi:i<xs.size):SetTable.below xs (xs[i]+1)=i+1:=by
 obtain ⟨h1,h2,h3⟩:=below_spec h (xs[i]+1)
 rcases Nat.lt_trichotomy (SetTable.below xs (xs[i]+1)) (i+1) with z | z | z
 · exact absurd (Nat.lt_succ_self _) (h3 i hi (by omega))
 · exact z
 · have:=h2 (i+1) (by omega) z
   have:=asc_get h (i:=i) (k:=i+1) (by omega) (by omega)
   omega
theorem below_zero {xs:Array Nat}(h:AscA xs):SetTable.below xs 0=0:=by
 obtain ⟨h1,h2,h3⟩:=below_spec h 0
 rcases Nat.eq_zero_or_pos (SetTable.below xs 0) with z | z
 · exact z
 · exact absurd (h2 0 (by omega) z) (Nat.not_lt_zero _)
theorem ins_list {α:Type}(xs:Array α) {p:Nat}(hp:p≤xs.size) (x:α):(SetTable.insertAt xs p x).toList=xs.toList.take p++x::xs.toList.drop p:=by
 unfold SetTable.insertAt
 rw [Array.toList_append,Array.toList_push,Array.toList_extract,Array.toList_extract,List.append_assoc]
 simp only [List.extract_eq_take_drop,List.drop_zero,Nat.sub_zero,List.singleton_append]
 rw [List.take_of_length_le (l:=xs.toList.drop p) (by rw [List.length_drop,Array.length_toList];exact Nat.le_refl _)]
theorem asc_put {xs:Array Nat}(h:AscA xs) {j:Nat}(hj:xs[SetTable.below xs j]?≠some j):AscA (SetTable.insertAt xs (SetTable.below xs j) j):=by
 obtain ⟨h1,h2,h3⟩:=below_spec h j
 unfold AscA
 rw [ins_list xs h1]
 have lo:∀ y∈xs.toList.take (SetTable.below xs j),y<j:=fun y hy=>by
  obtain ⟨i,hi,e⟩:=List.mem_take_iff_getElem.mp hy
  rw [← e,Array.getElem_toList]
  exact h2 i (by omega) (by omega)
 have hi:∀ y∈xs.toList.drop (SetTable.below xs j),j<y:=fun y hy=>by
  obtain ⟨i,hi,e⟩:=List.mem_drop_iff_getElem.mp hy
  rw [Array.length_toList] at hi
  rw [Array.getElem_toList] at e
  have n1:=h3 (SetTable.below xs j) (by omega) (Nat.le_refl _)
  have n2:xs[SetTable.below xs j]'(by omega)≠j:=fun z=>hj (by rw [Array.getElem?_eq_getElem (by omega),z])
  rcases Nat.eq_zero_or_pos i with rfl | z
  · simp at e
    omega
  · have:=asc_get h (i:=SetTable.below xs j) (k:=SetTable.below xs j+i) (by omega) (by omega)
    omega
 refine List.pairwise_append.mpr ⟨(List.Pairwise.sublist (List.take_sublist _ _) h),List.pairwise_cons.mpr ⟨hi,List.Pairwise.sublist (List.drop_sublist _ _) h⟩,fun a ha b hb=>?_⟩
 have:=lo a ha
 rcases List.mem_cons.mp hb with rfl | hb
 · exact this
 · exact Nat.lt_trans this (hi b hb)
noncomputable abbrev NotLive (t:SetTable) (j:Nat):Prop:=t.place[SetTable.below t.place j]?≠some j
theorem slot_not {t:SetTable}{j:Nat}(h:∀ i,t.slot j≠.live i):NotLive t j:=fun e=>by
 refine h (SetTable.below t.place j) ?_
 unfold SetTable.slot
 rw [if_pos (by rw [e];exact beq_self_eq_true _)]
theorem adv_dummy (t:SetTable) (p:SetTable.Probe):(t.advance p).dummy=p.dummy:=by
 unfold SetTable.advance
 split<;>rfl
theorem probe_go {t:SetTable}{ha:Nat→Int}{h:Int}:∀ (fuel:Nat) (p:SetTable.Probe),(∀ d,p.dummy=some d→NotLive t d)→∀ j dm,SetTable.probe.go t ha h fuel p=some (.empty j dm)→NotLive t (dm.getD j)
 | 0,p,_,j,dm,e=>by rw [SetTable.probe.go] at e;cases e
 | fuel+1,p,hd,j,dm,e=>by
  rw [SetTable.probe.go] at e
  split at e
  · rename_i hs
    cases e
    cases hdm:p.dummy with
    | none=>
     refine slot_not fun i z=>?_
     have z:t.slot p.j = .live i:=z
     rw [hs] at z
     cases z
    | some d=>exact hd d hdm
  · rename_i hs
    refine probe_go fuel _ (fun d hdd=>?_) j dm e
    rw [adv_dummy] at hdd
    cases hdd
    exact slot_not fun i z=>by
     rw [hs] at z
     cases z
  · rename_i i hs
    split at e
    · cases e
    · exact probe_go fuel _ (fun d hdd=>hd d (by rw [adv_dummy] at hdd;exact hdd)) j dm e
theorem free_slot {t:SetTable}{h:Int}{j:Nat}{b:Bool}(e:t.freeSlot h=some (j,b)):NotLive t j:=by
 unfold SetTable.freeSlot at e
 split at e
 · rename_i k dm hp
   cases e
   exact probe_go _ _ (fun d hd=>by cases hd) _ _ hp
 · cases e
theorem asc_range (n:Nat):AscA (Array.range n):=by
 unfold AscA
 rw [Array.toList_range]
 exact List.pairwise_lt_range
theorem lay_asc {t:SetTable}{es:Array (Int×Value)}{h:Int}{x:Value}(ha:AscA t.place):AscA (layNew t es h x).2.1.place∧(layNew t es h x).2.1.led=t.led:=by
 unfold layNew
 split
 · rename_i j b e
   have hj:=free_slot e
   show AscA ((t.put j).1.orStandIn _).place∧((t.put j).1.orStandIn _).led=t.led
   unfold SetTable.orStandIn
   split
   · exact ⟨asc_put ha hj,rfl⟩
   · exact ⟨asc_range _,rfl⟩
 · exact ⟨asc_range _,rfl⟩
theorem laid_asc {mask finger moves:Nat}{led plain:Bool}{hs:Array Int}{t:SetTable}{o:Array Nat}(e:SetTable.laid mask finger moves led plain hs=some (t,o)):AscA t.place∧t.led=led:=by
 unfold SetTable.laid at e
 cases hc:SetTable.layClean mask hs with
 | none=>rw [hc] at e;cases e
 | some owner=>
  rw [hc] at e
  cases e
  refine ⟨?_,rfl⟩
  show List.Pairwise (· < ·) (((List.range (mask+1)).filterMap fun j=>(owner.getD j none).map (j,·)).map (·.1))
  refine List.pairwise_map.mpr ?_
  refine List.Pairwise.filterMap (R:=(· < ·)) _ (fun a a' haa b hb b' hb'=>?_) List.pairwise_lt_range
  obtain ⟨_,_,rfl⟩:=Option.map_eq_some_iff.mp hb
  obtain ⟨_,_,rfl⟩:=Option.map_eq_some_iff.mp hb'
  exact haa
theorem relay_asc {t:SetTable}{es:Array (Int×Value)}{k:Nat}:AscA (relayAll t es k).2.1.place∧(relayAll t es k).2.1.led=t.led:=by
 unfold relayAll
 split
 · rename_i t' o e
   have:=laid_asc e
   show AscA (if _ then _ else _:Array (Int×Value)×SetTable×Bool).2.1.place∧(if _ then _ else _:Array (Int×Value)×SetTable×Bool).2.1.led=t.led
   by_cases c:(coversAll o es.size&&t'.fits (o.filterMap (es[·]?)).size)=true
   · rw [if_pos c];exact this
   · rw [if_neg c];exact ⟨asc_range _,rfl⟩
 · exact ⟨asc_range _,rfl⟩
section
variable {prog:Program}{w:World}
noncomputable def SetI (prog:Program) (w:World) (h:Heap) (a:Addr) (ns:List Int):Prop:=
 ∃ (o:Obj) (es:Array (Int×Value)) (ep:Nat) (t:SetTable),h.get? a=some o∧o.ExactSet∧o.data = .set es ep t∧ElemsOf (intKind prog w) es.toList∧(∀ k,ns.contains k=true↔∃ e∈es.toList,(intKind prog w).is k e.2=true)∧es.size<scanBound∧t.fits es.size=true∧es.size=ns.length∧AscA t.place∧t.led = !w.params.followText "set-order"
variable {A:Around}{E:Value→Shared→Prop}{s:Shared}
theorem put_tail {g:Bool→Sem Unit}(hg:∀ (b:Bool) (s₁:Shared) (Q':Unit→Shared→Prop),Q' () s₁→wpAny (model prog w) A (g b) Q' E s₁)
 {a:Addr} {o:Obj} {es:Array (Int×Value)} {ep:Nat} {t:SetTable} (ho:s.heap.get? a=some o) (hex:o.ExactSet) (hd:o.data = .set es ep t)
 {es1:Array (Int×Value)} {t2:SetTable} {ns:List Int} (hel:ElemsOf (intKind prog w) es1.toList) (hm:∀ k,ns.contains k=true↔∃ e∈es1.toList,(intKind prog w).is k e.2=true)
 (hb:es1.size<scanBound) (hf:t2.fits es1.size=true) (hn:es1.size=ns.length) (ha:AscA t2.place) (hl:t2.led = !w.params.followText "set-order") {wd:Bool} {R:Option Bool→Shared→Prop}
 (h:∀ h',Heap.SameBut a s.heap h'→SetI prog w h' a ns→R (some true) { s with heap:=h' }) :
 wpAny (model prog w) A (do
  storeSet a es1 t2
  if (!wd&&t2.tooFull)=true then do
      g (relayAll t2 es1 (SetTable.grown es1.size)).2.2
      storeSet a (relayAll t2 es1 (SetTable.grown es1.size)).1 (relayAll t2 es1 (SetTable.grown es1.size)).2.1
      pure (some true)
   else pure (some true)) R E s:=by
 have st1:=SetOf_store (knd:=intKind prog w) (S':=fun k=>ns.contains k) ho hex hd hel hm hb hf
 have sb1:=Heap.SameBut.update s.heap a (Obj.putSet es1 t2)
 refine wpAny_bind (wpAny_storeSet_of ho hd ?_ (fits_of_scanBound hb))
 by_cases c:(!wd&&t2.tooFull)=true
 · rw [if_pos c]
   have pm:=relayAll_perm t2 es1 (SetTable.grown es1.size)
   have ft:=relayAll_fits t2 es1 (SetTable.grown es1.size)
   have as:=relay_asc (t:=t2) (es:=es1) (k:=SetTable.grown es1.size)
   generalize relayAll t2 es1 (SetTable.grown es1.size)=L at pm ft as ⊢
   obtain ⟨es2,t3,gv⟩:=L
   have sz:es2.size=es1.size:=by rw [← Array.length_toList,pm.length_eq,Array.length_toList]
   have el2:ElemsOf (intKind prog w) es2.toList:=ElemsOf.perm hel pm
   have m2:∀ k,ns.contains k=true↔∃ e∈es2.toList,(intKind prog w).is k e.2=true:=fun k=>by
    rw [hm k]
    exact ⟨fun ⟨e,he,q⟩=>⟨e,pm.mem_iff.mpr he,q⟩,fun ⟨e,he,q⟩=>⟨e,pm.mem_iff.mp he,q⟩⟩
   have st2:=SetOf_store (knd:=intKind prog w) (S':=fun k=>ns.contains k) st1.1 hex rfl el2 m2 (by rw [sz];exact hb) ft
   refine wpAny_bind (hg _ _ _ (wpAny_bind (wpAny_storeSet_of st1.1 rfl ?_ (fits_of_scanBound (by rw [sz];exact hb)))))
   exact wpAny_pure (h _ (sb1.trans (Heap.SameBut.update _ a _)) ⟨_,es2,_,t3,st2.1,hex,rfl,el2,m2,by rw [sz];exact hb,ft,by rw [sz];exact hn,as.1,by rw [as.2];exact hl⟩)
 · rw [if_neg c]
   exact wpAny_pure (h _ sb1 ⟨_,es1,_,t2,st1.1,hex,rfl,hel,hm,hb,hf,hn,ha,hl⟩)
theorem set_addI {a:Addr}{ns:List Int}{k:Int}{tk:Tok}{Q:Bool→Shared→Prop}(hS:SetI prog w s.heap a ns) (hroom:ns.length+1<scanBound)
 (h:∀ h' b,Heap.SameBut a s.heap h'→SetI prog w h' a (if ns.contains k then ns else ns++[k])→Q b { s with heap:=h' }) :
 wpAny (model prog w) A (setAddHashed a (.int k tk) ((intKind prog w).hash k)) Q E s:=by
 obtain ⟨o,es,ep,t,ho,hex,hd,hel,hm,hb,hf,hn,ha,hl⟩:=hS
 have hk:(intKind prog w).is k (.int k tk)=true:=intKind_is _ _ _ _
 have hsc:(Value.int k tk).scannable=true:=rfl
 have room:es.size+1<scanBound:=by rw [hn];exact hroom
 unfold setAddHashed setAddHashedIn
 refine wpAny_holding (wpAny_bind (wpAny_setState_of ho hd hf ?_))
 dsimp only
 rw [byScan_of hsc hb hel,if_pos rfl]
 unfold setAddByScan
 refine wpAny_bind (wpAny_bind (wpAny_rule (wpAny_bind (wpAny_setScan_of hk ho hd hf hel ?_))))
 cases hr:List.findIdx? (fun e=>(intKind prog w).is k e.2) es.toList with
 | some j=>
  obtain ⟨hj,hpj,_⟩:=List.findIdx?_eq_some_iff_getElem.mp hr
  have hin:ns.contains k=true:=(hm k).mpr ⟨es.toList[j],List.getElem_mem hj,hpj⟩
  refine wpAny_pure (wpAny_pure ?_)
  have e:s = { s with heap:=s.heap }:=by cases s;rfl
  have q:=h s.heap false (Heap.SameBut.refl a s.heap) (by rw [if_pos hin];exact ⟨o,es,ep,t,ho,hex,hd,hel,hm,hb,hf,hn,ha,hl⟩)
  rw [e];exact q
 | none=>
  dsimp only
  have hout:¬ ns.contains k=true:=fun hc=>by
   obtain ⟨e,he,hp⟩:=(hm k).mp hc
   have:=List.findIdx?_eq_none_iff.mp hr e he
   rw [hp] at this
   cases this
  have gw:∀ (b:Bool) {s₁:Shared} {Q':Unit→Shared→Prop},Q' () s₁→wpAny (model prog w) A (match b with | true=>rule "set.scan.the-table-gave-way" | false=>pure ()) Q' E s₁:=fun b s₁ Q' hq=>by
   cases b<;>first | exact wpAny_pure hq | exact wpAny_rule hq
  have pm:=layNew_perm t es ((intKind prog w).hash k) (.int k tk)
  have ft:=layNew_fits t es ((intKind prog w).hash k) (.int k tk)
  have as:=lay_asc (t:=t) (es:=es) (h:=(intKind prog w).hash k) (x:=.int k tk) ha
  generalize layNew t es ((intKind prog w).hash k) (.int k tk)=L at pm ft as ⊢
  obtain ⟨es1,t1,wd,gv⟩:=L
  dsimp only at pm ft as ⊢
  rw [Array.toList_push] at pm
  have el1:ElemsOf (intKind prog w) es1.toList:=ElemsOf.perm (hel.push hk hsc) pm
  have m1:∀ k',(ns++[k]).contains k'=true↔∃ e∈es1.toList,(intKind prog w).is k' e.2=true:=fun k'=>by
   rw [← mem_push_iff (S:=fun x=>ns.contains x) hk hm pm k']
   simp
  have sz:es1.size=es.size+1:=by rw [← Array.length_toList,pm.length_eq,List.length_append,Array.length_toList];rfl
  have nl:es1.size=(ns++[k]).length:=by rw [sz,List.length_append,List.length_singleton,hn]
  have b1:es1.size<scanBound:=by rw [sz];exact room
  have fin:∀ h',Heap.SameBut a s.heap h'→SetI prog w h' a (ns++[k])→Q true { s with heap:=h' }:=fun h' sb q=>h h' true sb (by rw [if_neg hout];exact q)
  refine wpAny_bind (gw _ ?_)
  split
  · refine wpAny_bind ?_
    rw [hashByValue_scannable 8 hsc]
    refine wpAny_pure ?_
    refine put_tail ?_ ho hex hd el1 m1 b1 ?_ nl ?_ ?_ ?_
    · intro b s₁ Q' hq;cases b<;>first | exact wpAny_pure hq | exact wpAny_rule hq
    · split
      · exact ft
      · exact SetTable.fits_plain_off ft
    · split<;>exact as.1
    · split<;>(show t1.led=_;rw [as.2];exact hl)
    · intro h' sb q;exact wpAny_pure (fin h' sb q)
  · refine wpAny_bind (wpAny_pure ?_)
    simp only [↓reduceIte]
    refine put_tail ?_ ho hex hd el1 m1 b1 ft nl as.1 (by rw [as.2];exact hl) ?_
    · intro b s₁ Q' hq;cases b<;>first | exact wpAny_pure hq | exact wpAny_rule hq
    · intro h' sb q;exact wpAny_pure (fin h' sb q)
end
noncomputable def metL (val:Nat→Int):Nat→List Int
 | 0=>[]
 | i+1=>if (metL val i).contains (val i) then metL val i else metL val i++[val i]
theorem met_len (val:Nat→Int):∀ i,(metL val i).length≤i
 | 0=>Nat.le_refl _
 | i+1=>by
  have:=met_len val i
  rw [metL]
  split
  · omega
  · rw [List.length_append,List.length_singleton];omega
theorem met_mem (val:Nat→Int):∀ i x,x∈metL val i↔∃ j,j<i∧val j=x
 | 0,x=>by simp [metL]
 | i+1,x=>by
  have ih:=met_mem val i
  rw [metL]
  by_cases c:(metL val i).contains (val i)=true
  · rw [if_pos c,ih x]
    have c':=(ih _).mp (List.contains_iff_mem.mp c)
    constructor
    · rintro ⟨j,h1,h2⟩
      exact ⟨j,by omega,h2⟩
    · rintro ⟨j,h1,h2⟩
      rcases Nat.lt_or_ge j i with z | z
      · exact ⟨j,z,h2⟩
      · have:j=i:=by omega
        subst this
        obtain ⟨j',h3,h4⟩:=c'
        exact ⟨j',h3,h4.trans h2⟩
  · rw [if_neg c,List.mem_append,ih x,List.mem_singleton]
    constructor
    · rintro (⟨j,h1,h2⟩ | h)
      · exact ⟨j,by omega,h2⟩
      · exact ⟨i,by omega,h.symm⟩
    · rintro ⟨j,h1,h2⟩
      rcases Nat.lt_or_ge j i with z | z
      · exact .inl ⟨j,z,h2⟩
      · have:j=i:=by omega
        subst this
        exact .inr h2.symm
theorem met_nd (val:Nat→Int):∀ i,(metL val i).Nodup
 | 0=>List.nodup_nil
 | i+1=>by
  rw [metL]
  by_cases c:(metL val i).contains (val i)=true
  · rw [if_pos c];exact met_nd val i
  · rw [if_neg c]
    refine List.nodup_append.mpr ⟨met_nd val i,List.pairwise_singleton _ _,fun a ha b hb e=>c ?_⟩
    rw [List.mem_singleton] at hb
    rw [← hb,← e]
    exact List.contains_iff_mem.mpr ha
section
variable {prog:Program}{w:World}{A:Around}{R:Result→Shared→Prop}
theorem SetI.at {h h':Heap}{a:Addr}{ns:List Int}(S:SetI prog w h a ns) (k:∀ o,h.get? a=some o→h'.get? a=some o):SetI prog w h' a ns:=by
 obtain ⟨o,es,ep,t,ho,rest⟩:=S
 exact ⟨o,es,ep,t,k o ho,rest⟩
theorem set_loop {I:Addr}{fp wr:List Addr}{n:Nat}{P:Nat→Value→Prop}{St:Nat→Heap→Prop}(W:Walks prog w A.in1 I fp wr n P St) (S:Addr) (hSf:S∉fp) (val:Nat→Int) (hval:∀ i v,P i v→∃ t,v = .int (val i) t) (hb:n+1<scanBound) :
 ∀ (k i:Nat) (s:Shared),n-i=k→i≤n→St i s.heap→SetI prog w s.heap S (metL val i) →
  (∀ h' tk,(∀ b o,b∉wr→b≠S→s.heap.get? b=some o→h'.get? b=some o)→SetI prog w h' S (metL val n)→R (.ok (.ret .none)) { s with heap:=h',toks:=tk }) →
  codeAny (model prog w) A (.builtin "set.update.loop" ⟨[.ref S,.ref I],[]⟩) R s:=by
 have off:S∉wr:=fun h=>hSf (W.sub _ h)
 intro k
 induction k with
 | zero=>
  intro i s hk hi st hS fin
  have e:i=n:=by omega
  subst e
  refine codeAny_builtin F.entry_set_update_loop ?_
  rw [Around.under_plainId F.plain_set_update_loop _]
  show wpAny _ A.in1 (pyNext (.ref I) >>= _) _ _ s
  refine wpAny_bind (W.done s _ _ st fun h' tk kp=>?_)
  show wpAny _ A.in1 (ret Value.none) _ _ _
  exact wpAny_pure (fin h' tk (fun b o hbw _ e=>kp b o hbw e) (hS.at fun o e=>kp S o off e))
 | succ k ih=>
  intro i s hk hi st hS fin
  have hlt:i<n:=by omega
  refine codeAny_builtin F.entry_set_update_loop ?_
  rw [Around.under_plainId F.plain_set_update_loop _]
  show wpAny _ A.in1 (pyNext (.ref I) >>= _) _ _ s
  refine wpAny_bind (W.item i s _ _ hlt st fun v h' tk hp st' kp=>?_)
  obtain ⟨tv,rfl⟩:=hval i v hp
  show wpAny _ A.in1 (holding [Value.int (val i) tv] (setAdd S (.int (val i) tv)) >>= _) _ _ _
  refine wpAny_bind (wpAny_holding ?_)
  unfold setAdd
  refine wpAny_holding (wpAny_bind ((intKind prog w).pyHash (k:=val i) (intKind_is _ _ _ _) ?_))
  have hroom:(metL val i).length+1<scanBound:=by have:=met_len val i;omega
  refine set_addI (hS.at fun o e=>kp S o off e) hroom fun h2 b sb hS2=>?_
  refine wpAny_pure ⟨plainId_quiet F.plain_set_update_loop _,ih (i+1) _ (by omega) hlt (W.frame _ _ _ st' fun b hbf o e=>?_) hS2 fun h3 tk3 k3 hS3=>?_⟩
  · rw [sb.2 b (fun z:b=S=>hSf (by rw [← z];exact hbf))];exact e
  · refine fin h3 tk3 (fun b o hbw hbS e=>k3 b o hbw hbS ?_) hS3
    show h2.get? b=some o
    rw [sb.2 b hbS]
    exact kp b o hbw e
end
end L2
set_option maxHeartbeats 3200000
namespace L2
open PySem PySem.Spec PyProof.Rows
section
variable {prog:Program}{w:World}{A:Around}{E:Value→Shared→Prop}{s:Shared}
noncomputable def set0 (w:World):Obj:={ cls:=.type "set",dict:=none,data:=.set #[] 0 (.fresh 0 0 (!w.params.followText "set-order")) }
theorem set_new (a:Value) {Q₁:Value→Shared→Prop}(h:Q₁ (.ref s.heap.objs.size) { s with heap:=s.heap.push (set0 w) }) :
 codeAny (model prog w) A (.call (.builtin "set.__new__") ⟨[.type "set",a],[]⟩) (wants Q₁ E) s:=by
 refine codeAny_of_tree ?_
 show wpAny _ A.in1 (do checkBuiltinCall "set.__new__" ⟨[.type "set",a],[]⟩;again (.builtin "set.__new__" ⟨[.type "set",a],[]⟩)) _ _ s
 refine wpAny_bind (wpAny_of_eq (F.newCall_set_1 a) (wpAny_pure ⟨plainId_quiet F.plain_set_new _,codeAny_builtin F.entry_set_new ?_⟩))
 rw [Around.under_plainId F.plain_set_new _]
 unfold Builtin.«set.__new__» Builtin.Frozenset.newClass
 have hsub:=sub_set_self
 obtain ⟨hp,g,d,tk,os⟩:=s
 dsimp only
 wp_walk
 refine wpAny_askSetting (wpAny_pure ?_)
 dsimp only
 simp only [newObj]
 exact wpAny_bind (wpAny_alloc (wpAny_pure (wpAny_pure h)))
theorem set0_I {h:Heap}:SetI prog w (h.push (set0 w)) h.objs.size []:=
 ⟨_,#[],0,_,Heap.get?_push_size _ rfl,⟨rfl,rfl,rfl⟩,rfl,fun e he=>by simp at he,fun k=>by simp,by decide,rfl,rfl,List.Pairwise.nil,rfl⟩
theorem call_setI {l:Addr}{items:Array Value}{ns:List Int}{Q:Value→Shared→Prop}(hh:A.handled=none) (hl:s.heap.IsList l items) (hi:IntsAre items.toList ns) (hb:items.size+1<scanBound)
 (h:∀ (h':Heap) (tk:Nat),SetI prog w h' s.heap.objs.size (metL (fun i=>ns.getD i 0) items.size)→(∀ b o,b<s.heap.objs.size→s.heap.get? b=some o→h'.get? b=some o)→Q (.ref s.heap.objs.size) { s with heap:=h',toks:=tk }) :
 wpAny (model prog w) A (call (.type "set") [.ref l]) Q E s:=by
 obtain ⟨c,tl,hmro⟩:=F.called_set.mro
 have hmade:=F.called_set.made
 have hsub:=F.called_set.sub
 have h1:=F.called_set.notType
 have h2:=F.called_set.canCreate
 have hct:=F.typeCall_set_1 (.ref l)
 refine wpAny_call (codeAny_of_tree ?_)
 show wpAny _ _ (callAny (.type "set") _) _ _ _
 refine wpAny_pure ⟨Code.quiet_builtin _ (by decide +kernel),codeAny_builtin F.entry_type_call ?_⟩
 rw [Around.under_plain (weight_type_call_type "set" [.ref l] []) rfl]
 repeat (any_goals (first | assumption | wp_step))
 refine codeAny_mono (set_new (.ref l) (E:=E) (Q₁:=fun obj s₁=>obj = .ref s.heap.objs.size∧s₁ = { s with heap:=s.heap.push (set0 w) }) ⟨rfl,rfl⟩) fun r s₁ hr=>?_
 cases r with
 | error e=>exact hr
 | ok fl=>
  cases fl with
  | ret obj=>
   obtain ⟨rfl,rfl⟩:=hr
   have hS:(s.heap.push (set0 w)).get? s.heap.objs.size=some (set0 w):=Heap.get?_push_size _ rfl
   have hT:Shared.TypeIs { s with heap:=s.heap.push (set0 w) } (.ref s.heap.objs.size) "set":=⟨_,hS,rfl⟩
   have hli:=F.called_set.init.lookup
   have hbi:=F.called_set.init.bind (.ref s.heap.objs.size)
   repeat (any_goals (first | assumption | wp_step))
   refine codeAny_mono (codeAny_call_builtin (R:=wants (fun r s₂=>r = .none∧∃ h' tk,s₂ = { s with heap:=h',toks:=tk }∧SetI prog w h' s.heap.objs.size (metL (fun i=>ns.getD i 0) items.size)∧(∀ b o,b<s.heap.objs.size→s.heap.get? b=some o→h'.get? b=some o)) E) F.called_set.init.plain F.entry_set_init (check_set_init_1 hT ?_)) fun r₂ s₂ hr₂=>?_
   · obtain ⟨⟨ocls,odict,odata,oslots⟩,hol,hcl,nl,hdl⟩:=hl
     simp only at hcl hdl
     subst hcl;subst hdl
     have hol':(s.heap.push (set0 w)).get? l=some { cls:=.type "list",dict:=odict,data:=.seq items nl,slots:=oslots }:=Heap.get?_push_of_some _ hol
     have hsls:=F.sub_list_set
     have hslf:=F.sub_list_frozenset
     have hne:(Value.type "list" == Value.type "dict")=false:=by decide
     have hl1:(s.heap.push (set0 w)).IsList l items:=⟨_,hol',rfl,nl,rfl⟩
     unfold Builtin.«set.__init__» noKeywords Builtin.Frozenset.updateFrom
     generalize hPI:pyIter=PI
     wp_walk
     subst hPI
     refine wpAny_pyIter_list hl1 (wpAny_bind (wpAny_runValue ?_))
     have hlS:l<s.heap.objs.size:=Heap.lt_size hol
     have hh3:A.in1.in1.in1.handled=none:=by simp [hh]
     have zI:(s.heap.push (set0 w)).objs.size=s.heap.objs.size+1:=Heap.size_push ..
     refine set_loop (Walks.list hh3 _ l (by rw [zI];exact Nat.ne_of_lt (Nat.lt_succ_of_lt hlS)) items) s.heap.objs.size ?_ (fun i=>ns.getD i 0) (fun i v hv=>IntsAre.int_at hi i v (by rw [Array.getElem?_toList];exact hv)) hb _ 0 _ rfl (Nat.zero_le _) ⟨⟨_,Heap.get?_push_size _ rfl,rfl,rfl⟩,hl1.push _⟩ ((set0_I (prog:=prog)).at fun o e=>Heap.get?_push_of_some _ e) fun h' tk kp hS'=>?_
     · rw [zI]
       simp only [List.mem_cons,List.not_mem_nil,or_false,not_or]
       exact ⟨Nat.ne_of_lt (Nat.lt_succ_self _),Nat.ne_of_gt hlS⟩
     · show wpAny _ _ _ _ _ _
       refine wpAny_pure ?_
       show wpAny _ _ (ret Value.none) _ _ _
       refine wpAny_pure ⟨rfl,h',tk,rfl,hS',fun b o hb e=>kp b o ?_ (Nat.ne_of_lt hb) (Heap.get?_push_of_some _ (Heap.get?_push_of_some _ e))⟩
       rw [zI,List.mem_singleton]
       exact Nat.ne_of_lt (Nat.lt_succ_of_lt hb)
   · cases r₂ with
     | error e=>exact hr₂
     | ok fl₂=>
      cases fl₂ with
      | ret r=>
       obtain ⟨rfl,h',tk,rfl,hS',hk'⟩:=hr₂
       repeat (any_goals (first | assumption | wp_step))
       exact h _ _ hS' hk'
      | _=>exact hr₂.elim
  | _=>exact hr.elim
end
theorem slot_seti_next:Slot "set_iterator" "__next__" "set_iterator.__next__":=
 .of (owner:="set_iterator") (n:="__next__") (by rw [typeLookup_type,builtinLookup_eq_fast];kernel_rfl) (by decide +kernel) (by decide +kernel) (by decide +kernel) (by first | exact .inl (by decide +kernel) | exact .inr (by decide +kernel)) (by rw [isSubtype_type];kernel_rfl)
theorem entry_seti_next:entryFor table "set_iterator.__next__" = some Builtin.«set_iterator.__next__»:=entryFor_of_fast (by kernel_rfl)
theorem args_seti_next (a:Value):argsOk "set_iterator.__next__" ⟨[a],[]⟩:=by unfold argsOk;kernel_rfl
theorem slot_set_iter':Slot "set" "__iter__" "set.__iter__":=
 .of (owner:="set") (n:="__iter__") (by rw [typeLookup_type,builtinLookup_eq_fast];kernel_rfl) (by decide +kernel) (by decide +kernel) (by decide +kernel) (by first | exact .inl (by decide +kernel) | exact .inr (by decide +kernel)) (by rw [isSubtype_type];kernel_rfl)
theorem args_set_iter' (a:Value):argsOk "set.__iter__" ⟨[a],[]⟩:=by unfold argsOk;kernel_rfl
theorem entry_set_iter':entryFor table "set.__iter__" = some Builtin.«frozenset.__iter__»:=
 entryFor_alias (id':="frozenset.__iter__") (by kernel_rfl) rfl (by decide +kernel) (by kernel_rfl)
noncomputable def IsSetIter (h:Heap) (it:Addr) (first:Value) (i:Nat) (a:Addr) (n ep:Nat):Prop:=∃ o,h.get? it=some o∧o.cls = .type "set_iterator"∧o.data = .fields #[first,.int i 0,.ref a,.int n 0,.int ep 0]
theorem erase_perm {α:Type}:∀ {l:List α}{j:Nat}(h:j<l.length),(l[j]::l.eraseIdx j).Perm l
 | [],_,h=>by simp at h
 | x::l,0,_=>by simp
 | x::l,j+1,h=>by
  have h':j<l.length:=by simpa using h
  show (l[j]::x::l.eraseIdx j).Perm (x::l)
  exact (List.Perm.swap x l[j] _).trans ((erase_perm h').cons x)
theorem pick_perm {α:Type}(next:Nat→Nat):∀ (fuel k:Nat) (left:List α) (out:Array α),left.length≤fuel→(pickOrder.go next fuel k left out).toList.Perm (out.toList++left)
 | 0,k,left,out,h=>by
  rw [List.length_eq_zero_iff.mp (Nat.le_zero.mp h),pickOrder.go,List.append_nil]
 | fuel+1,k,left,out,h=>by
  rw [pickOrder.go]
  cases left with
  | nil=>simp
  | cons x l=>
   have hlt:next k%(x::l).length<(x::l).length:=Nat.mod_lt _ (by simp)
   generalize next k%(x::l).length=j at hlt
   rw [List.getElem?_eq_getElem hlt]
   refine (pick_perm next fuel (k+1) _ _ (by rw [List.length_eraseIdx_of_lt hlt];omega)).trans ?_
   rw [Array.toList_push,List.append_assoc]
   refine List.Perm.append_left _ ?_
   rw [List.singleton_append]
   exact erase_perm hlt
section
variable {prog:Program}{w:World}{A:Around}{E:Value→Shared→Prop}{s:Shared}
theorem wp_choose' {src:Source}{n:Nat}{Q:Nat→Shared→Prop}(hn:n≠0) (h:∀ i d,i<n→Q i { s with drawn:=d }):wpAny (model prog w) A (choose src n) Q E s:=fun Γ p hΓ=>by
 unfold choose
 rw [PySem.Sem.wp_choose]
 exact ⟨hn,h _ _ (Nat.mod_lt _ (Nat.pos_of_ne_zero hn))⟩
theorem draw_perm {α:Type}:∀ (n:Nat) (xs:List α) (s:Shared) (Q:List α→Shared→Prop),xs.length≤n→(∀ ys d,ys.Perm xs→Q ys { s with drawn:=d })→wpAny (model prog w) A (drawOrder n xs) Q E s
 | 0,xs,s,Q,hn,h=>by
  have:xs=[]:=List.length_eq_zero_iff.mp (Nat.le_zero.mp hn)
  subst this
  exact wpAny_pure (h [] s.drawn (List.Perm.refl _))
 | n+1,[],s,Q,hn,h=>wpAny_pure (h [] s.drawn (List.Perm.refl _))
 | n+1,x::xs,s,Q,hn,h=>by
  unfold drawOrder
  refine wpAny_bind (wp_choose' (by simp) fun i d hi=>?_)
  rw [List.getElem?_eq_getElem hi]
  show wpAny _ _ (drawOrder n ((x::xs).eraseIdx i) >>= _) _ _ _
  refine wpAny_bind (draw_perm n _ _ _ (by rw [List.length_eraseIdx_of_lt hi];omega) fun ys d' hp=>?_)
  exact wpAny_pure (h _ d' ((hp.cons _).trans (erase_perm hi)))
noncomputable def SetAt (w:World) (h:Heap) (a:Addr) (es:Array (Int×Value)) (ep:Nat) (t:SetTable):Prop:=
 ∃ o,h.get? a=some o∧o.cls = .type "set"∧o.data = .set es ep t∧t.fits es.size=true∧AscA t.place∧t.led = !w.params.followText "set-order"
theorem SetAt.keep {h h':Heap}{a:Addr}{es:Array (Int×Value)}{ep:Nat}{t:SetTable}(S:SetAt w h a es ep t) (k:∀ o,h.get? a=some o→h'.get? a=some o):SetAt w h' a es ep t:=by
 obtain ⟨o,ho,rest⟩:=S
 exact ⟨o,k o ho,rest⟩
noncomputable abbrev dr (es:Array (Int×Value)) (t:SetTable):Bool:=!t.plain&&es.size>1
variable {a:Addr}{es:Array (Int×Value)}{ep:Nat}{t:SetTable}
theorem next_text {slot i:Nat}{Q:Option (Value×Nat)→Shared→Prop}(S:SetAt w s.heap a es ep t) (hb:w.params.followText "set-order" = true)
 (h:Q (((pickOrder (w.params.setOrder a ep) es)[i]?).map fun e=>(e.2,slot)) s):wpAny (model prog w) A (setNext a slot i ep) Q E s:=by
 obtain ⟨o,ho,hc,hd,hf,ha,hl⟩:=S
 unfold setNext
 refine wpAny_bind (wpAny_setState_of ho hd hf ?_)
 unfold setsByText
 refine wpAny_bind (wpAny_bind (wpAny_askSetting (wpAny_pure ?_)))
 show wpAny _ _ (if w.params.followText "set-order" = true then _ else _) _ _ _
 rw [if_pos hb,if_neg (by simp)]
 unfold setWalk setsByText
 refine wpAny_bind (wpAny_bind (wpAny_setState_of ho hd hf ?_))
 refine wpAny_bind (wpAny_bind (wpAny_askSetting (wpAny_pure ?_)))
 show wpAny _ _ (if w.params.followText "set-order" = true then _ else _) _ _ _
 rw [if_pos hb]
 exact wpAny_bind (wpAny_askSetting (wpAny_pure (wpAny_pure h)))
theorem next_place {slot i:Nat}{Q:Option (Value×Nat)→Shared→Prop}(S:SetAt w s.heap a es ep t) (hb:w.params.followText "set-order" = false) (hdr:dr es t=false)
 (h:Q (match es[SetTable.below t.place slot]?,t.place[SetTable.below t.place slot]? with | some (_,x),some j=>some (x,j+1) | _,_=>none) s):wpAny (model prog w) A (setNext a slot i ep) Q E s:=by
 obtain ⟨o,ho,hc,hd,hf,ha,hl⟩:=S
 unfold setNext
 refine wpAny_bind (wpAny_setState_of ho hd hf ?_)
 unfold setsByText
 refine wpAny_bind (wpAny_bind (wpAny_askSetting (wpAny_pure ?_)))
 show wpAny _ _ (if w.params.followText "set-order" = true then _ else _) _ _ _
 rw [if_neg (by rw [hb];exact Bool.false_ne_true)]
 show wpAny _ _ (if dr es t=true then _ else _) _ _ _
 rw [if_neg (by rw [hdr];exact Bool.false_ne_true)]
 show wpAny _ _ ((if (!t.led && !es.isEmpty)=true then unsupported "set:maker-not-led" else pure ()) >>= _) _ _ _
 rw [hl,hb]
 exact wpAny_pure h
theorem next_drawn {place:Nat}{e:Int×Value}{Q:Value→Shared→Prop}(S:SetAt w s.heap a es ep t) (he:es[place]? = some e) (h:Q e.2 s):wpAny (model prog w) A (setNextDrawn a place ep) Q E s:=by
 obtain ⟨o,ho,hc,hd,hf,ha,hl⟩:=S
 unfold setNextDrawn
 refine wpAny_bind (wpAny_setState_of ho hd hf ?_)
 show wpAny _ _ (if (ep != ep)=true then _ else _) _ _ _
 rw [if_neg (by simp),he]
 exact wpAny_pure h
end
section
variable {prog:Program}{w:World}{A:Around}{E:Value→Shared→Prop}{s:Shared}
variable {a it:Addr}{es:Array (Int×Value)}{ep i:Nat}{t:SetTable}
theorem IsSetIter.typeIs {first:Value}{n:Nat}(x:IsSetIter s.heap it first i a n ep):s.TypeIs (.ref it) "set_iterator":=
 let ⟨o,ho,hc,_⟩:=x;⟨o,ho,hc⟩
theorem IsSetIter.keep {h h':Heap}{first:Value}{n:Nat}(x:IsSetIter h it first i a n ep) (k:∀ o,h.get? it=some o→h'.get? it=some o):IsSetIter h' it first i a n ep:=
 let ⟨o,ho,hc⟩:=x;⟨o,k o ho,hc⟩
theorem setEntries_of {Q:Array (Int×Value)→Shared→Prop}(S:SetAt w s.heap a es ep t) (h:Q es s):wpAny (model prog w) A (setEntries a) Q E s:=by
 obtain ⟨o,ho,hc,hd,hf,ha,hl⟩:=S
 unfold setEntries
 exact wpAny_bind (wpAny_setState_of ho hd hf (wpAny_pure h))
theorem nextI_some {slot nx:Nat}{x:Value}{Q:Option Value→Shared→Prop}(hit:IsSetIter s.heap it (.int slot 0) i a es.size ep) (S:SetAt w s.heap a es ep t)
 (hn:∀ Q' E',Q' (some (x,nx)) s→wpAny (model prog w) A.in1 (setNext a slot i ep) Q' E' s)
 (hQ:∀ h',IsSetIter h' it (.int nx 0) (i+1) a es.size ep→Heap.SameBut it s.heap h'→Q (some x) { s with heap:=h' }) :
 wpAny (model prog w) A (pyNext (.ref it)) Q E s:=by
 obtain ⟨o,ho,hc,hd⟩:=id hit
 unfold pyNext
 refine wpAny_bind (wpAny_attempt (wpAny_callSpecial?_slot (name:=Str.ofString "__next__") hit.typeIs slot_seti_next
  (wpAny_call_entry slot_seti_next hit.typeIs entry_seti_next ?_ (args_seti_next _))))
 show wpAny _ _ (fieldsOf (.ref it) >>= _) _ _ s
 refine wpAny_bind (wpAny_fieldsOf ho hd ?_)
 show wpAny _ _ (setEntries a >>= _) _ _ s
 refine wpAny_bind (setEntries_of S ?_)
 show wpAny _ _ (if (((es.size:Int)) != (es.size:Int))=true then _ else _) _ _ s
 rw [if_neg (by simp)]
 show wpAny _ _ (setNext a ((slot:Int).toNat) ((i:Int).toNat) ((ep:Int).toNat) >>= _) _ _ s
 rw [Int.toNat_natCast,Int.toNat_natCast,Int.toNat_natCast]
 refine wpAny_bind (hn _ _ ?_)
 refine wpAny_bind (wpAny_setField ho hd (by simp) ?_)
 have ho2:=Heap.get?_update_self (Obj.mapFields (·.setIfInBounds 0 (rawInt nx))) ho (Obj.isFreed_of_fields (Obj.data_mapFields hd _))
 have hd2:=Obj.data_mapFields hd (·.setIfInBounds 0 (rawInt nx))
 refine wpAny_bind (wpAny_setField ho2 hd2 (by simp) (wpAny_pure ⟨x,rfl,wpAny_pure (hQ _ ?_ ((Heap.SameBut.update ..).trans (Heap.SameBut.update ..)))⟩))
 exact ⟨_,Heap.get?_update_self _ ho2 (Obj.isFreed_of_fields (Obj.data_mapFields hd2 _)),(Obj.cls_mapFields ..).trans ((Obj.cls_mapFields ..).trans hc),by
  rw [Obj.data_mapFields hd2];simp [rawInt]⟩
theorem nextI_none {slot:Nat}{Q:Option Value→Shared→Prop}(hh:A.handled=none) (hit:IsSetIter s.heap it (.int slot 0) i a es.size ep) (S:SetAt w s.heap a es ep t)
 (hn:∀ Q' E',Q' none s→wpAny (model prog w) A.in1 (setNext a slot i ep) Q' E' s)
 (hQ:∀ h',Heap.ExtBut it s.heap h'→Q none { s with heap:=h' }) :
 wpAny (model prog w) A (pyNext (.ref it)) Q E s:=by
 obtain ⟨o,ho,hc,hd⟩:=id hit
 unfold pyNext
 refine wpAny_bind (wpAny_attempt (wpAny_callSpecial?_slot (name:=Str.ofString "__next__") hit.typeIs slot_seti_next
  (wpAny_call_entry slot_seti_next hit.typeIs entry_seti_next ?_ (args_seti_next _))))
 show wpAny _ _ (fieldsOf (.ref it) >>= _) _ _ s
 refine wpAny_bind (wpAny_fieldsOf ho hd ?_)
 show wpAny _ _ (setEntries a >>= _) _ _ s
 refine wpAny_bind (setEntries_of S ?_)
 show wpAny _ _ (if (((es.size:Int)) != (es.size:Int))=true then _ else _) _ _ s
 rw [if_neg (by simp)]
 show wpAny _ _ (setNext a ((slot:Int).toNat) ((i:Int).toNat) ((ep:Int).toNat) >>= _) _ _ s
 rw [Int.toNat_natCast,Int.toNat_natCast,Int.toNat_natCast]
 refine wpAny_bind (hn _ _ ?_)
 refine wpAny_bind (wpAny_setField ho hd (by simp) ?_)
 show wpAny _ _ (newExc (.type "StopIteration") [] >>= _) _ _ _
 refine wpAny_bind ?_
 simp only [newExc,newTuple]
 refine wpAny_bind (wpAny_newObj_type ?_ (by size_fits))
 refine wpAny_bind (m:=firstArgMember _ _) (wpAny_of_eq (a:=Value.none) (by first | rfl | (simp only [firstArgMember];rfl)) ?_)
 refine wpAny_newObj_type ?_ (by size_fits)
 simp only [raiseNew]
 refine wpAny_bind (wpAny_handled ?_)
 rw [show A.in1.handled=none from hh]
 refine wpAny_bind (wpAny_pure (wpAny_throw ?_))
 refine wpAny_bind (wpAny_isInstance (T:="StopIteration") (b:=true) ⟨_,Heap.get?_push_size _ rfl,rfl⟩ isSubtype_stop ?_)
 exact wpAny_pure (hQ _ (((Heap.SameBut.update ..).extBut.push _).push _))
theorem nextD_some {q:Addr}{ps:List Nat}{p:Nat}{e:Int×Value}{Q:Option Value→Shared→Prop}(hit:IsSetIter s.heap it (.ref q) i a es.size ep) (S:SetAt w s.heap a es ep t)
 {oq:Obj} {nq:Nat} (hq:s.heap.get? q=some oq) (hdq:oq.data = .seq (ps.map fun (j:Nat)=>rawInt j).toArray nq) (hp:ps[i]? = some p) (he:es[p]? = some e)
 (hQ:∀ h',IsSetIter h' it (.ref q) (i+1) a es.size ep→Heap.SameBut it s.heap h'→Q (some e.2) { s with heap:=h' }) :
 wpAny (model prog w) A (pyNext (.ref it)) Q E s:=by
 obtain ⟨o,ho,hc,hd⟩:=id hit
 unfold pyNext
 refine wpAny_bind (wpAny_attempt (wpAny_callSpecial?_slot (name:=Str.ofString "__next__") hit.typeIs slot_seti_next
  (wpAny_call_entry slot_seti_next hit.typeIs entry_seti_next ?_ (args_seti_next _))))
 show wpAny _ _ (fieldsOf (.ref it) >>= _) _ _ s
 refine wpAny_bind (wpAny_fieldsOf ho hd ?_)
 show wpAny _ _ (setEntries a >>= _) _ _ s
 refine wpAny_bind (setEntries_of S ?_)
 show wpAny _ _ (if (((es.size:Int)) != (es.size:Int))=true then _ else _) _ _ s
 rw [if_neg (by simp)]
 show wpAny _ _ (seqItems? (.ref q) >>= _) _ _ s
 refine wpAny_bind (wpAny_seqItems hq hdq ?_)
 have hx:(ps.map fun (j:Nat)=>rawInt j).toArray[(i:Int).toNat]? = some (rawInt p):=by
  rw [Int.toNat_natCast,List.getElem?_toArray,List.getElem?_map,hp];rfl
 simp only [hx]
 show wpAny _ _ (setNextDrawn a ((p:Int).toNat) ((ep:Int).toNat) >>= _) _ _ s
 rw [Int.toNat_natCast,Int.toNat_natCast]
 refine wpAny_bind (next_drawn S he ?_)
 refine wpAny_bind (wpAny_setField ho hd (by simp) (wpAny_pure ⟨e.2,rfl,wpAny_pure (hQ _ ?_ (Heap.SameBut.update ..))⟩))
 exact ⟨_,Heap.get?_update_self _ ho (Obj.isFreed_of_fields (Obj.data_mapFields hd _)),(Obj.cls_mapFields ..).trans hc,by
  rw [Obj.data_mapFields hd];simp [rawInt]⟩
theorem nextD_none {q:Addr}{ps:List Nat}{Q:Option Value→Shared→Prop}(hh:A.handled=none) (hit:IsSetIter s.heap it (.ref q) i a es.size ep) (S:SetAt w s.heap a es ep t)
 {oq:Obj} {nq:Nat} (hq:s.heap.get? q=some oq) (hdq:oq.data = .seq (ps.map fun (j:Nat)=>rawInt j).toArray nq) (hp:ps[i]? = none)
 (hQ:∀ h',Heap.ExtBut it s.heap h'→Q none { s with heap:=h' }) :
 wpAny (model prog w) A (pyNext (.ref it)) Q E s:=by
 obtain ⟨o,ho,hc,hd⟩:=id hit
 unfold pyNext
 refine wpAny_bind (wpAny_attempt (wpAny_callSpecial?_slot (name:=Str.ofString "__next__") hit.typeIs slot_seti_next
  (wpAny_call_entry slot_seti_next hit.typeIs entry_seti_next ?_ (args_seti_next _))))
 show wpAny _ _ (fieldsOf (.ref it) >>= _) _ _ s
 refine wpAny_bind (wpAny_fieldsOf ho hd ?_)
 show wpAny _ _ (setEntries a >>= _) _ _ s
 refine wpAny_bind (setEntries_of S ?_)
 show wpAny _ _ (if (((es.size:Int)) != (es.size:Int))=true then _ else _) _ _ s
 rw [if_neg (by simp)]
 show wpAny _ _ (seqItems? (.ref q) >>= _) _ _ s
 refine wpAny_bind (wpAny_seqItems hq hdq ?_)
 have hx:(ps.map fun (j:Nat)=>rawInt j).toArray[(i:Int).toNat]? = none:=by
  rw [Int.toNat_natCast,List.getElem?_toArray,List.getElem?_map,hp];rfl
 simp only [hx]
 refine wpAny_bind (wpAny_setField ho hd (by simp) ?_)
 have ho2:=Heap.get?_update_self (Obj.mapFields (·.setIfInBounds 0 (rawInt 0))) ho (Obj.isFreed_of_fields (Obj.data_mapFields hd _))
 have hd2:=Obj.data_mapFields hd (·.setIfInBounds 0 (rawInt 0))
 refine wpAny_bind (wpAny_setField ho2 hd2 (by simp) ?_)
 show wpAny _ _ (newExc (.type "StopIteration") [] >>= _) _ _ _
 refine wpAny_bind ?_
 simp only [newExc,newTuple]
 refine wpAny_bind (wpAny_newObj_type ?_ (by size_fits))
 refine wpAny_bind (m:=firstArgMember _ _) (wpAny_of_eq (a:=Value.none) (by first | rfl | (simp only [firstArgMember];rfl)) ?_)
 refine wpAny_newObj_type ?_ (by size_fits)
 simp only [raiseNew]
 refine wpAny_bind (wpAny_handled ?_)
 rw [show A.in1.handled=none from hh]
 refine wpAny_bind (wpAny_pure (wpAny_throw ?_))
 refine wpAny_bind (wpAny_isInstance (T:="StopIteration") (b:=true) ⟨_,Heap.get?_push_size _ rfl,rfl⟩ isSubtype_stop ?_)
 exact wpAny_pure (hQ _ ((((Heap.SameBut.update ..).trans (Heap.SameBut.update ..)).extBut.push _).push _))
end
end L2
set_option maxHeartbeats 2000000
namespace L2
open PySem PySem.Spec PyProof.Rows
theorem slot_seti_iter:Slot "set_iterator" "__iter__" "set_iterator.__iter__":=
 .of (owner:="set_iterator") (n:="__iter__") (by rw [typeLookup_type,builtinLookup_eq_fast];kernel_rfl) (by decide +kernel) (by decide +kernel) (by decide +kernel) (by first | exact .inl (by decide +kernel) | exact .inr (by decide +kernel)) (by rw [isSubtype_type];kernel_rfl)
theorem entry_seti_iter:entryFor table "set_iterator.__iter__" = some Builtin.«dict_keyiterator.__iter__»:=
 entryFor_alias (id':="dict_keyiterator.__iter__") (by kernel_rfl) rfl (by decide +kernel) (by kernel_rfl)
theorem args_seti_iter (a:Value):argsOk "set_iterator.__iter__" ⟨[a],[]⟩:=by unfold argsOk;kernel_rfl
section
variable {prog:Program}{w:World}{A:Around}{E:Value→Shared→Prop}{s:Shared}
variable {a I q:Addr}{es:Array (Int×Value)}{ep:Nat}{t:SetTable}
theorem iter_seti {first:Value}{i n:Nat}{Q:Value→Shared→Prop}(hit:IsSetIter s.heap I first i a n ep) (h:Q (.ref I) s):wpAny (model prog w) A (pyIter (.ref I)) Q E s:=by
 refine wpAny_pyIter_slot hit.typeIs slot_seti_iter (wpAny_call_entry slot_seti_iter hit.typeIs entry_seti_iter ?_ (args_seti_iter _))
 show wpAny _ _ (ret (.ref I)) _ _ s
 exact wpAny_pure ⟨_,rfl,"set_iterator",_,hit.typeIs,slot_seti_next.lookup,h⟩
theorem walks_int (hh:A.handled=none) (hne:a≠I) (sl:Nat→Nat) (ord:List Value)
 (hi:∀ i,i<es.size→∃ x,ord[i]? = some x∧∀ (s':Shared) Q' E',SetAt w s'.heap a es ep t→Q' (some (x,sl (i+1))) s'→wpAny (model prog w) A.in1 (setNext a (sl i) i ep) Q' E' s')
 (he:∀ (s':Shared) Q' E',SetAt w s'.heap a es ep t→Q' none s'→wpAny (model prog w) A.in1 (setNext a (sl es.size) es.size ep) Q' E' s') :
 Walks prog w A I [I,a] [I] es.size (fun i v=>ord[i]? = some v) (fun i h=>IsSetIter h I (.int (sl i) 0) i a es.size ep∧SetAt w h a es ep t) where
 sub:=fun b hb=>by simp at hb;simp [hb]
 frame:=fun _ _ _ st hk=>⟨st.1.keep fun o e=>hk I (by simp) o e,st.2.keep fun o e=>hk a (by simp) o e⟩
 item:=fun i s Q E h st hQ=>by
  obtain ⟨x,hx,hn⟩:=hi i h
  refine nextI_some st.1 st.2 (fun Q' E' q=>hn s Q' E' st.2 q) fun h' hit' hs'=>?_
  exact hQ x h' s.toks hx ⟨hit',st.2.keep fun o e=>hs'.extBut a o hne e⟩ fun b o hb e=>hs'.extBut b o (fun z=>hb (by simp [z])) e
 done:=fun s Q E st hQ=>nextI_none hh st.1 st.2 (fun Q' E' q=>he s Q' E' st.2 q) fun h' he'=>hQ h' s.toks fun b o hb e=>he' b o (fun z=>hb (by simp [z])) e
 self:=fun _ _ _ _ st hQ=>iter_seti st.1 hQ
theorem walks_drawn (hh:A.handled=none) (hne:a≠I) (hqI:q≠I) (ps:List Nat) (hps:ps.Perm (List.range es.size)) :
 Walks prog w A I [I,a,q] [I] es.size (fun i v=>(ps.map fun j=>(es.getD j (0,.none)).2)[i]? = some v) (fun i h=>IsSetIter h I (.ref q) i a es.size ep∧SetAt w h a es ep t∧h.get? q=some { cls:=.type "tuple",data:=.seq (ps.map fun (j:Nat)=>rawInt j).toArray }) where
 sub:=fun b hb=>by simp at hb;simp [hb]
 frame:=fun _ _ _ st hk=>⟨st.1.keep fun o e=>hk I (by simp) o e,st.2.1.keep fun o e=>hk a (by simp) o e,hk q (by simp) _ st.2.2⟩
 item:=fun i s Q E h st hQ=>by
  have hl:ps.length=es.size:=by rw [hps.length_eq,List.length_range]
  have hp:ps[i]? = some ps[i]:=List.getElem?_eq_getElem _
  have hlt:ps[i]<es.size:=List.mem_range.mp (hps.mem_iff.mp (List.getElem_mem _))
  refine nextD_some st.1 st.2.1 st.2.2 rfl hp (Array.getElem?_eq_getElem hlt) fun h' hit' hs'=>?_
  refine hQ _ h' s.toks ?_ ⟨hit',st.2.1.keep fun o e=>hs'.extBut a o hne e,hs'.extBut q _ hqI st.2.2⟩ fun b o hb e=>hs'.extBut b o (fun z=>hb (by simp [z])) e
  rw [List.getElem?_map,hp,Option.map_some,Array.getD_eq_getD_getElem?,Array.getElem?_eq_getElem hlt];rfl
 done:=fun s Q E st hQ=>nextD_none hh st.1 st.2.1 st.2.2 rfl (by rw [List.getElem?_eq_none_iff,hps.length_eq,List.length_range];exact Nat.le_refl _) fun h' he'=>hQ h' s.toks fun b o hb e=>he' b o (fun z=>hb (by simp [z])) e
 self:=fun _ _ _ _ st hQ=>iter_seti st.1 hQ
noncomputable def slotAt (t:SetTable) (i:Nat):Nat:=if i=0 then 0 else t.place.getD (i-1) 0+1
theorem below_at (h:AscA t.place) {i:Nat}(hi:i≤t.place.size):SetTable.below t.place (slotAt t i)=i:=by
 unfold slotAt
 by_cases c:i=0
 · rw [if_pos c,c];exact below_zero h
 · rw [if_neg c]
   have hlt:i-1<t.place.size:=by omega
   have e:t.place.getD (i-1) 0=t.place[i-1]:=by rw [Array.getD_eq_getD_getElem?,Array.getElem?_eq_getElem hlt];rfl
   rw [e,below_next h hlt]
   omega
theorem iter_set {Q:Value→Shared→Prop}(S:SetAt w s.heap a es ep t) (hsz:es.size≤sizeLine)
 (hQ:∀ (h':Heap) (d:Drawn) (I:Addr) (fp:List Addr) (ord:List Value) (St:Nat→Heap→Prop),(∀ A':Around,A'.handled=none→Walks prog w A' I fp [I] es.size (fun i v=>ord[i]? = some v) St)→St 0 h'→ord.Perm (es.toList.map (·.2)) →
  (∀ b o,s.heap.get? b=some o→h'.get? b=some o)→s.heap.objs.size≤I→(∀ b∈fp,b=a∨s.heap.objs.size≤b)→Q (.ref I) { s with heap:=h',drawn:=d }) :
 wpAny (model prog w) A (pyIter (.ref a)) Q E s:=by
 have S0:=S
 obtain ⟨o,ho,hc,hd,hf,ha,hl⟩:=S
 have hT:s.TypeIs (.ref a) "set":=⟨o,ho,hc⟩
 have alt:a<s.heap.objs.size:=Heap.lt_size ho
 have pz:t.place.size=es.size:=by
  have:(t.place.size==es.size&&decide (t.fill≤t.mask))=true:=hf
  rw [Bool.and_eq_true] at this
  exact beq_iff_eq.mp this.1
 refine wpAny_pyIter_slot hT slot_set_iter' (wpAny_call_entry slot_set_iter' hT entry_set_iter' ?_ (args_set_iter' _))
 show wpAny _ _ (Builtin.Frozenset.sizeOf a >>= _) _ _ s
 unfold Builtin.Frozenset.sizeOf
 refine wpAny_bind (wpAny_bind (setEntries_of S0 (wpAny_pure ?_)))
 unfold setDrawn
 refine wpAny_bind (wpAny_bind (wpAny_setState_of ho hd hf ?_))
 unfold setsByText
 refine wpAny_bind (wpAny_bind (wpAny_askSetting (wpAny_pure (wpAny_pure ?_))))
 show wpAny _ _ (if (!w.params.followText "set-order" && dr es t)=true then _ else _) _ _ s
 cases hb:w.params.followText "set-order" with
 | true=>
  rw [if_neg (by simp)]
  refine wpAny_bind (wpAny_pure (wpAny_bind (wpAny_setEpoch_of ho hd hf ?_)))
  refine wpAny_bind (wpAny_newObj_type (wpAny_pure ⟨_,rfl,"set_iterator",_,⟨_,Heap.get?_push_size _ rfl,rfl⟩,slot_seti_next.lookup,?_⟩))
  have pp:=pick_perm (w.params.setOrder a ep) es.size 0 es.toList #[] (by rw [Array.length_toList];exact Nat.le_refl _)
  have ps:(pickOrder (w.params.setOrder a ep) es).toList.Perm es.toList:=pp
  have pl:(pickOrder (w.params.setOrder a ep) es).size=es.size:=by rw [← Array.length_toList,ps.length_eq,Array.length_toList]
  refine hQ _ s.drawn s.heap.objs.size [s.heap.objs.size,a] ((pickOrder (w.params.setOrder a ep) es).toList.map (·.2)) _ (fun A' hh=>walks_int (es:=es) (ep:=ep) (t:=t) hh (Nat.ne_of_lt alt) (fun _=>0) _ (fun i hi=>?_) (fun s' Q' E' S' q=>next_text S' hb ?_)) ⟨⟨_,Heap.get?_push_size _ rfl,rfl,rfl⟩,S0.keep fun o e=>Heap.get?_push_of_some _ e⟩ (ps.map _) (fun b o e=>Heap.get?_push_of_some _ e) (Nat.le_refl _) (fun b hb=>?_)
  · refine ⟨((pickOrder (w.params.setOrder a ep) es)[i]'(by rw [pl];exact hi)).2,?_,fun s' Q' E' S' q=>next_text S' hb ?_⟩
    · rw [List.getElem?_map,Array.getElem?_toList,Array.getElem?_eq_getElem (by rw [pl];exact hi)];rfl
    · rw [Array.getElem?_eq_getElem (by rw [pl];exact hi)];exact q
  · rw [Array.getElem?_eq_none (by rw [pl];exact Nat.le_refl _)];exact q
  · simp at hb;rcases hb with rfl | rfl
    · exact .inr (Nat.le_refl _)
    · exact .inl rfl
 | false=>
  cases hdr:dr es t with
  | false=>
   rw [if_neg (by simp)]
   refine wpAny_bind (wpAny_pure (wpAny_bind (wpAny_setEpoch_of ho hd hf ?_)))
   refine wpAny_bind (wpAny_newObj_type (wpAny_pure ⟨_,rfl,"set_iterator",_,⟨_,Heap.get?_push_size _ rfl,rfl⟩,slot_seti_next.lookup,?_⟩))
   refine hQ _ s.drawn s.heap.objs.size [s.heap.objs.size,a] (es.toList.map (·.2)) _ (fun A' hh=>walks_int (es:=es) (ep:=ep) (t:=t) hh (Nat.ne_of_lt alt) (slotAt t) _ (fun i hi=>?_) (fun s' Q' E' S' q=>next_place S' hb hdr ?_)) ⟨⟨_,Heap.get?_push_size _ rfl,rfl,rfl⟩,S0.keep fun o e=>Heap.get?_push_of_some _ e⟩ (List.Perm.refl _) (fun b o e=>Heap.get?_push_of_some _ e) (Nat.le_refl _) (fun b hb=>?_)
   · refine ⟨es[i].2,?_,fun s' Q' E' S' q=>next_place S' hb hdr ?_⟩
     · rw [List.getElem?_map,Array.getElem?_toList,Array.getElem?_eq_getElem hi];rfl
     · rw [below_at ha (by omega),Array.getElem?_eq_getElem hi,Array.getElem?_eq_getElem (by omega)]
       have e:slotAt t (i+1)=t.place[i]'(by omega)+1:=by
        unfold slotAt
        rw [if_neg (Nat.succ_ne_zero _),Nat.add_sub_cancel,Array.getD_eq_getD_getElem?,Array.getElem?_eq_getElem (by omega)];rfl
       rw [e] at q
       exact q
   · rw [below_at ha (by omega),Array.getElem?_eq_none (Nat.le_refl _)];exact q
   · simp at hb;rcases hb with rfl | rfl
     · exact .inr (Nat.le_refl _)
     · exact .inl rfl
  | true=>
   rw [if_pos (by simp)]
   refine wpAny_bind (draw_perm es.size (List.range es.size) s _ (by simp) fun ps d hp=>?_)
   refine wpAny_bind (wpAny_newTuple ?_ (by rw [List.length_map,hp.length_eq,List.length_range];exact hsz))
   have k1:∀ b o,s.heap.get? b=some o→(s.heap.push { cls:=.type "tuple",data:=.seq (ps.map fun (j:Nat)=>rawInt j).toArray }).get? b=some o:=fun b o e=>Heap.get?_push_of_some _ e
   refine wpAny_bind (wpAny_setEpoch_of (k1 _ _ ho) hd hf ?_)
   refine wpAny_bind (wpAny_newObj_type (wpAny_pure ⟨_,rfl,"set_iterator",_,⟨_,Heap.get?_push_size _ rfl,rfl⟩,slot_seti_next.lookup,?_⟩))
   have sz1:(s.heap.push { cls:=.type "tuple",data:=.seq (ps.map fun (j:Nat)=>rawInt j).toArray }).objs.size=s.heap.objs.size+1:=Heap.size_push ..
   refine hQ _ d (s.heap.push { cls:=.type "tuple",data:=.seq (ps.map fun (j:Nat)=>rawInt j).toArray }).objs.size _ (ps.map fun j=>(es.getD j (0,.none)).2) _ (fun A' hh=>walks_drawn (es:=es) (ep:=ep) (t:=t) hh (by rw [sz1];exact Nat.ne_of_lt (Nat.lt_succ_of_lt alt)) (q:=s.heap.objs.size) (by rw [sz1];exact Nat.ne_of_lt (Nat.lt_succ_self _)) ps hp) ⟨⟨_,Heap.get?_push_size _ rfl,rfl,rfl⟩,S0.keep fun o e=>Heap.get?_push_of_some _ (k1 _ _ e),Heap.get?_push_of_some _ (Heap.get?_push_size _ rfl)⟩ ?_ (fun b o e=>Heap.get?_push_of_some _ (k1 _ _ e)) (by rw [sz1];exact Nat.le_succ _) (fun b hb=>?_)
   · refine (hp.map _).trans (List.Perm.of_eq ?_)
     apply List.ext_getElem
     · rw [List.length_map,List.length_range,List.length_map,Array.length_toList]
     · intro i h1 h2
       rw [List.getElem_map,List.getElem_range,List.getElem_map,Array.getElem_toList]
       rw [List.length_map,Array.length_toList] at h2
       rw [Array.getD_eq_getD_getElem?,Array.getElem?_eq_getElem h2];rfl
   · simp at hb;rcases hb with rfl | rfl | rfl
     · exact .inr (by first | exact Nat.le_succ _ | (rw [sz1];exact Nat.le_succ _))
     · exact .inl rfl
     · exact .inr (Nat.le_refl _)
end
end L2
set_option maxHeartbeats 2000000
namespace L2
open PySem PySem.Spec PyProof.Rows PySem.SeqAt
theorem set_len':typeLookup (.type "set") "__len__" = pure (some (.builtin "set.__len__")):=by rw [typeLookup_type,builtinLookup_eq_fast];kernel_rfl
section
variable {prog:Program}{w:World}{A:Around}{E:Value→Shared→Prop}{s:Shared}
variable {a:Addr}{es:Array (Int×Value)}{ep:Nat}{t:SetTable}
theorem collect_set {Q:List Value→Shared→Prop}(hh:A.handled=none) (S:SetAt w s.heap a es ep t) (hn:es.size≤sizeLine)
 (hQ:∀ (s':Shared) (acc:List Value),(∀ b o,s.heap.get? b=some o→s'.heap.get? b=some o)→s'.gens=s.gens→s'.os=s.os→s.toks≤s'.toks→s.heap.objs.size<s'.heap.objs.size→acc.Perm (es.toList.map (·.2))→Q acc s') :
 wpAny (model prog w) A (collect (.ref a)) Q E s:=by
 have S0:=S
 obtain ⟨o,ho,hc,hd,hf,ha,hl⟩:=S
 have alt:a<s.heap.objs.size:=Heap.lt_size ho
 unfold collect
 refine wpAny_bind (wpAny_runValue (codeAny_builtin F.entry_proto_collect ?_))
 rw [Around.under_plainId F.plain_proto_collect _]
 show wpAny _ A.in1 (newList [] >>= fun l=>again (.builtin "list.__iadd__" ⟨[l,.ref a],[]⟩)) _ _ s
 refine wpAny_bind (wpAny_newObj_type ?_)
 refine wpAny_pure ⟨plainId_quiet F.plain_list_iadd _,codeAny_builtin F.entry_list_iadd ?_⟩
 rw [Around.under_plainId F.plain_list_iadd _]
 show wpAny _ A.in1 (Builtin.List.listExtendWith (.ref s.heap.objs.size) (.ref a) (.ref s.heap.objs.size)) _ _ _
 have k1:∀ b o,s.heap.get? b=some o→(s.heap.push { cls:=.type "list",data:=.seq ([]:List Value).toArray }).get? b=some o:=fun b o e=>Heap.get?_push_of_some _ e
 have S1:SetAt w (s.heap.push { cls:=.type "list",data:=.seq ([]:List Value).toArray }) a es ep t:=S0.keep fun o e=>k1 _ _ e
 have hS1:(s.heap.push { cls:=.type "list",data:=.seq ([]:List Value).toArray }).get? s.heap.objs.size=some { cls:=.type "list",data:=.seq ([]:List Value).toArray }:=Heap.get?_push_size _ rfl
 have z1:(s.heap.push { cls:=.type "list",data:=.seq ([]:List Value).toArray }).objs.size=s.heap.objs.size+1:=Heap.size_push ..
 unfold Builtin.List.listExtendWith
 refine wpAny_bind (wpAny_typeOf (T:="set") ⟨o,k1 _ _ ho,hc⟩ ?_)
 have h1:Builtin.List.listSameRef (.ref s.heap.objs.size) (.ref a)=false:=by simp [Builtin.List.listSameRef];exact Nat.ne_of_gt alt
 have h2:(Value.type "set" == Value.type "list")=false:=by decide
 have h3:(Value.type "set" == Value.type "tuple")=false:=by decide
 simp only [h1,h2,h3,Bool.or_false,Bool.false_eq_true,if_false]
 refine wpAny_bind (iter_set S1 hn fun h' d I fp ord St W st0 pm kp hI hfp=>?_)
 refine wpAny_bind (wpAny_holding ?_)
 unfold Builtin.List.listLengthHint
 refine wpAny_bind (wpAny_specialOf (T:="set") ⟨o,kp _ _ (k1 _ _ ho),hc⟩ set_len' ?_)
 wp_delta
 refine wpAny_bind (wpAny_isInstance (T:="set") (b:=true) ⟨o,kp _ _ (k1 _ _ ho),hc⟩ (by rw [isSubtype_type];kernel_rfl) ?_)
 show wpAny _ A.in1 (typeOf (Value.ref a) >>= _) _ _ _
 refine wpAny_bind (wpAny_typeOf (T:="set") ⟨o,kp _ _ (k1 _ _ ho),hc⟩ ?_)
 refine wpAny_pure ?_
 show wpAny _ A.in1 (rule "list.extend.makes-room" >>= fun _=>Builtin.List.listTouch (.ref s.heap.objs.size) >>= fun _=>
  again (.builtin "list.extend.loop" ⟨[.ref s.heap.objs.size,.ref I,.ref s.heap.objs.size],[]⟩)) _ _ _
 refine wpAny_bind (wpAny_rule ?_)
 refine wpAny_bind ?_
 show wpAny _ A.in1 (updateSeq s.heap.objs.size (·.push .none) >>= fun _=>updateSeq s.heap.objs.size (·.pop)) _ _ _
 have hL:=kp _ _ hS1
 refine wpAny_bind (wpAny_updateSeq hL rfl ?_)
 have hL2:=Heap.get?_update_self (Obj.mapSeq (·.push Value.none)) hL rfl
 refine wpAny_updateSeq hL2 rfl ?_
 have hL3:=Heap.get?_update_self (Obj.mapSeq (·.pop)) hL2 rfl
 have oth:∀ b o,b≠s.heap.objs.size→h'.get? b=some o→((h'.update s.heap.objs.size (Obj.mapSeq (·.push Value.none))).update s.heap.objs.size (Obj.mapSeq (·.pop))).get? b=some o:=
  fun b o hb e=>(Heap.get?_update_other _ _ (Ne.symm hb)).trans ((Heap.get?_update_other _ _ (Ne.symm hb)).trans e)
 have hSf:s.heap.objs.size∉fp:=fun hm=>by
  rcases hfp _ hm with z | z
  · exact absurd z (Nat.ne_of_gt alt)
  · rw [z1] at z;omega
 have Wc:=W A.in1 hh
 refine wpAny_pure ⟨plainId_quiet F.plain_extend_loop _,codeAny_extend_loopS Wc.toS hn _ hSf _ es.size 0 _ _ _ rfl (Nat.zero_le _) (Wc.frame 0 _ _ st0 fun b hb o e=>oth b o (fun z=>hSf (z▸hb)) e) hL3 (ItemsOf.nil _) fun s' acc' c' hm hS' hacc=>?_⟩
 show wpAny _ A (load s.heap.objs.size >>= _) _ _ s'
 refine wpAny_bind (wpAny_load hS' ?_)
 refine wpAny_pure (hQ s' acc'.toList (fun b ob e=>?_) hm.gens hm.os hm.toks (Heap.lt_size hS') ?_)
 · have hlt:=Heap.lt_size e
   refine hm.heap b ob (fun hb=>?_) (oth b ob (Nat.ne_of_lt hlt) (kp _ _ (k1 _ _ e)))
   rcases List.mem_cons.mp hb with z | z
   · exact absurd hlt (z▸Nat.lt_irrefl _)
   · rw [List.mem_singleton.mp z] at hlt
     have hI':s.heap.objs.size+1≤I:=by rw [← z1];exact hI
     exact absurd hlt (Nat.not_lt.mpr (Nat.le_trans (Nat.le_succ _) hI'))
 · have el:acc'.toList=ord:=by
    have ol:ord.length=es.size:=by rw [pm.length_eq,List.length_map,Array.length_toList]
    apply List.ext_getElem?
    intro i
    rcases Nat.lt_or_ge i es.size with c | c
    · have hi:i<acc'.size:=by rw [hacc.1];exact c
      have:=hacc.2 i acc'[i] (Array.getElem?_eq_getElem hi)
      rw [this,Array.getElem?_toList,Array.getElem?_eq_getElem hi]
    · rw [List.getElem?_eq_none (by rw [Array.length_toList,hacc.1];exact c),List.getElem?_eq_none (by omega)]
   rw [el];exact pm
theorem intsOf:∀ {vs:List Value},(∀ v∈vs,∃ n t,v = .int n t)→IntsAre vs (vs.map numOf)
 | [],_=>.nil
 | v::vs,h=>by
  obtain ⟨n,t,rfl⟩:=h v List.mem_cons_self
  exact .cons n t (intsOf fun v hv=>h v (List.mem_cons_of_mem _ hv))
theorem intsPerm {us vs:List Value}{ns:List Int}(p:us.Perm vs) (h:IntsAre vs ns):∃ ms,IntsAre us ms∧ms.Perm ns:=
 ⟨us.map numOf,intsOf fun v hv=>h.all v (p.mem_iff.mp hv),by rw [← h.nums];exact p.map _⟩
theorem sorted_setAt {ns:List Int}{Q:Value→Shared→Prop}(hh:A.handled=none) (S:SetAt w s.heap a es ep t) (hI:IntsAre (es.toList.map (·.2)) ns) (h64:es.size<64)
 (h:∀ (s':Shared) (l:Addr) (out:Array Value) (ns':List Int) (e:Nat),IntsAre out.toList ns'→ns'.Perm ns→ns'.Pairwise (·≤·)→(∀ b o,s.heap.get? b=some o→s'.heap.get? b=some o)→s'.gens=s.gens→s'.os=s.os→s.toks≤s'.toks→s.heap.objs.size≤l→s'.heap.get? l=some (seqObj "list" out e)→Q (.ref l) s') :
 wpAny (model prog w) A (call (.builtin "sorted") [.ref a]) Q E s:=by
 refine Calls.call_function_entry kind_sorted plain_sorted entry_sorted (args_sorted1 _) ?_
 unfold Builtin.«sorted»
 refine wpAny_bind (m:=checkCount "sorted" 1 1 _) (wpAny_pure ?_)
 refine wpAny_bind (collect_set hh S (by rw [sizeLine_eq];omega) fun s1 acc kp hg ho ht sz0 pm=>?_)
 have al:acc.length=es.size:=by rw [pm.length_eq,List.length_map,Array.length_toList]
 obtain ⟨ms,hms,pms⟩:∃ ms,IntsAre acc ms∧ms.Perm ns:=intsPerm pm hI
 refine wpAny_bind (wpAny_newList ?_ (by rw [sizeLine_eq];omega))
 have hoL:(s1.heap.push (seqObj "list" acc.toArray 0)).get? s1.heap.objs.size=some (seqObj "list" acc.toArray 0):=Heap.get?_push_size _ rfl
 have sz:s.heap.objs.size≤s1.heap.objs.size:=Nat.le_of_lt sz0
 refine wpAny_bind (wpAny_holding (wpAny_call_entry slot_list_sort ⟨_,hoL,rfl⟩ entry_list_sort (list_sort_tree (s:={ s1 with heap:=s1.heap.push (seqObj "list" acc.toArray 0) }) hoL hms (by omega) fun out ns' a1 a2 a3=>⟨_,rfl,?_⟩) (args_list_sort _)))
 obtain ⟨e,he⟩:=sortedHeap_at (out:=out) hoL
 refine wpAny_pure ⟨_,rfl,h _ _ out ns' e a1 (a2.trans pms) a3 (fun b o eb=>?_) hg ho ht sz he⟩
 have e1:=kp b o eb
 have lt:=Heap.lt_size e1
 exact (sortedHeap_old (Nat.ne_of_lt lt) (by rw [size_push'];exact Nat.lt_succ_of_lt lt)).trans (Heap.get?_push_of_some _ e1)
end
end L2
set_option maxHeartbeats 2000000
namespace L2
open PySem PySem.Spec PyProof.Rows PySem.SeqAt
theorem met_sorted {ns ms ns':List Int}(hn:ns.Nodup) (hm:∀ k,k∈ns↔k∈ms) (hl:ms.length=ns.length) (hp:ns'.Perm ms) (hs:ns'.Pairwise (·≤·)):(∀ k,k∈ns'↔k∈ns)∧ns'.Pairwise (· < ·):=by
 have nd:ms.Nodup:=My.nd_sup hn (fun x hx=>(hm x).mp hx) (by omega)
 have nd':ns'.Nodup:=hp.nodup_iff.mpr nd
 refine ⟨fun k=>by rw [hp.mem_iff,hm],?_⟩
 refine (List.Pairwise.and hs nd').imp fun {a b} h=>?_
 have h1:=h.1
 have h2:=h.2
 omega
section
variable {prog:Program}{w:World}{s:Shared}
theorem SetI.setAt {h:Heap}{a:Addr}{ns:List Int}(hn:ns.Nodup) (S:SetI prog w h a ns):∃ (es:Array (Int×Value)) (ep:Nat) (t:SetTable) (ms:List Int),SetAt w h a es ep t∧IntsAre (es.toList.map (·.2)) ms∧es.size=ns.length∧ms.length=ns.length∧∀ k,k∈ns↔k∈ms:=by
 obtain ⟨o,es,ep,t,ho,hex,hd,hel,hm,hb,hf,hz,ha,hl⟩:=S
 have all:∀ v∈es.toList.map (·.2),∃ n t,v=Value.int n t:=fun v hv=>by
  obtain ⟨e,he,rfl⟩:=List.mem_map.mp hv
  obtain ⟨⟨k,hk,_⟩,_⟩:=hel e he
  obtain ⟨t,et⟩:=Value.isInt_shape hk
  exact ⟨k,t,et⟩
 refine ⟨es,ep,t,_,⟨o,ho,hex.1,hd,hf,ha,hl⟩,intsOf all,hz,by rw [List.length_map,List.length_map,Array.length_toList,hz],fun k=>?_⟩
 rw [← List.contains_iff_mem,hm k]
 constructor
 · rintro ⟨e,he,hk⟩
   obtain ⟨t,et⟩:=Value.isInt_shape hk
   exact List.mem_map.mpr ⟨_,List.mem_map.mpr ⟨e,he,rfl⟩,by rw [et];rfl⟩
 · intro hk
   obtain ⟨v,hv,e1⟩:=List.mem_map.mp hk
   obtain ⟨e,he,rfl⟩:=List.mem_map.mp hv
   obtain ⟨⟨k',hk',_⟩,_⟩:=hel e he
   obtain ⟨t,et⟩:=Value.isInt_shape hk'
   rw [et] at e1
   have:k'=k:=e1
   subst this
   exact ⟨e,he,hk'⟩
end
section
variable {X:Cx}{pins:List (Addr×Obj)}{σ:St}{H:Hp}{s:Shared}
theorem Inv.drew (I:Inv X pins σ H s) (d:Drawn):Inv X pins σ H { s with drawn:=d }:=by
 refine I.step (g':=s.gens) (d':=d) (t':=s.toks) (h':=s.heap) (ch:=[]) (fun _ z=>nomatch z) (fun b o _ _ _ e _=>e) (fun b o _ _ _ e _=>⟨o.slots,e⟩) (fun _ _ _ _ n=>n) (fun b o _ e=>⟨o,e⟩) (fun _ _ e=>e) (fun _ _ _ e=>e) (fun b ps e=>⟨#[],by rw [e];simp⟩) (fun m hm=>hm) I.hok I.bare
end
end L2
namespace My
open PySem PySem.Spec PyProof.Rows L2
end My
namespace L2
open PySem PySem.Spec PyProof.Rows
end L2
namespace My
open PySem PySem.Spec PyProof.Rows L2
end My
namespace L2
open PySem PySem.Spec PyProof.Rows
noncomputable def pth (mask:Nat):Nat→Nat→Nat→List Nat
 | 0,_,_=>[]
 | f+1,i,pt=>((List.range (SetTable.runEnd mask i+1-i)).map (i + ·))++pth mask f (SetTable.leap mask i pt).1 (SetTable.leap mask i pt).2
noncomputable def pathOf (mask:Nat) (h:Int):List Nat:=pth mask (SetTable.turns mask) (SetTable.bits h%(mask+1)) (SetTable.bits h)
noncomputable def remL (mask:Nat) (p:SetTable.Probe) (f:Nat):List Nat:=((List.range (p.more+1)).map (p.j + ·))++pth mask f (SetTable.leap mask p.i p.perturb).1 (SetTable.leap mask p.i p.perturb).2
theorem run_ge (mask i:Nat):i≤SetTable.runEnd mask i:=by unfold SetTable.runEnd;split<;>omega
theorem run_le (mask i:Nat):SetTable.runEnd mask i+1-i≤10:=by unfold SetTable.runEnd;split<;>omega
theorem pth_len (mask:Nat):∀ f i pt,(pth mask f i pt).length≤10*f
 | 0,_,_=>Nat.le_refl _
 | f+1,i,pt=>by
  have:=pth_len mask f (SetTable.leap mask i pt).1 (SetTable.leap mask i pt).2
  have:=run_le mask i
  rw [pth,List.length_append,List.length_map,List.length_range]
  omega
theorem pth_eq (mask f i pt:Nat):pth mask (f+1) i pt=((List.range (SetTable.runEnd mask i-i+1)).map (i + ·))++pth mask f (SetTable.leap mask i pt).1 (SetTable.leap mask i pt).2:=by
 have:=run_ge mask i
 rw [pth,show SetTable.runEnd mask i+1-i=SetTable.runEnd mask i-i+1 by omega]
theorem rem_start (t:SetTable) (h:Int):pathOf t.mask h=remL t.mask (t.probeStart h) (t.mask+14):=by
 unfold pathOf remL SetTable.turns
 rw [show t.mask+15=(t.mask+14)+1 by omega,pth_eq]
 rfl
theorem rem_more {t:SetTable}{p:SetTable.Probe}{f:Nat}(h:p.more>0):remL t.mask p f=p.j::remL t.mask (t.advance p) f:=by
 obtain ⟨m,hm⟩:∃ m,p.more=m+1:=⟨p.more-1,by omega⟩
 unfold remL SetTable.advance
 rw [if_pos h]
 show (List.range (p.more+1)).map (p.j + ·)++_=p.j::((List.range (p.more-1+1)).map (p.j+1 + ·)++_)
 rw [hm,List.range_succ_eq_map,List.map_cons,List.map_map,Nat.add_sub_cancel,List.cons_append]
 congr 2
 exact List.map_congr_left fun x _=>by show p.j+(x+1)=p.j+1+x;omega
theorem rem_leap {t:SetTable}{p:SetTable.Probe}{f:Nat}(h:¬ p.more>0):remL t.mask p (f+1)=p.j::remL t.mask (t.advance p) f:=by
 have hm:p.more=0:=by omega
 unfold remL SetTable.advance
 rw [if_neg h,hm]
 show (List.range 1).map (p.j + ·)++pth t.mask (f+1) _ _=_
 rw [pth_eq]
 rfl
theorem adv_dum (t:SetTable) (p:SetTable.Probe):(t.advance p).dummy=p.dummy:=by unfold SetTable.advance;split<;>rfl
theorem probe_hit {t:SetTable}{ha:Nat→Int}{h:Int}:∀ (pre:List Nat) (fuel:Nat) (p:SetTable.Probe) (f j0:Nat) (post:List Nat),remL t.mask p f=pre++j0::post→pre.length<fuel→(∀ j∈pre,∃ i,t.slot j = .live i∧ha i≠h) →
 (t.slot j0 = .empty→SetTable.probe.go t ha h fuel p=some (.empty j0 p.dummy))∧∀ i,t.slot j0 = .live i→ha i=h→∃ nx,SetTable.probe.go t ha h fuel p=some (.candidate j0 i nx)
 | [],fuel,p,f,j0,post,e,hf,_=>by
  obtain ⟨fuel,rfl⟩:∃ n,fuel=n+1:=⟨fuel-1,by simp at hf;omega⟩
  have ej:p.j=j0:=by
   unfold remL at e
   rw [List.range_succ_eq_map,List.map_cons,List.cons_append] at e
   exact (List.cons.inj e).1
  subst ej
  rw [SetTable.probe.go]
  exact ⟨fun h1=>by rw [h1],fun i h1 h2=>by rw [h1];exact ⟨_,if_pos (by rw [h2];exact beq_self_eq_true _)⟩⟩
 | x::pre,fuel,p,f,j0,post,e,hf,hl=>by
  obtain ⟨fuel,rfl⟩:∃ n,fuel=n+1:=⟨fuel-1,by simp at hf;omega⟩
  have hf2:pre.length<fuel:=by simp at hf;omega
  have ej:p.j=x:=by
   unfold remL at e
   rw [List.range_succ_eq_map,List.map_cons,List.cons_append] at e
   exact (List.cons.inj e).1
  subst ej
  obtain ⟨i,hs,hn⟩:=hl _ List.mem_cons_self
  have step:SetTable.probe.go t ha h (fuel+1) p=SetTable.probe.go t ha h fuel (t.advance p):=by
   rw [SetTable.probe.go,hs]
   exact if_neg (fun z=>hn (by simpa using z))
  have nx:∃ f',remL t.mask (t.advance p) f'=pre++j0::post:=by
   by_cases c:p.more>0
   · rw [rem_more c,List.cons_append] at e
     exact ⟨f,(List.cons.inj e).2⟩
   · cases f with
     | zero=>
      have hm:p.more=0:=by omega
      have:remL t.mask p 0=[p.j]:=by unfold remL;rw [hm];rfl
      rw [this] at e
      have:=(List.cons.inj e).2
      simp at this
     | succ f=>
      rw [rem_leap c,List.cons_append] at e
      exact ⟨f,(List.cons.inj e).2⟩
  obtain ⟨f',e'⟩:=nx
  have ih:=probe_hit pre fuel (t.advance p) f' j0 post e' hf2 fun j hj=>hl j (List.mem_cons_of_mem _ hj)
  rw [adv_dum] at ih
  rw [step]
  exact ih
theorem probe_at {t:SetTable}{ha:Nat→Int}{h:Int}{pre post:List Nat}{j0:Nat}(e:pathOf t.mask h=pre++j0::post) (hl:∀ j∈pre,∃ i,t.slot j = .live i∧ha i≠h) :
 (t.slot j0 = .empty→t.probe ha h (t.probeStart h)=some (.empty j0 none))∧∀ i,t.slot j0 = .live i→ha i=h→∃ nx,t.probe ha h (t.probeStart h)=some (.candidate j0 i nx):=by
 have hlen:pre.length<10*SetTable.turns t.mask:=by
  have h1:=pth_len t.mask (SetTable.turns t.mask) (SetTable.bits h%(t.mask+1)) (SetTable.bits h)
  have h2:(pathOf t.mask h).length=pre.length+(post.length+1):=by rw [e,List.length_append,List.length_cons]
  have h2:(pth t.mask (SetTable.turns t.mask) (SetTable.bits h%(t.mask+1)) (SetTable.bits h)).length=pre.length+(post.length+1):=h2
  omega
 have:=probe_hit (ha:=ha) (h:=h) pre (10*SetTable.turns t.mask) (t.probeStart h) (t.mask+14) j0 post (by rw [← rem_start];exact e) hlen hl
 exact this
theorem free_hit {mask:Nat}{owner:Array (Option Nat)}:∀ (fuel i pt:Nat) (pre post:List Nat) (j0:Nat),pth mask fuel i pt=pre++j0::post→(∀ j∈pre,(owner.getD j (some 0)).isNone=false)→(owner.getD j0 (some 0)).isNone=true→SetTable.layClean.free mask owner fuel i pt=some j0
 | 0,i,pt,pre,post,j0,e,_,_=>by
  rw [pth] at e
  simp at e
 | fuel+1,i,pt,pre,post,j0,e,hl,h0=>by
  rw [pth] at e
  rw [SetTable.layClean.free]
  have key:(∃ as,pre=(List.range (SetTable.runEnd mask i+1-i)).map (i + ·)++as∧pth mask fuel (SetTable.leap mask i pt).1 (SetTable.leap mask i pt).2=as++j0::post)∨∃ bs,(List.range (SetTable.runEnd mask i+1-i)).map (i + ·)=pre++j0::bs:=by
   rcases List.append_eq_append_iff.mp e with ⟨as,h1,h2⟩ | ⟨bs,h1,h2⟩
   · exact .inl ⟨as,h1,h2⟩
   · cases bs with
     | nil=>
      refine .inl ⟨[],by rw [List.append_nil] at h1 ⊢;exact h1.symm,by simpa using h2.symm⟩
     | cons b bs=>
      rw [List.cons_append] at h2
      obtain ⟨rfl,h2⟩:=List.cons.inj h2
      exact .inr ⟨bs,h1⟩
  rcases key with ⟨as,h1,h2⟩ | ⟨bs,h1⟩
  · have hn:(List.range (SetTable.runEnd mask i+1-i)).find? (fun k=>(owner.getD (i+k) (some 0)).isNone)=none:=by
     rw [List.find?_eq_none]
     intro k hk
     rw [hl (i+k) (by rw [h1];exact List.mem_append_left _ (List.mem_map.mpr ⟨k,hk,rfl⟩))]
     exact Bool.false_ne_true
    rw [hn]
    exact free_hit fuel _ _ as post j0 h2 (fun j hj=>hl j (by rw [h1];exact List.mem_append_right _ hj)) h0
  · have hk:pre.length<SetTable.runEnd mask i+1-i:=by
     have:=congrArg List.length h1
     rw [List.length_map,List.length_range,List.length_append,List.length_cons] at this
     omega
    have at_:∀ k,k<SetTable.runEnd mask i+1-i→(pre++j0::bs)[k]? = some (i+k):=fun k hk=>by
     rw [← h1,List.getElem?_map,List.getElem?_range hk];rfl
    have e0:i+pre.length=j0:=by
     have:=at_ pre.length hk
     rw [List.getElem?_append_right (Nat.le_refl _),Nat.sub_self] at this
     exact (Option.some.inj this).symm
    have hs:(List.range (SetTable.runEnd mask i+1-i)).find? (fun k=>(owner.getD (i+k) (some 0)).isNone)=some pre.length:=by
     rw [List.find?_range_eq_some]
     refine ⟨by rw [e0];exact h0,List.mem_range.mpr hk,fun k hkl=>?_⟩
     have:=at_ k (by omega)
     rw [List.getElem?_append_left hkl] at this
     rw [hl (i+k) (List.mem_of_getElem? this)]
     rfl
    rw [hs]
    show some (i+pre.length)=some j0
    rw [e0]
theorem first_not {P:Nat→Prop} [DecidablePred P]:∀ {L:List Nat},(∃ y∈L,¬ P y)→∃ pre e post,L=pre++e::post∧¬ P e∧∀ j∈pre,P j
 | [],h=>by obtain ⟨y,hy,_⟩:=h;cases hy
 | x::L,h=>by
  by_cases c:P x
  · obtain ⟨y,hy,hn⟩:=h
    have:∃ y∈L,¬ P y:=by
     rcases List.mem_cons.mp hy with rfl | hy
     · exact absurd c hn
     · exact ⟨y,hy,hn⟩
    obtain ⟨pre,e,post,h1,h2,h3⟩:=first_not this
    refine ⟨x::pre,e,post,by rw [h1];rfl,h2,fun j hj=>?_⟩
    rcases List.mem_cons.mp hj with rfl | hj
    · exact c
    · exact h3 j hj
  · exact ⟨[],x,L,rfl,c,fun j hj=>by cases hj⟩
theorem nd_lenN:∀ {l m:List Nat},l.Nodup→(∀ x∈l,x∈m)→l.length≤m.length
 | [],_,_,_=>Nat.zero_le _
 | x::l,m,nd,h=>by
  have nd':=List.nodup_cons.mp nd
  have hx:=h x List.mem_cons_self
  have:=nd_lenN (l:=l) (m:=m.erase x) nd'.2 fun y hy=>(List.mem_erase_of_ne (fun z:y=x=>nd'.1 (by rw [← z];exact hy))).mpr (h y (List.mem_cons_of_mem _ hy))
  rw [List.length_erase_of_mem hx] at this
  have:=List.length_pos_of_mem hx
  rw [List.length_cons]
  omega
theorem leap_le (mask i pt:Nat):(SetTable.leap mask i pt).1≤mask:=Nat.le_of_lt_succ (Nat.mod_lt _ (Nat.succ_pos _))
theorem pth_le {mask:Nat}:∀ {f i pt:Nat},i≤mask→∀ j∈pth mask f i pt,j≤mask
 | 0,_,_,_,j,hj=>by cases hj
 | f+1,i,pt,hi,j,hj=>by
  rw [pth] at hj
  rcases List.mem_append.mp hj with hj | hj
  · obtain ⟨k,hk,rfl⟩:=List.mem_map.mp hj
    have hk:=List.mem_range.mp hk
    have:SetTable.runEnd mask i≤mask:=by unfold SetTable.runEnd;split<;>omega
    show i+k≤mask
    omega
  · exact pth_le (leap_le mask i pt) j hj
theorem path_le {mask:Nat}{h:Int}:∀ j∈pathOf mask h,j≤mask:=pth_le (Nat.le_of_lt_succ (Nat.mod_lt _ (Nat.succ_pos _)))
theorem below_self {xs:Array Nat}(h:AscA xs) {i:Nat}(hi:i<xs.size):SetTable.below xs xs[i]=i:=by
 obtain ⟨h1,h2,h3⟩:=below_spec h xs[i]
 rcases Nat.lt_trichotomy (SetTable.below xs xs[i]) i with z | z | z
 · have:=h3 (SetTable.below xs xs[i]) (by omega) (Nat.le_refl _)
   exact absurd (asc_get h z hi) this
 · exact z
 · exact absurd (h2 i hi z) (Nat.lt_irrefl _)
structure Tb0 (t:SetTable) (hs:List Int):Prop where
 dm:t.dummies = #[]
 as:AscA t.place
 le:∀ j∈t.place.toList,j≤t.mask
 sz:t.place.size=hs.length
 on:∀ q∈t.place.toList.zip hs,∃ pre post,pathOf t.mask q.2=pre++q.1::post∧q.1∉pre∧∀ j∈pre,j∈t.place.toList
section
variable {t:SetTable}{hs:List Int}{h:Int}{ha:Nat→Int}
theorem slot_live (T:Tb0 t hs) {i:Nat}(hi:i<t.place.size):t.slot t.place[i] = .live i:=by
 unfold SetTable.slot
 show (if (t.place[SetTable.below t.place t.place[i]]? == some t.place[i])=true then SetTable.Slot.live (SetTable.below t.place t.place[i]) else _)=_
 rw [below_self T.as hi,if_pos (by rw [Array.getElem?_eq_getElem hi];exact beq_self_eq_true _)]
theorem slot_empty (T:Tb0 t hs) {j:Nat}(hj:j∉t.place.toList):t.slot j = .empty:=by
 unfold SetTable.slot
 show (if (t.place[SetTable.below t.place j]? == some j)=true then _ else if SetTable.has t.dummies j=true then _ else _)=_
 rw [if_neg (fun z=>hj ?_),if_neg]
 · rw [T.dm]
   exact Bool.false_ne_true
 · have z:=eq_of_beq z
   obtain ⟨hk,e⟩:=Array.getElem?_eq_some_iff.mp z
   rw [← e]
   exact Array.getElem_mem_toList hk
theorem at_mem (T:Tb0 t hs) {j:Nat}(hj:j∈t.place.toList):∃ i,∃ hi:i<t.place.size,t.place[i]=j:=by
 obtain ⟨i,hi,e⟩:=List.mem_iff_getElem.mp hj
 rw [Array.length_toList] at hi
 exact ⟨i,hi,by rw [← e,Array.getElem_toList]⟩
theorem probe_found (T:Tb0 t hs) (hha:∀ i,i<hs.length→ha i=hs.getD i 0) {i:Nat}(hi:i<hs.length) (he:hs.getD i 0=h) (un:∀ k,k<hs.length→hs.getD k 0=h→k=i):∃ j nx,t.probe ha h (t.probeStart h)=some (.candidate j i nx):=by
 have sz:=T.sz
 have hi2:i<t.place.size:=by omega
 obtain ⟨pre,post,e,hn,hl⟩:=T.on (t.place[i],h) (by
  rw [List.mem_iff_getElem]
  refine ⟨i,by rw [List.length_zip,Array.length_toList];omega,?_⟩
  rw [List.getElem_zip,Array.getElem_toList]
  rw [List.getD_eq_getElem?_getD,List.getElem?_eq_getElem hi] at he
  rw [← he];rfl)
 obtain ⟨nx,q⟩:=(probe_at (t:=t) (ha:=ha) e fun j hj=>by
  obtain ⟨k,hk,rfl⟩:=at_mem T (hl j hj)
  refine ⟨k,slot_live T hk,fun z=>?_⟩
  rw [hha k (by omega)] at z
  have:=un k (by omega) z
  subst this
  exact hn hj).2 i (slot_live T hi2) (by rw [hha i hi];exact he)
 exact ⟨_,nx,q⟩
theorem probe_absent (T:Tb0 t hs) (hha:∀ i,i<hs.length→ha i=hs.getD i 0) (hn:∀ i,i<hs.length→hs.getD i 0≠h) (cov:∀ j,j≤t.mask→j∈pathOf t.mask h) (fl:hs.length≤t.mask) :
 ∃ e pre post,t.probe ha h (t.probeStart h)=some (.empty e none)∧e∉t.place.toList∧e≤t.mask∧pathOf t.mask h=pre++e::post∧e∉pre∧∀ j∈pre,j∈t.place.toList:=by
 have sz:=T.sz
 have ex:∃ y∈pathOf t.mask h,¬ y∈t.place.toList:=by
  apply Classical.byContradiction
  intro z
  have all:∀ j∈List.range (t.mask+1),j∈t.place.toList:=fun j hj=>Classical.byContradiction fun c=>z ⟨j,cov j (by have:=List.mem_range.mp hj;omega),c⟩
  have:=nd_lenN List.nodup_range all
  rw [List.length_range,Array.length_toList] at this
  omega
 obtain ⟨pre,e,post,h1,h2,h3⟩:=first_not ex
 refine ⟨e,pre,post,?_,h2,path_le e (by rw [h1];exact List.mem_append_right _ List.mem_cons_self),h1,fun z=>h2 (h3 e z),h3⟩
 refine (probe_at (t:=t) (ha:=ha) h1 fun j hj=>?_).1 (slot_empty T h2)
 obtain ⟨k,hk,rfl⟩:=at_mem T (h3 j hj)
 exact ⟨k,slot_live T hk,by rw [hha k (by omega)];exact hn k (by omega)⟩
theorem zip_ins {α β:Type}{xs:List α}{ys:List β}(hl:xs.length=ys.length) (p:Nat) (a:α) (b:β):∀ q,q∈(xs.take p++a::xs.drop p).zip (ys.take p++b::ys.drop p)→q=(a,b)∨q∈xs.zip ys:=by
 intro q hq
 rw [List.zip_append (by rw [List.length_take,List.length_take,hl]),List.zip_cons_cons] at hq
 have e:xs.zip ys=(xs.take p).zip (ys.take p)++(xs.drop p).zip (ys.drop p):=by
  rw [← List.zip_append (by rw [List.length_take,List.length_take,hl]),List.take_append_drop,List.take_append_drop]
 rw [e]
 rcases List.mem_append.mp hq with hq | hq
 · exact .inr (List.mem_append_left _ hq)
 · rcases List.mem_cons.mp hq with hq | hq
   · exact .inl hq
   · exact .inr (List.mem_append_right _ hq)
theorem tb_put (T:Tb0 t hs) {e:Nat}{pre post:List Nat}(he:e∉t.place.toList) (hle:e≤t.mask) (hp:pathOf t.mask h=pre++e::post) (hne:e∉pre) (hl:∀ j∈pre,j∈t.place.toList) :
 Tb0 (t.put e).1 (hs.take (t.put e).2++h::hs.drop (t.put e).2):=by
 have hb:=(below_spec T.as e).1
 have nl:t.place[SetTable.below t.place e]?≠some e:=fun z=>he (by
  obtain ⟨hk,q⟩:=Array.getElem?_eq_some_iff.mp z
  rw [← q]
  exact Array.getElem_mem_toList hk)
 have ep:(t.put e).1.place.toList=t.place.toList.take (SetTable.below t.place e)++e::t.place.toList.drop (SetTable.below t.place e):=ins_list t.place hb e
 have mem:∀ j,j∈t.place.toList→j∈(t.put e).1.place.toList:=fun j hj=>by
  rw [ep]
  rw [← List.take_append_drop (SetTable.below t.place e) t.place.toList] at hj
  rcases List.mem_append.mp hj with hj | hj
  · exact List.mem_append_left _ hj
  · exact List.mem_append_right _ (List.mem_cons_of_mem _ hj)
 have mem':∀ j,j∈(t.put e).1.place.toList→j=e∨j∈t.place.toList:=fun j hj=>by
  rw [ep] at hj
  rcases List.mem_append.mp hj with hj | hj
  · exact .inr (List.mem_of_mem_take hj)
  · rcases List.mem_cons.mp hj with hj | hj
    · exact .inl hj
    · exact .inr (List.mem_of_mem_drop hj)
 refine ⟨?_,asc_put T.as nl,fun j hj=>?_,?_,fun q hq=>?_⟩
 · show (if SetTable.has t.dummies e=true then _ else t.dummies) = #[]
   rw [if_neg (by rw [T.dm];exact Bool.false_ne_true)]
   exact T.dm
 · rcases mem' j hj with rfl | hj
   · exact hle
   · exact T.le j hj
 · have h1:=congrArg List.length ep
   have sz:=T.sz
   rw [Array.length_toList] at h1
   have hb2:SetTable.below t.place e≤hs.length:=by omega
   rw [h1]
   show _=(hs.take (SetTable.below t.place e)++h::hs.drop (SetTable.below t.place e)).length
   simp only [List.length_append,List.length_cons,List.length_take,List.length_drop,Array.length_toList]
   omega
 · rw [ep] at hq
   rcases zip_ins (by rw [Array.length_toList];exact T.sz) _ _ _ q hq with rfl | hq
   · exact ⟨pre,post,hp,hne,fun j hj=>mem j (hl j hj)⟩
   · obtain ⟨pre',post',h1,h2,h3⟩:=T.on q hq
     exact ⟨pre',post',h1,h2,fun j hj=>mem j (h3 j hj)⟩
end
structure OwI (mask:Nat) (hs:List Int) (k:Nat) (ow:Array (Option Nat)):Prop where
 sz:ow.size=mask+1
 m:∀ j m,ow.getD j none=some m→m<k∧∃ pre post,pathOf mask (hs.getD m 0)=pre++j::post∧j∉pre∧∀ x∈pre,ow.getD x none≠none
 all:∀ m,m<k→∃ j,j≤mask∧ow.getD j none=some m
 inj:∀ j j' m,ow.getD j none=some m→ow.getD j' none=some m→j=j'
theorem ow_set {mask:Nat}{hs:List Int}{k:Nat}{ow:Array (Option Nat)}(O:OwI mask hs k ow) {e j:Nat}(he:e≤mask) {x:Option Nat}:(ow.setIfInBounds e x).getD j none=if e=j then x else ow.getD j none:=by
 rw [Array.getD_eq_getD_getElem?,Array.getElem?_setIfInBounds]
 by_cases c:e=j
 · subst c
   rw [if_pos rfl,if_pos rfl,if_pos (by rw [O.sz];omega)]
   rfl
 · rw [if_neg c,if_neg c,Array.getD_eq_getD_getElem?]
theorem ow_step {mask:Nat}{hs:List Int}{k:Nat}{ow:Array (Option Nat)}(O:OwI mask hs k ow) (hk:k<hs.length) (fl:hs.length≤mask) (cov:∀ j,j≤mask→j∈pathOf mask (hs.getD k 0)) :
 ∃ e,SetTable.layClean.free mask ow (SetTable.turns mask) (SetTable.bits (hs.getD k 0)%(mask+1)) (SetTable.bits (hs.getD k 0))=some e∧OwI mask hs (k+1) (ow.setIfInBounds e (some k)):=by
 have ex:∃ y∈pathOf mask (hs.getD k 0),¬ ow.getD y none≠none:=by
  apply Classical.byContradiction
  intro z
  have all:∀ j,j≤mask→∃ m,ow.getD j none=some m:=fun j hj=>by
   cases c:ow.getD j none with
   | none=>exact absurd ⟨j,cov j hj,fun w=>w c⟩ z
   | some m=>exact ⟨m,rfl⟩
  have nd:((List.range (mask+1)).map fun j=>(ow.getD j none).getD 0).Nodup:=by
   refine List.pairwise_map.mpr (List.Pairwise.imp_of_mem (R:=(· < ·)) (fun {a b} ha hb hab hc=>?_) List.pairwise_lt_range)
   obtain ⟨m1,e1⟩:=all a (by have:=List.mem_range.mp ha;omega)
   obtain ⟨m2,e2⟩:=all b (by have:=List.mem_range.mp hb;omega)
   rw [e1,e2] at hc
   have hc:m1=m2:=hc
   subst hc
   have:=O.inj a b m1 e1 e2
   omega
  have:=nd_lenN (m:=List.range k) nd fun x hx=>by
   obtain ⟨j,hj,rfl⟩:=List.mem_map.mp hx
   obtain ⟨m1,e1⟩:=all j (by have:=List.mem_range.mp hj;omega)
   rw [e1]
   exact List.mem_range.mpr (O.m j m1 e1).1
  rw [List.length_map,List.length_range,List.length_range] at this
  omega
 obtain ⟨pre,e,post,h1,h2,h3⟩:=first_not ex
 have h2:ow.getD e none=none:=Classical.byContradiction fun z=>h2 z
 have he:e≤mask:=path_le e (by rw [h1];exact List.mem_append_right _ List.mem_cons_self)
 have same:∀ x,x≤mask→ow.getD x (some 0)=ow.getD x none:=fun x hx=>by
  rw [Array.getD_eq_getD_getElem?,Array.getD_eq_getD_getElem?,Array.getElem?_eq_getElem (by rw [O.sz];omega)];rfl
 have nep:e∉pre:=fun z=>h3 e z h2
 refine ⟨e,free_hit _ _ _ pre post e h1 (fun j hj=>?_) (by rw [same e he,h2];rfl),?_⟩
 · have hj2:=path_le (h:=hs.getD k 0) j (by rw [h1];exact List.mem_append_left _ hj)
   rw [same j hj2]
   cases c:ow.getD j none with
   | none=>exact absurd c (h3 j hj)
   | some m=>rfl
 have keep:∀ x,ow.getD x none≠none→(ow.setIfInBounds e (some k)).getD x none≠none:=fun x hx=>by
  rw [ow_set O he]
  split
  · simp
  · exact hx
 refine ⟨by rw [Array.size_setIfInBounds];exact O.sz,fun j m hm=>?_,fun m hm=>?_,fun j j' m hj hj'=>?_⟩
 · rw [ow_set O he] at hm
   by_cases c:e=j
   · rw [if_pos c] at hm
     cases hm
     subst c
     exact ⟨Nat.lt_succ_self _,pre,post,h1,nep,fun x hx=>keep x (h3 x hx)⟩
   · rw [if_neg c] at hm
     obtain ⟨a1,pre',post',a2,a3,a4⟩:=O.m j m hm
     exact ⟨Nat.lt_succ_of_lt a1,pre',post',a2,a3,fun x hx=>keep x (a4 x hx)⟩
 · by_cases c:m=k
   · subst c
     exact ⟨e,he,by rw [ow_set O he,if_pos rfl]⟩
   · obtain ⟨j,hj,hm⟩:=O.all m (by omega)
     refine ⟨j,hj,?_⟩
     rw [ow_set O he,if_neg (fun z=>by rw [← z,h2] at hm;cases hm)]
     exact hm
 · rw [ow_set O he] at hj hj'
   by_cases c:e=j
   · by_cases c':e=j'
     · omega
     · rw [if_pos c] at hj
       rw [if_neg c'] at hj'
       cases hj
       exact absurd (O.m j' k hj').1 (Nat.lt_irrefl _)
   · rw [if_neg c] at hj
     by_cases c':e=j'
     · rw [if_pos c'] at hj'
       cases hj'
       exact absurd (O.m j k hj).1 (Nat.lt_irrefl _)
     · rw [if_neg c'] at hj'
       exact O.inj j j' m hj hj'
theorem ow_all {mask:Nat}{hs:List Int}(fl:hs.length≤mask) (cov:∀ h∈hs,∀ j,j≤mask→j∈pathOf mask h):∀ (l:List Int) (k:Nat) (ow:Array (Option Nat)),OwI mask hs k ow→hs.drop k=l→k≤hs.length →
 ∃ ow',l.foldl (fun acc h=>do
  let (owner,k) ← acc
  let j ← SetTable.layClean.free mask owner (SetTable.turns mask) (SetTable.bits h%(mask+1)) (SetTable.bits h)
  pure (owner.setIfInBounds j (some k),k+1)) (some (ow,k))=some (ow',hs.length)∧OwI mask hs hs.length ow'
 | [],k,ow,O,hd,hk=>by
  have:hs.length≤k:=List.drop_eq_nil_iff.mp hd
  have e:k=hs.length:=by omega
  subst e
  exact ⟨ow,rfl,O⟩
 | h::l,k,ow,O,hd,hk=>by
  have hk2:k<hs.length:=by
   rcases Nat.lt_or_ge k hs.length with c | c
   · exact c
   · rw [List.drop_eq_nil_iff.mpr c] at hd;cases hd
  rw [List.drop_eq_getElem_cons hk2] at hd
  obtain ⟨e1,e2⟩:=List.cons.inj hd
  have eg:hs.getD k 0=h:=by rw [List.getD_eq_getElem?_getD,List.getElem?_eq_getElem hk2];exact e1
  obtain ⟨e,hf,O'⟩:=ow_step O hk2 fl (by rw [eg];exact cov h (by rw [← e1];exact List.getElem_mem _))
  rw [eg] at hf
  obtain ⟨ow',q,O''⟩:=ow_all fl cov l (k+1) _ O' e2 (by omega)
  refine ⟨ow',?_,O''⟩
  rw [List.foldl_cons]
  show List.foldl _ ((SetTable.layClean.free mask ow (SetTable.turns mask) (SetTable.bits h%(mask+1)) (SetTable.bits h)).bind fun j=>some (ow.setIfInBounds j (some k),k+1)) l=_
  rw [hf]
  exact q
theorem ow_zero {mask:Nat}{hs:List Int}:OwI mask hs 0 (Array.replicate (mask+1) none):=by
 have g:∀ j,(Array.replicate (mask+1) (none:Option Nat)).getD j none=none:=fun j=>by
  rw [Array.getD_eq_getD_getElem?,Array.getElem?_replicate]
  split<;>rfl
 exact ⟨Array.size_replicate,fun j m h=>(by rw [g] at h;cases h),fun m h=>absurd h (Nat.not_lt_zero _),fun j j' m h=>(by rw [g] at h;cases h)⟩
theorem tb_laid {mask finger moves:Nat}{led plain:Bool}{hs:Array Int}(fl:hs.size≤mask) (cov:∀ h∈hs.toList,∀ j,j≤mask→j∈pathOf mask h) :
 ∃ t o,SetTable.laid mask finger moves led plain hs=some (t,o)∧t.mask=mask∧t.led=led∧o.toList.Perm (List.range hs.size)∧Tb0 t (o.toList.map fun m=>hs.toList.getD m 0):=by
 have fl':hs.toList.length≤mask:=by rw [Array.length_toList];exact fl
 obtain ⟨ow,hf,O⟩:=ow_all fl' cov hs.toList 0 _ ow_zero rfl (Nat.zero_le _)
 rw [Array.length_toList] at O
 have hc:SetTable.layClean mask hs=some ow:=by
  unfold SetTable.layClean
  rw [← Array.foldl_toList]
  exact (congrArg (Option.map (·.1)) hf)
 have live_mem:∀ q:Nat×Nat,q∈((List.range (mask+1)).filterMap fun j=>(ow.getD j none).map (j,·))↔q.1≤mask∧ow.getD q.1 none=some q.2:=fun q=>by
  rw [List.mem_filterMap]
  constructor
  · rintro ⟨j,hj,e⟩
    obtain ⟨m,hm,rfl⟩:=Option.map_eq_some_iff.mp e
    exact ⟨by have:=List.mem_range.mp hj;show j≤mask;omega,hm⟩
  · rintro ⟨h1,h2⟩
    exact ⟨q.1,List.mem_range.mpr (by omega),by rw [h2];rfl⟩
 have hl:SetTable.laid mask finger moves led plain hs=some ({ mask,place:=(((List.range (mask+1)).filterMap fun j=>(ow.getD j none).map (j,·)).map (·.1)).toArray,dummies:=#[],finger,led,moves,plain },(((List.range (mask+1)).filterMap fun j=>(ow.getD j none).map (j,·)).map (·.2)).toArray):=by
  unfold SetTable.laid
  rw [hc]
  rfl
 have asc:=(laid_asc hl).1
 have nd2:(((List.range (mask+1)).filterMap fun j=>(ow.getD j none).map (j,·)).map (·.2)).Nodup:=by
  refine List.pairwise_map.mpr ?_
  refine List.Pairwise.filterMap (R:=(· < ·)) _ (fun a a' haa b hb b' hb' hc=>?_) List.pairwise_lt_range
  obtain ⟨m,hm,rfl⟩:=Option.map_eq_some_iff.mp hb
  obtain ⟨m',hm',rfl⟩:=Option.map_eq_some_iff.mp hb'
  have hc:m=m':=hc
  subst hc
  have:=O.inj a a' m hm hm'
  omega
 generalize hL:((List.range (mask+1)).filterMap fun j=>(ow.getD j none).map (j,·))=L at *
 have own_mem:∀ x,x≤mask→ow.getD x none≠none→x∈L.map (·.1):=fun x hx hn=>by
  cases c:ow.getD x none with
  | none=>exact absurd c hn
  | some m=>exact List.mem_map.mpr ⟨(x,m),(live_mem (x,m)).mpr ⟨hx,c⟩,rfl⟩
 refine ⟨_,_,hl,rfl,rfl,?_,⟨rfl,asc,fun j hj=>?_,?_,fun q hq=>?_⟩⟩
 · refine (List.perm_ext_iff_of_nodup nd2 List.nodup_range).mpr fun m=>?_
   show m∈L.map (·.2)↔_
   constructor
   · intro h
     obtain ⟨q,hq,rfl⟩:=List.mem_map.mp h
     exact List.mem_range.mpr (O.m _ _ ((live_mem q).mp hq).2).1
   · intro h
     obtain ⟨j,hj,hm⟩:=O.all m (List.mem_range.mp h)
     exact List.mem_map.mpr ⟨(j,m),(live_mem (j,m)).mpr ⟨hj,hm⟩,rfl⟩
 · have hj:j∈L.map (·.1):=hj
   obtain ⟨q,hq,rfl⟩:=List.mem_map.mp hj
   exact ((live_mem q).mp hq).1
 · show (L.map (·.1)).toArray.size=((L.map (·.2)).map _).length
   rw [List.size_toArray,List.length_map,List.length_map,List.length_map]
 · have hq:q∈(L.map (·.1)).zip ((L.map (·.2)).map fun m=>hs.toList.getD m 0):=hq
   rw [List.map_map,List.zip_map'] at hq
   obtain ⟨r,hr,rfl⟩:=List.mem_map.mp hq
   obtain ⟨h1,h2⟩:=(live_mem r).mp hr
   obtain ⟨_,pre,post,a1,a2,a3⟩:=O.m _ _ h2
   exact ⟨pre,post,a1,a2,fun j hj=>own_mem j (path_le j (by rw [a1];exact List.mem_append_left _ hj)) (a3 j hj)⟩
noncomputable def hashP (k:Int×Int):Int:=reduceHash (Builtin.Tuple.tupleHashOf [hashInt k.1,hashInt k.2])
noncomputable def pairsAll:List (Int×Int):=(List.range 8).flatMap fun i=>(List.range 8).map fun j=>(((i:Nat):Int),((j:Nat):Int))
theorem pairs_mem {k:Int×Int}(h1:0≤k.1∧k.1<8) (h2:0≤k.2∧k.2<8):k∈pairsAll:=by
 unfold pairsAll
 refine List.mem_flatMap.mpr ⟨k.1.toNat,List.mem_range.mpr (by omega),List.mem_map.mpr ⟨k.2.toNat,List.mem_range.mpr (by omega),?_⟩⟩
 exact Prod.ext (by show ((k.1.toNat:Nat):Int)=k.1;omega) (by show ((k.2.toNat:Nat):Int)=k.2;omega)
noncomputable def bitsOf (l:List Nat):Nat:=l.foldl (fun a j=>a ||| 2^j) 0
theorem bits_mem {l:List Nat}{j:Nat}:(bitsOf l).testBit j=true→j∈l:=by
 have key:∀ (l:List Nat) (a:Nat),(l.foldl (fun a j=>a ||| 2^j) a).testBit j=true→a.testBit j=true∨j∈l:=by
  intro l
  induction l with
  | nil=>exact fun a h=>.inl h
  | cons x l ih=>
   intro a h
   rcases ih _ h with h | h
   · rw [Nat.testBit_or,Nat.testBit_two_pow] at h
     rcases Bool.or_eq_true_iff.mp h with h | h
     · exact .inl h
     · exact .inr (by rw [of_decide_eq_true h];exact List.mem_cons_self)
   · exact .inr (List.mem_cons_of_mem _ h)
 intro h
 rcases key l 0 h with h | h
 · simp at h
 · exact h
noncomputable def covB (mask:Nat) (h:Int):Bool:=bitsOf (pathOf mask h)==2^(mask+1)-1
theorem cov_of {mask:Nat}{h:Int}(c:covB mask h=true):∀ j,j≤mask→j∈pathOf mask h:=fun j hj=>by
 refine bits_mem ?_
 rw [eq_of_beq c,Nat.testBit_two_pow_sub_one]
 exact decide_eq_true (by omega)
theorem cov_all:(pairsAll.all fun k=>covB 7 (hashP k)&&covB 31 (hashP k)&&covB 127 (hashP k))=true:=by decide +kernel
theorem hash_nd:(pairsAll.map hashP).Nodup:=by decide +kernel
noncomputable def SmallP (k:Int×Int):Prop:=(0≤k.1∧k.1<8)∧(0≤k.2∧k.2<8)
theorem inj_of_nd {α β:Type}{f:α→β}:∀ {l:List α},(l.map f).Nodup→∀ {a b:α},a∈l→b∈l→f a=f b→a=b
 | [],_,a,b,ha,_,_=>by cases ha
 | x::l,nd,a,b,ha,hb,e=>by
  rw [List.map_cons] at nd
  have nd':=List.nodup_cons.mp nd
  rcases List.mem_cons.mp ha with ea | ha2
  · rcases List.mem_cons.mp hb with eb | hb2
    · rw [ea,eb]
    · exact absurd (List.mem_map.mpr ⟨b,hb2,by rw [← e,ea]⟩) nd'.1
  · rcases List.mem_cons.mp hb with eb | hb2
    · exact absurd (List.mem_map.mpr ⟨a,ha2,by rw [e,eb]⟩) nd'.1
    · exact inj_of_nd nd'.2 ha2 hb2 e
theorem hash_inj {k k':Int×Int}(h:SmallP k) (h':SmallP k') (e:hashP k=hashP k'):k=k':=inj_of_nd hash_nd (pairs_mem h.1 h.2) (pairs_mem h'.1 h'.2) e
theorem cov_small {k:Int×Int}(h:SmallP k) {mask:Nat}(hm:mask=7∨mask=31∨mask=127):∀ j,j≤mask→j∈pathOf mask (hashP k):=by
 have:=List.all_eq_true.mp cov_all k (pairs_mem h.1 h.2)
 rw [Bool.and_eq_true,Bool.and_eq_true] at this
 rcases hm with rfl | rfl | rfl
 · exact cov_of this.1.1
 · exact cov_of this.1.2
 · exact cov_of this.2
section
variable {prog:Program}{w:World}{OK:Addr→Int×Int→Prop}
noncomputable def PairAt (prog:Program) (w:World) (OK:Addr→Int×Int→Prop) (h:Heap) (v:Value) (k:Int×Int):Prop:=∃ p,v = .ref p∧OK p k∧IsTupleKey (intKind prog w) h [k.1,k.2] p
theorem PairAt.keep {h h':Heap}{v:Value}{k:Int×Int}(x:PairAt prog w OK h v k) (kp:∀ p o items n,h.get? p=some o→o.data = .seq items n→h'.get? p=some o):PairAt prog w OK h' v k:=by
 obtain ⟨p,rfl,ok,o,items,n,ho,hc,hd,hi⟩:=x
 exact ⟨p,rfl,ok,o,items,n,kp p o items n ho hd,hc,hd,hi⟩
noncomputable def MkN (mask n:Nat):Prop:=(mask=7∧n<5)∨(mask=31∧n<19)∨(mask=127∧n<77)
structure ElP (prog:Program) (w:World) (OK:Addr→Int×Int→Prop) (h:Heap) (es:List (Int×Value)) (ks:List (Int×Int)):Prop where
 el:∀ e∈es,∃ k,SmallP k∧e.1=hashP k∧PairAt prog w OK h e.2 k
 nd:(es.map (·.1)).Nodup
 mem:∀ k,SmallP k→(k∈ks↔hashP k∈es.map (·.1))
 sm:∀ k∈ks,SmallP k
noncomputable def SetP (prog:Program) (w:World) (OK:Addr→Int×Int→Prop) (h:Heap) (a:Addr) (ks:List (Int×Int)):Prop:=
 ∃ (o:Obj) (es:Array (Int×Value)) (ep:Nat) (t:SetTable),h.get? a=some o∧o.ExactSet∧o.data = .set es ep t∧Tb0 t (es.toList.map (·.1))∧MkN t.mask es.size∧t.led = !w.params.followText "set-order"∧ElP prog w OK h es.toList ks
theorem ElP.keep {h h':Heap}{es:List (Int×Value)}{ks:List (Int×Int)}(x:ElP prog w OK h es ks) (kp:∀ p o items n,h.get? p=some o→o.data = .seq items n→h'.get? p=some o):ElP prog w OK h' es ks:=
 ⟨fun e he=>let ⟨k,a,b,c⟩:=x.el e he;⟨k,a,b,c.keep kp⟩,x.nd,x.mem,x.sm⟩
theorem ElP.perm {h:Heap}{es es':List (Int×Value)}{ks:List (Int×Int)}(x:ElP prog w OK h es ks) (p:es'.Perm es):ElP prog w OK h es' ks:=
 ⟨fun e he=>x.el e (p.mem_iff.mp he),(p.map _).nodup_iff.mpr x.nd,fun k hk=>by rw [x.mem k hk];exact (p.map (·.1)).mem_iff.symm,x.sm⟩
theorem ElP.len {h:Heap}{es:List (Int×Value)}{ks:List (Int×Int)}(x:ElP prog w OK h es ks):es.length≤64:=by
 have:∀ (l:List Int),l.Nodup→(∀ y∈l,y∈pairsAll.map hashP)→l.length≤(pairsAll.map hashP).length:=by
  have key:∀ {l m:List Int},l.Nodup→(∀ x∈l,x∈m)→l.length≤m.length:=by
   intro l
   induction l with
   | nil=>intro m _ _;exact Nat.zero_le _
   | cons x l ih=>
    intro m nd h
    have nd':=List.nodup_cons.mp nd
    have hx:=h x List.mem_cons_self
    have:=ih (m:=m.erase x) nd'.2 fun y hy=>(List.mem_erase_of_ne (fun z:y=x=>nd'.1 (by rw [← z];exact hy))).mpr (h y (List.mem_cons_of_mem _ hy))
    rw [List.length_erase_of_mem hx] at this
    have:=List.length_pos_of_mem hx
    rw [List.length_cons]
    omega
  exact fun l nd h=>key nd h
 have:=this _ x.nd fun y hy=>by
  obtain ⟨e,he,rfl⟩:=List.mem_map.mp hy
  obtain ⟨k,hk,h1,_⟩:=x.el e he
  exact List.mem_map.mpr ⟨k,pairs_mem hk.1 hk.2,h1.symm⟩
 rw [List.length_map] at this
 exact Nat.le_trans this (by decide)
theorem ElP.add {h:Heap}{es:List (Int×Value)}{ks:List (Int×Int)}(x:ElP prog w OK h es ks) {k:Int×Int}{v:Value}(hk:SmallP k) (hv:PairAt prog w OK h v k) (hn:hashP k∉es.map (·.1)):ElP prog w OK h (es++[(hashP k,v)]) (ks++[k]):=by
 refine ⟨fun e he=>?_,?_,fun k' hk'=>?_,fun k' hk'=>?_⟩
 · rcases List.mem_append.mp he with he | he
   · exact x.el e he
   · rw [List.mem_singleton.mp he]
     exact ⟨k,hk,rfl,hv⟩
 · rw [List.map_append]
   refine List.nodup_append.mpr ⟨x.nd,List.pairwise_singleton _ _,fun a ha b hb e=>hn ?_⟩
   have:b=hashP k:=List.mem_singleton.mp hb
   rw [← this,← e]
   exact ha
 · rw [List.mem_append,List.map_append,List.mem_append,x.mem k' hk']
   constructor
   · rintro (h | h)
     · exact .inl h
     · rw [List.mem_singleton.mp h];exact .inr (List.mem_singleton.mpr rfl)
   · rintro (h | h)
     · exact .inl h
     · exact .inr (List.mem_singleton.mpr (hash_inj hk' hk (List.mem_singleton.mp h)))
 · rcases List.mem_append.mp hk' with h | h
   · exact x.sm k' h
   · rw [List.mem_singleton.mp h];exact hk
theorem tb_fits {t:SetTable}{hs:List Int}(T:Tb0 t hs) (hm:hs.length≤t.mask):t.fits hs.length=true:=by
 unfold SetTable.fits SetTable.fill
 rw [T.sz,T.dm,beq_self_eq_true,Bool.true_and]
 exact decide_eq_true (by simpa using hm)
variable {A:Around}{E:Value→Shared→Prop}{s:Shared}
theorem hbv_pair {v:Value}{k:Int×Int}{Q:Bool→Shared→Prop}(hv:PairAt prog w OK s.heap v k) (h:Q true s):wpAny (model prog w) A (hashByValue 8 v) Q E s:=by
 obtain ⟨p,rfl,_,hk⟩:=hv
 have hT:=hk.typeIs
 obtain ⟨o,items,n,ho,_,hd,hi⟩:=hk
 unfold hashByValue
 refine wpAny_bind (wpAny_specialOf hT F.slot_tuple_hash.lookup ?_)
 show wpAny _ _ (seqItems? (.ref p) >>= _) _ _ s
 refine wpAny_bind (wpAny_seqItems ho hd ?_)
 refine wpAny_bind ?_
 show wpAny _ _ (forIn items _ _) _ _ s
 rw [← Array.forIn_toList]
 refine wpAny_forIn_list _ (fun rest r s'=>r.1=none∧s'=s∧∀ v∈rest,∃ n t,v=Value.int n t) _ ?_ ?_ _ _ ⟨rfl,rfl,fun v hv=>?_⟩
 · rintro v rest r s' ⟨hr,rfl,hall⟩
   obtain ⟨n,t,rfl⟩:=hall v List.mem_cons_self
   have e:hashByValue 7 (.int n t)=pure true:=by unfold hashByValue;rfl
   rw [e]
   refine wpAny_bind (wpAny_pure ?_)
   simp only [Bool.not_true,Bool.false_eq_true,if_false]
   exact wpAny_pure ⟨rfl,rfl,fun u hu'=>hall u (List.mem_cons_of_mem _ hu')⟩
 · rintro ⟨r1,r2⟩ s' ⟨hr,rfl,_⟩
   simp only at hr
   subst hr
   exact wpAny_pure h
 · have:∀ {ks:List Int} {vs:List Value},ItemsAre (intKind prog w) ks vs→∀ v∈vs,∃ n t,v=Value.int n t:=by
    intro ks vs hx
    induction hx with
    | nil=>intro v hv;cases hv
    | cons h1 _ ih=>
     intro v hv
     rcases List.mem_cons.mp hv with rfl | hv
     · obtain ⟨t,rfl⟩:=Value.isInt_shape h1
       exact ⟨_,t,rfl⟩
     · exact ih v hv
   exact this hi v hv
end
section
variable {prog:Program}{w:World}{OK:Addr→Int×Int→Prop}{A:Around}{E:Value→Shared→Prop}{s:Shared}
theorem items_int {ks:List Int}{vs:List Value}(hx:ItemsAre (intKind prog w) ks vs):∀ v∈vs,∃ n t,v=Value.int n t:=by
 induction hx with
 | nil=>intro v hv;cases hv
 | cons h1 _ ih=>
  intro v hv
  rcases List.mem_cons.mp hv with rfl | hv
  · obtain ⟨t,rfl⟩:=Value.isInt_shape h1
    exact ⟨_,t,rfl⟩
  · exact ih v hv
theorem cls_pair {v:Value}{k:Int×Int}{Q:Bool→Shared→Prop}(hv:PairAt prog w OK s.heap v k) (h:Q false s):wpAny (model prog w) A (ofAClassStatement 8 v) Q E s:=by
 obtain ⟨p,rfl,_,hk⟩:=hv
 have hT:=hk.typeIs
 obtain ⟨o,items,n,ho,_,hd,hi⟩:=hk
 unfold ofAClassStatement
 refine wpAny_bind (wpAny_typeOf hT ?_)
 dsimp only
 rw [if_pos (by rfl)]
 refine wpAny_bind (wpAny_pure ?_)
 show wpAny _ _ (seqItems? (.ref p) >>= _) _ _ s
 refine wpAny_bind (wpAny_seqItems ho hd ?_)
 refine wpAny_bind ?_
 show wpAny _ _ (forIn items _ _) _ _ s
 rw [← Array.forIn_toList]
 refine wpAny_forIn_list _ (fun rest r s'=>r.1=none∧s'=s∧∀ v∈rest,∃ n t,v=Value.int n t) _ ?_ ?_ _ _ ⟨rfl,rfl,items_int hi⟩
 · rintro v rest r s' ⟨hr,rfl,hall⟩
   obtain ⟨n,t,rfl⟩:=hall v List.mem_cons_self
   have e:ofAClassStatement 7 (.int n t)=pure false:=by unfold ofAClassStatement;rfl
   rw [e]
   refine wpAny_bind (wpAny_pure ?_)
   simp only [Bool.false_eq_true,if_false]
   exact wpAny_pure ⟨rfl,rfl,fun u hu'=>hall u (List.mem_cons_of_mem _ hu')⟩
 · rintro ⟨r1,r2⟩ s' ⟨hr,rfl,_⟩
   simp only at hr
   subst hr
   exact wpAny_pure h
theorem quiet_pair {v:Value}{k:Int×Int}{Q:Bool→Shared→Prop}(hv:PairAt prog w OK s.heap v k) (h:Q true s):wpAny (model prog w) A (eqIsQuiet 8 v) Q E s:=by
 obtain ⟨p,rfl,_,hk⟩:=hv
 exact wpAny_eqIsQuiet_tuple hk h
theorem seen_pair {v:Value}{k:Int×Int}{ys:List Value}{Q:Bool→Shared→Prop}(hv:PairAt prog w OK s.heap v k) (hy:∀ y∈ys,∃ k,PairAt prog w OK s.heap y k) (h:Q false s):wpAny (model prog w) A (searchCouldBeSeen v ys) Q E s:=by
 unfold searchCouldBeSeen
 refine wpAny_bind ?_
 refine wpAny_forIn_list _ (fun rest r s'=>r.1=none∧s'=s∧∀ y∈rest,∃ k,PairAt prog w OK s.heap y k) _ ?_ ?_ _ _ ⟨rfl,rfl,hy⟩
 · rintro y rest r s' ⟨hr,rfl,hall⟩
   obtain ⟨k2,hy2⟩:=hall y List.mem_cons_self
   have hv0:=hv
   have hy0:=hy2
   obtain ⟨pv,rfl,_⟩:=hv
   obtain ⟨py,rfl,_⟩:=hy2
   dsimp only
   by_cases c:(pv==py||carriedByValue (.ref pv)&&carriedByValue (.ref py))=true
   · rw [if_pos c]
     exact wpAny_pure ⟨rfl,rfl,fun u hu=>hall u (List.mem_cons_of_mem _ hu)⟩
   · rw [if_neg c]
     refine wpAny_bind (quiet_pair hv0 ?_)
     simp only [Bool.not_true,Bool.false_eq_true,if_false]
     refine wpAny_bind (quiet_pair hy0 ?_)
     simp only [Bool.not_true,Bool.false_eq_true,if_false]
     refine wpAny_bind (cls_pair hv0 ?_)
     simp only [Bool.false_eq_true,if_false]
     refine wpAny_bind (cls_pair hy0 ?_)
     simp only [Bool.false_eq_true,if_false]
     exact wpAny_pure ⟨rfl,rfl,fun u hu=>hall u (List.mem_cons_of_mem _ hu)⟩
 · rintro ⟨r1,r2⟩ s' ⟨hr,rfl,_⟩
   simp only at hr
   subst hr
   exact wpAny_pure h
variable {a p:Addr}{k:Int×Int}{ks:List (Int×Int)}{o:Obj}{es:Array (Int×Value)}{ep:Nat}{t:SetTable}
theorem mk_facts {mask n:Nat}(M:MkN mask n):(mask=7∨mask=31∨mask=127)∧n≤mask∧(mask%2==0)=false:=by
 rcases M with ⟨rfl,h⟩ | ⟨rfl,h⟩ | ⟨rfl,h⟩
 · exact ⟨.inl rfl,by omega,rfl⟩
 · exact ⟨.inr (.inl rfl),by omega,rfl⟩
 · exact ⟨.inr (.inr rfl),by omega,rfl⟩
theorem search_found {Q:SetFound→Shared→Prop}(hu:A.units<cLine) (ho:s.heap.get? a=some o) (hd:o.data = .set es ep t) (T:Tb0 t (es.toList.map (·.1))) (M:MkN t.mask es.size) (X:ElP prog w OK s.heap es.toList ks) (hk:SmallP k) (hok:OK p k) (hp:IsTupleKey (intKind prog w) s.heap [k.1,k.2] p) (hin:hashP k∈es.toList.map (·.1)) (h:Q (.there none) s) :
 wpAny (model prog w) A (setSearch a (.ref p) (hashP k) true) Q E s:=by
 obtain ⟨m1,m2,m3⟩:=mk_facts M
 have hl:(es.toList.map (·.1)).length=es.size:=by rw [List.length_map,Array.length_toList]
 have hf:t.fits es.size=true:=by rw [← hl];exact tb_fits T (by omega)
 obtain ⟨i,hi,e⟩:=List.mem_iff_getElem.mp hin
 have hi2:i<es.size:=by omega
 obtain ⟨ha,eha⟩:∃ ha:Nat→Int,ha=fun i=>(es[i]?.map (·.1)).getD 0:=⟨_,rfl⟩
 obtain ⟨j,nx,hpr⟩:=probe_found (h:=hashP k) (ha:=ha) T (fun i hi=>by
  rw [eha,List.getD_eq_getElem?_getD,List.getElem?_map,Array.getElem?_toList]) hi (by rw [List.getD_eq_getElem?_getD,List.getElem?_eq_getElem hi];exact e) (fun m hm em=>by
  rw [List.getD_eq_getElem?_getD,List.getElem?_eq_getElem hm] at em
  have em:(es.toList.map (·.1))[m]=hashP k:=em
  rcases Nat.lt_trichotomy m i with z | z | z
  · exact absurd (em.trans e.symm) (List.pairwise_iff_getElem.mp X.nd m i hm hi z)
  · exact z
  · exact absurd (e.trans em.symm) (List.pairwise_iff_getElem.mp X.nd i m hi hm z))
 unfold setSearch setSearchFrom
 refine wpAny_bind (wpAny_setState_of ho hd hf ?_)
 show wpAny _ _ (if (t.mask%2==0)=true then _ else _) _ _ s
 rw [if_neg (by rw [m3];exact Bool.false_ne_true)]
 have key:∀ g:Nat→Int,g=ha→t.probe g (hashP k) (t.probeStart (hashP k))=some (.candidate j i nx):=fun g hg=>by rw [hg];exact hpr
 simp only [Option.getD_none]
 rw [key]
 rotate_left
 · rw [eha];rfl
 dsimp only
 obtain ⟨k2,hk2,hh,pb,hpb,_,hkey⟩:=X.el es[i] (Array.getElem_mem_toList hi2)
 have ek:k2=k:=by
  refine hash_inj hk2 hk ?_
  rw [← hh]
  rw [List.getElem_map,Array.getElem_toList] at e
  exact e
 subst ek
 cases hl:t.led with
 | true=>
  rw [if_neg (by simp),Array.getElem?_eq_getElem hi2]
  show wpAny _ _ (holding [es[i].2] (eqBool es[i].2 (.ref p)) >>= _) _ _ s
  rw [hpb]
  refine wpAny_bind (wpAny_holding (wpAny_eqBool_tuple hu hkey hp ?_))
  rw [decide_eq_true rfl]
  refine wpAny_bind (wpAny_setState_of ho hd hf ?_)
  exact wpAny_pure h
 | false=>
  rw [if_pos (by simp)]
  refine wpAny_bind (seen_pair (OK:=OK) ⟨p,rfl,hok,hp⟩ (fun y hy=>?_) ?_)
  · obtain ⟨e,he,rfl⟩:=List.mem_map.mp hy
    obtain ⟨k2,_,_,q⟩:=X.el e (by
     have he:=Array.mem_toList_iff.mp he
     exact Array.mem_toList_iff.mpr (Array.mem_filter.mp he).1)
    exact ⟨k2,q⟩
  · rw [if_neg Bool.false_ne_true,Array.getElem?_eq_getElem hi2]
    show wpAny _ _ (holding [es[i].2] (eqBool es[i].2 (.ref p)) >>= _) _ _ s
    rw [hpb]
    refine wpAny_bind (wpAny_holding (wpAny_eqBool_tuple hu hkey hp ?_))
    rw [decide_eq_true rfl]
    refine wpAny_bind (wpAny_setState_of ho hd hf ?_)
    exact wpAny_pure h
theorem search_absent {Q:SetFound→Shared→Prop}(ho:s.heap.get? a=some o) (hd:o.data = .set es ep t) (T:Tb0 t (es.toList.map (·.1))) (M:MkN t.mask es.size) (hk:SmallP k) (hin:hashP k∉es.toList.map (·.1))
 (h:∀ e pre post,e∉t.place.toList→e≤t.mask→pathOf t.mask (hashP k)=pre++e::post→e∉pre→(∀ j∈pre,j∈t.place.toList)→Q (.free e false) s) :
 wpAny (model prog w) A (setSearch a (.ref p) (hashP k) true) Q E s:=by
 obtain ⟨m1,m2,m3⟩:=mk_facts M
 have hl:(es.toList.map (·.1)).length=es.size:=by rw [List.length_map,Array.length_toList]
 have hf:t.fits es.size=true:=by rw [← hl];exact tb_fits T (by omega)
 obtain ⟨ha,eha⟩:∃ ha:Nat→Int,ha=fun i=>(es[i]?.map (·.1)).getD 0:=⟨_,rfl⟩
 obtain ⟨e,pre,post,hpr,h1,h2,h3,h4,h5⟩:=probe_absent (h:=hashP k) (ha:=ha) T (fun i hi=>by
  rw [eha,List.getD_eq_getElem?_getD,List.getElem?_map,Array.getElem?_toList]) (fun i hi z=>hin (by
  rw [List.getD_eq_getElem?_getD,List.getElem?_eq_getElem hi] at z
  rw [← z]
  exact List.getElem_mem _)) (cov_small hk m1) (by omega)
 unfold setSearch setSearchFrom
 refine wpAny_bind (wpAny_setState_of ho hd hf ?_)
 show wpAny _ _ (if (t.mask%2==0)=true then _ else _) _ _ s
 rw [if_neg (by rw [m3];exact Bool.false_ne_true)]
 have key:∀ g:Nat→Int,g=ha→t.probe g (hashP k) (t.probeStart (hashP k))=some (.empty e none):=fun g hg=>by rw [hg];exact hpr
 simp only [Option.getD_none]
 rw [key]
 rotate_left
 · rw [eha];rfl
 exact wpAny_pure (h e pre post h1 h2 h3 h4 h5)
end
theorem fm_map {α:Type}{xs:List α}{f:α→Int}:∀ {l:List Nat},(∀ m∈l,m<xs.length)→(l.filterMap fun m=>xs[m]?).map f=l.map fun m=>(xs.map f).getD m 0
 | [],_=>rfl
 | m::l,h=>by
  have hm:=h m List.mem_cons_self
  rw [List.filterMap_cons,List.getElem?_eq_getElem hm]
  show f xs[m]::(l.filterMap fun m=>xs[m]?).map f=_
  rw [fm_map fun x hx=>h x (List.mem_cons_of_mem _ hx),List.map_cons,List.getD_eq_getElem?_getD,List.getElem?_map,List.getElem?_eq_getElem hm]
  rfl
theorem fm_range {α:Type}(xs:List α):((List.range xs.length).filterMap fun m=>xs[m]?)=xs:=by
 induction xs with
 | nil=>rfl
 | cons x xs ih=>
  rw [List.length_cons,List.range_succ_eq_map,List.filterMap_cons,List.filterMap_map]
  show x::((List.range xs.length).filterMap fun m=>xs[m]?)=x::xs
  rw [ih]
section
variable {prog:Program}{w:World}{OK:Addr→Int×Int→Prop}{A:Around}{E:Value→Shared→Prop}{s:Shared}
variable {a p:Addr}{k:Int×Int}{ks:List (Int×Int)}
theorem set_addP {Q:Bool→Shared→Prop}(hu:A.units<cLine) (S:SetP prog w OK s.heap a ks) (hk:SmallP k) (hok:OK p k) (hp:IsTupleKey (intKind prog w) s.heap [k.1,k.2] p)
 (h:∀ h' b,Heap.SameBut a s.heap h'→SetP prog w OK h' a (if k∈ks then ks else ks++[k])→Q b { s with heap:=h' }) :
 wpAny (model prog w) A (setAddHashed a (.ref p) (hashP k)) Q E s:=by
 have S0:=S
 obtain ⟨o,es,ep,t,ho,hex,hd,T,M,hl,X⟩:=S
 obtain ⟨m1,m2,m3⟩:=mk_facts M
 have hlen:(es.toList.map (·.1)).length=es.size:=by rw [List.length_map,Array.length_toList]
 have hf:t.fits es.size=true:=by rw [← hlen];exact tb_fits T (by omega)
 have bs:byScan (.ref p) es=false:=rfl
 have kin:=X.mem k hk
 unfold setAddHashed setAddHashedIn
 refine wpAny_holding (wpAny_bind (wpAny_setState_of ho hd hf ?_))
 dsimp only
 rw [bs,if_neg Bool.false_ne_true]
 by_cases hin:hashP k∈es.toList.map (·.1)
 · refine wpAny_bind (search_found hu ho hd T M X hk hok hp hin (wpAny_pure ?_))
   have e:s = { s with heap:=s.heap }:=by cases s;rfl
   have q:=h s.heap false (Heap.SameBut.refl a s.heap) (by rw [if_pos (kin.mpr hin)];exact S0)
   rw [e];exact q
 · have kout:k∉ks:=fun z=>hin (kin.mp z)
   refine wpAny_bind (search_absent ho hd T M hk hin fun e pre post h1 h2 h3 h4 h5=>?_)
   dsimp only
   refine wpAny_bind (wpAny_setState_of ho hd hf ?_)
   dsimp only
   have T1:=tb_put (h:=hashP k) T h1 h2 h3 h4 h5
   have tm:(t.put e).1.mask=t.mask:=rfl
   have tl:(t.put e).1.led=t.led:=rfl
   have pb:(t.put e).2≤es.size:=by
    have:=(below_spec T.as e).1
    have sz:=T.sz
    show SetTable.below t.place e≤es.size
    omega
   generalize t.put e=U at T1 tm tl pb ⊢
   obtain ⟨t1,pp⟩:=U
   simp only at T1 tm tl pb ⊢
   have el1:(SetTable.insertAt es pp (hashP k,Value.ref p)).toList=es.toList.take pp++(hashP k,Value.ref p)::es.toList.drop pp:=ins_list es pb _
   generalize SetTable.insertAt es pp (hashP k,Value.ref p)=es1 at el1 ⊢
   have T1:Tb0 t1 (es1.toList.map (·.1)):=by
    rw [el1,List.map_append,List.map_cons,List.map_take,List.map_drop]
    exact T1
   have pm1:es1.toList.Perm (es.toList++[(hashP k,Value.ref p)]):=by
    rw [el1]
    refine List.perm_middle.trans ?_
    rw [List.take_append_drop]
    exact (List.perm_append_singleton _ _).symm
   have X1:=(X.add hk ⟨p,rfl,hok,hp⟩ hin).perm pm1
   have sz1:es1.size=es.size+1:=by rw [← Array.length_toList,pm1.length_eq,List.length_append,Array.length_toList];rfl
   have l64:=X1.len
   rw [Array.length_toList] at l64
   have scan:es1.size≤sizeLine:=by rw [sizeLine_eq];omega
   suffices rest:wpAny (model prog w) A (storeSet a es1 t1 >>= fun _=>if (!false&&t1.tooFull)=true then (setRelay a (SetTable.grown (es.size+1)) >>= fun _=>pure true) else pure true) Q E s by
    by_cases c:t1.plain=true
    · rw [if_pos c]
      refine wpAny_bind (hbv_pair (OK:=OK) ⟨p,rfl,hok,hp⟩ ?_)
      simp only [if_true]
      exact rest
    · rw [if_neg c]
      refine wpAny_bind (wpAny_pure ?_)
      simp only [if_true]
      exact rest
   refine wpAny_bind (wpAny_storeSet_of ho hd ?_ scan)
   have ho1:(s.heap.update a (Obj.putSet es1 t1)).get? a=some { o with data:=.set es1 (ep+1) t1 }:=by
    have:=Heap.get?_update_self (Obj.putSet es1 t1) ho (by rw [putSet_of es1 t1 hd];rfl)
    rw [putSet_of es1 t1 hd] at this;exact this
   have sb1:=Heap.SameBut.update s.heap a (Obj.putSet es1 t1)
   have keep:∀ {h':Heap},Heap.SameBut a s.heap h'→∀ (q:Addr) (oq:Obj) (items:Array Value) (n:Nat),s.heap.get? q=some oq→oq.data = .seq items n→h'.get? q=some oq:=fun {h'} sb q oq items n e1 e2=>by
    have hne:q≠a:=fun z=>by
     rw [z,ho] at e1
     cases e1
     rw [hd] at e2
     cases e2
    rw [sb.2 q hne]
    exact e1
   have fin:∀ h',Heap.SameBut a s.heap h'→SetP prog w OK h' a (ks++[k])→Q true { s with heap:=h' }:=fun h' sb q=>h h' true sb (by rw [if_neg kout];exact q)
   have fill:t1.fill=es1.size:=by
    unfold SetTable.fill
    rw [T1.sz,T1.dm,List.length_map,Array.length_toList]
    rfl
   by_cases c:t1.tooFull=true
   · rw [if_pos (by rw [c];rfl)]
     have c2:es1.size*5≥t.mask*3:=by
      have:decide (t1.fill*5≥t1.mask*3)=true:=c
      rw [fill,tm] at this
      exact of_decide_eq_true this
     obtain ⟨mask2,hm2,wd,M2,cm2⟩:∃ mask2,SetTable.sizeAbove (SetTable.grown (es.size+1))-1=mask2∧¬ SetTable.sizeAbove (SetTable.grown (es.size+1))>sizeLine∧MkN mask2 es1.size∧(mask2=7∨mask2=31∨mask2=127):=by
      rcases M with ⟨hm,hn⟩ | ⟨hm,hn⟩ | ⟨hm,hn⟩
      · have:es.size=4:=by omega
        rw [this,sizeLine_eq]
        exact ⟨31,by decide,by decide,.inr (.inl ⟨rfl,by omega⟩),.inr (.inl rfl)⟩
      · have:es.size=18:=by omega
        rw [this,sizeLine_eq]
        exact ⟨127,by decide,by decide,.inr (.inr ⟨rfl,by omega⟩),.inr (.inr rfl)⟩
      · omega
     have f1:t1.fits es1.size=true:=by
      have:=tb_fits T1 (by rw [List.length_map,Array.length_toList,tm];rcases M with ⟨hm,hn⟩ | ⟨hm,hn⟩ | ⟨hm,hn⟩<;>omega)
      rw [List.length_map,Array.length_toList] at this
      exact this
     have hs1:(es1.map (·.1)).toList=es1.toList.map (·.1):=Array.toList_map
     have mz:=(mk_facts M2).2.1
     obtain ⟨t2,od,hlaid,q1,q2,q3,T2⟩:=tb_laid (mask:=mask2) (finger:=t1.finger) (moves:=t1.movedTo mask2) (led:=t1.led) (plain:=t1.plain) (hs:=es1.map (·.1)) (by rw [Array.size_map];exact mz) (fun y hy=>by
      rw [hs1] at hy
      obtain ⟨e,he,rfl⟩:=List.mem_map.mp hy
      obtain ⟨k2,hk2,hh,_⟩:=X1.el e he
      rw [hh]
      exact cov_small hk2 cm2)
     have hrel:t1.relaid (es1.map (·.1)) (SetTable.grown (es.size+1))=some (t2,od):=by
      unfold SetTable.relaid
      rw [hm2]
      exact hlaid
     rw [Array.size_map] at q3
     have es2l:(od.filterMap (es1[·]?)).toList=od.toList.filterMap fun m=>es1.toList[m]?:=by
      rw [Array.toList_filterMap]
      exact congrArg (fun f=>od.toList.filterMap f) (funext fun m=>by rw [Array.getElem?_toList])
     have pm2:(od.filterMap (es1[·]?)).toList.Perm es1.toList:=by
      rw [es2l]
      refine (q3.filterMap _).trans (List.Perm.of_eq ?_)
      rw [← Array.length_toList]
      exact fm_range es1.toList
     have T2:Tb0 t2 ((od.filterMap (es1[·]?)).toList.map (·.1)):=by
      rw [es2l,fm_map fun m hm=>by rw [Array.length_toList];exact List.mem_range.mp (q3.mem_iff.mp hm)]
      rw [hs1] at T2
      exact T2
     have ez:(od.filterMap (es1[·]?)).size=es1.size:=by rw [← Array.length_toList,pm2.length_eq,Array.length_toList]
     have ho2:∀ {s':Heap},s'=s.heap.update a (Obj.putSet es1 t1)→(s'.update a (Obj.putSet (od.filterMap (es1[·]?)) t2)).get? a=some { o with data:=.set (od.filterMap (es1[·]?)) (ep+1+1) t2 }:=fun {s'} e=>by
      subst e
      have:=Heap.get?_update_self (Obj.putSet (od.filterMap (es1[·]?)) t2) ho1 (by rw [putSet_of _ t2 rfl];rfl)
      rw [putSet_of _ t2 rfl] at this;exact this
     have sb2:=sb1.trans (Heap.SameBut.update (s.heap.update a (Obj.putSet es1 t1)) a (Obj.putSet (od.filterMap (es1[·]?)) t2))
     refine wpAny_bind ?_
     unfold setRelay
     refine wpAny_bind (wpAny_setState_of ho1 rfl f1 ?_)
     dsimp only
     rw [if_neg wd,hrel]
     show wpAny _ _ ((if ((od.filterMap (es1[·]?)).size != es1.size)=true then (unsupported "internal:set-table-lost-an-element" >>= fun _=>pure (od.filterMap (es1[·]?),t2)) else pure (od.filterMap (es1[·]?),t2)) >>= _) _ _ _
     rw [if_neg (by rw [ez];simp)]
     refine wpAny_bind (wpAny_pure ?_)
     refine wpAny_storeSet_of ho1 rfl ?_ (by rw [ez];exact scan)
     exact wpAny_pure (fin _ sb2 ⟨_,_,ep+1+1,t2,ho2 rfl,hex,rfl,T2,by rw [q1,ez];exact M2,by rw [q2,tl];exact hl,(X1.perm pm2).keep (keep sb2)⟩)
   · rw [if_neg (by rw [Bool.not_eq_true] at c;rw [c];exact Bool.false_ne_true)]
     have c2:¬ es1.size*5≥t.mask*3:=fun z=>c (by
      show decide (t1.fill*5≥t1.mask*3)=true
      rw [fill,tm]
      exact decide_eq_true z)
     refine wpAny_pure (fin _ sb1 ⟨_,es1,ep+1,t1,ho1,hex,rfl,T1,?_,by rw [tl];exact hl,X1.keep (keep sb1)⟩)
     rw [tm]
     rcases M with ⟨hm,hn⟩ | ⟨hm,hn⟩ | ⟨hm,hn⟩
     · exact .inl ⟨hm,by omega⟩
     · exact .inr (.inl ⟨hm,by omega⟩)
     · exact .inr (.inr ⟨hm,by omega⟩)
end
end L2
set_option maxHeartbeats 3200000
namespace L2
open PySem PySem.Spec PyProof.Rows
noncomputable def metG (val:Nat→Int×Int):Nat→List (Int×Int)
 | 0=>[]
 | i+1=>if val i∈metG val i then metG val i else metG val i++[val i]
theorem metG_mem (val:Nat→Int×Int):∀ i x,x∈metG val i↔∃ j,j<i∧val j=x
 | 0,x=>by simp [metG]
 | i+1,x=>by
  have ih:=metG_mem val i
  rw [metG]
  by_cases c:val i∈metG val i
  · rw [if_pos c,ih x]
    have c':=(ih _).mp c
    constructor
    · rintro ⟨j,h1,h2⟩
      exact ⟨j,by omega,h2⟩
    · rintro ⟨j,h1,h2⟩
      rcases Nat.lt_or_ge j i with z | z
      · exact ⟨j,z,h2⟩
      · have:j=i:=by omega
        subst this
        obtain ⟨j',h3,h4⟩:=c'
        exact ⟨j',h3,h4.trans h2⟩
  · rw [if_neg c,List.mem_append,ih x,List.mem_singleton]
    constructor
    · rintro (⟨j,h1,h2⟩ | h)
      · exact ⟨j,by omega,h2⟩
      · exact ⟨i,by omega,h.symm⟩
    · rintro ⟨j,h1,h2⟩
      rcases Nat.lt_or_ge j i with z | z
      · exact .inl ⟨j,z,h2⟩
      · have:j=i:=by omega
        subst this
        exact .inr h2.symm
theorem metG_nd (val:Nat→Int×Int):∀ i,(metG val i).Nodup
 | 0=>List.nodup_nil
 | i+1=>by
  rw [metG]
  by_cases c:val i∈metG val i
  · rw [if_pos c];exact metG_nd val i
  · rw [if_neg c]
    refine List.nodup_append.mpr ⟨metG_nd val i,List.pairwise_singleton _ _,fun a ha b hb e=>c ?_⟩
    rw [List.mem_singleton] at hb
    rw [← hb,← e]
    exact ha
section
variable {prog:Program}{w:World}{OK:Addr→Int×Int→Prop}{A:Around}{R:Result→Shared→Prop}
theorem SetP.at {h h':Heap}{a:Addr}{ks:List (Int×Int)}(S:SetP prog w OK h a ks) (k:∀ o,h.get? a=some o→h'.get? a=some o) (kt:∀ p o items n,h.get? p=some o→o.data = .seq items n→h'.get? p=some o):SetP prog w OK h' a ks:=by
 obtain ⟨o,es,ep,t,ho,a1,a2,a3,a4,a5,X⟩:=S
 exact ⟨o,es,ep,t,k o ho,a1,a2,a3,a4,a5,X.keep kt⟩
theorem key_keep {h h':Heap}{ks:List Int}{p:Addr}(x:IsTupleKey (intKind prog w) h ks p) (k:∀ o,h.get? p=some o→h'.get? p=some o):IsTupleKey (intKind prog w) h' ks p:=by
 obtain ⟨o,items,n,ho,r⟩:=x
 exact ⟨o,items,n,k o ho,r⟩
theorem set_loopP {I:Addr}{fp wr:List Addr}{n:Nat}{P:Nat→Value→Prop}{St:Nat→Heap→Prop}(hu:A.in1.units<cLine) (W:Walks prog w A.in1 I fp wr n P St) (S:Addr) (hSf:S∉fp) (val:Nat→Int×Int) (adr:Nat→Addr) (hval:∀ i v,i<n→P i v→v = .ref (adr i)) (hsm:∀ i,i<n→SmallP (val i)) (hok:∀ i,i<n→OK (adr i) (val i)) (hW:∀ i h,St i h→∀ p o items m,h.get? p=some o→o.data = .seq items m→p∉wr) :
 ∀ (k i:Nat) (s:Shared),n-i=k→i≤n→St i s.heap→SetP prog w OK s.heap S (metG val i)→(∀ j,j<n→IsTupleKey (intKind prog w) s.heap [(val j).1,(val j).2] (adr j)∧adr j∉wr) →
  (∀ h' tk,(∀ b o,b∉wr→b≠S→s.heap.get? b=some o→h'.get? b=some o)→SetP prog w OK h' S (metG val n)→R (.ok (.ret .none)) { s with heap:=h',toks:=tk }) →
  codeAny (model prog w) A (.builtin "set.update.loop" ⟨[.ref S,.ref I],[]⟩) R s:=by
 have off:S∉wr:=fun h=>hSf (W.sub _ h)
 intro k
 induction k with
 | zero=>
  intro i s hk hi st hS hT fin
  have e:i=n:=by omega
  subst e
  refine codeAny_builtin F.entry_set_update_loop ?_
  rw [Around.under_plainId F.plain_set_update_loop _]
  show wpAny _ A.in1 (pyNext (.ref I) >>= _) _ _ s
  refine wpAny_bind (W.done s _ _ st fun h' tk kp=>?_)
  show wpAny _ A.in1 (ret Value.none) _ _ _
  exact wpAny_pure (fin h' tk (fun b o hbw _ e=>kp b o hbw e) (hS.at (fun o e=>kp S o off e) fun p o items m e d=>kp p o (hW i _ st p o items m e d) e))
 | succ k ih=>
  intro i s hk hi st hS hT fin
  have hlt:i<n:=by omega
  refine codeAny_builtin F.entry_set_update_loop ?_
  rw [Around.under_plainId F.plain_set_update_loop _]
  show wpAny _ A.in1 (pyNext (.ref I) >>= _) _ _ s
  refine wpAny_bind (W.item i s _ _ hlt st fun v h' tk hp st' kp=>?_)
  have ev:=hval i v hlt hp
  subst ev
  have kS:SetP prog w OK h' S (metG val i):=hS.at (fun o e=>kp S o off e) fun p o items m e d=>kp p o (hW i _ st p o items m e d) e
  have kT:∀ j,j<n→IsTupleKey (intKind prog w) h' [(val j).1,(val j).2] (adr j)∧adr j∉wr:=fun j hj=>⟨key_keep (hT j hj).1 fun o e=>kp _ o (hT j hj).2 e,(hT j hj).2⟩
  show wpAny _ A.in1 (holding [Value.ref (adr i)] (setAdd S (.ref (adr i))) >>= _) _ _ _
  refine wpAny_bind (wpAny_holding ?_)
  unfold setAdd
  refine wpAny_holding (wpAny_bind (wpAny_pyHash_tuple hu (kT i hlt).1 ?_))
  show wpAny _ _ (setAddHashed S (.ref (adr i)) (hashP (val i))) _ _ _
  refine set_addP hu kS (hsm i hlt) (hok i hlt) (kT i hlt).1 fun h2 b sb hS2=>?_
  have keep2:∀ p o items m,h'.get? p=some o→o.data = .seq items m→h2.get? p=some o:=fun p o items m e d=>by
   have hne:p≠S:=fun z=>by
    obtain ⟨oS,es,ep,t,ho,_,hd,_⟩:=kS
    rw [z,ho] at e
    cases e
    rw [hd] at d
    cases d
   rw [sb.2 p hne]
   exact e
  have hT2:∀ j,j<n→IsTupleKey (intKind prog w) h2 [(val j).1,(val j).2] (adr j)∧adr j∉wr:=fun j hj=>by
   obtain ⟨⟨o,items,m,ho,r⟩,nw⟩:=kT j hj
   exact ⟨⟨o,items,m,keep2 _ o items m ho r.2.1,r⟩,nw⟩
  refine wpAny_pure ⟨plainId_quiet F.plain_set_update_loop _,ih (i+1) _ (by omega) hlt (W.frame _ _ _ st' fun b hbf o e=>?_) hS2 hT2 fun h3 tk3 k3 hS3=>?_⟩
  · rw [sb.2 b (fun z:b=S=>hSf (by rw [← z];exact hbf))];exact e
  · refine fin h3 tk3 (fun b o hbw hbS e=>k3 b o hbw hbS ?_) hS3
    show h2.get? b=some o
    rw [sb.2 b hbS]
    exact kp b o hbw e
theorem set0_P {h:Heap}:SetP prog w OK (h.push (set0 w)) h.objs.size []:=
 ⟨_,#[],0,_,Heap.get?_push_size _ rfl,⟨rfl,rfl,rfl⟩,rfl,⟨rfl,List.Pairwise.nil,fun j hj=>(by cases hj),rfl,fun q hq=>(by cases hq)⟩,.inl ⟨rfl,by decide⟩,rfl,⟨fun e he=>(by simp at he),List.nodup_nil,fun k _=>(by simp),fun k hk=>(by cases hk)⟩⟩
end
end L2
set_option maxHeartbeats 3200000
namespace L2
open PySem PySem.Spec PyProof.Rows PySem.SeqAt
section
variable {prog:Program}{w:World}{OK:Addr→Int×Int→Prop}{A:Around}{E:Value→Shared→Prop}{s:Shared}
theorem pair_items {ks:List Int}{k:Int×Int}{vs:List Value}(e:ks=[k.1,k.2]) (h:ItemsAre (intKind prog w) ks vs):∃ t u,vs=[.int k.1 t,.int k.2 u]:=by
 subst e
 cases h with
 | cons h1 h=>
  cases h with
  | cons h2 h=>
   cases h
   obtain ⟨t,rfl⟩:=Value.isInt_shape h1
   obtain ⟨u,rfl⟩:=Value.isInt_shape h2
   exact ⟨t,u,rfl⟩
theorem pair_key {x y:Addr}{k l:Int×Int}{Q:Bool→Shared→Prop}(hx:IsTupleKey (intKind prog w) s.heap [k.1,k.2] x) (hy:IsTupleKey (intKind prog w) s.heap [l.1,l.2] y) (hk:SmallP k) (hl:SmallP l) (hne:k≠l) (q:Q (decide (8*k.1+k.2<8*l.1+l.2)) s) :
 wpAny (model prog w) A (PyProof.Rows.keyLt' (tuples' true) (.ref x) (.ref y)) Q E s:=by
 obtain ⟨ox,xs,n,hox,_,dx,ix⟩:=hx
 obtain ⟨oy,ys,m,hoy,_,dy,iy⟩:=hy
 obtain ⟨t1,t2,ex⟩:=pair_items rfl ix
 obtain ⟨u1,u2,ey⟩:=pair_items rfl iy
 obtain ⟨⟨a1,a2⟩,a3,a4⟩:=hk
 obtain ⟨⟨b1,b2⟩,b3,b4⟩:=hl
 refine PySem.W.kat_lt hox dx hoy dy ?_
 rw [ex,ey]
 show PySem.W.KatLex prog w A true _ Q [(.int k.1 t1,.int l.1 u1),(.int k.2 t2,.int l.2 u2)] 0 s
 refine PySem.W.kat_cons (wpAny_eqBool_int ?_)
 refine PySem.W.kat_go (fun e=>PySem.W.kat_yes (PySem.W.kat_cons (wpAny_eqBool_int ?_))) (fun e=>PySem.W.kat_no (oneLt_int ?_))
 · have e1:k.1=l.1:=eq_of_beq e
   have e2:k.2≠l.2:=fun z=>hne (Prod.ext e1 z)
   rw [show (k.2==l.2)=false from beq_eq_false_iff_ne.mpr e2]
   refine PySem.W.kat_no (PySem.W.kat_one _ _ ?_)
   show wpAny _ _ (richCompare .Lt (.int k.2 t2) (.int l.2 u2)) _ _ s
   refine wpAny_richCompare_same (op:=.Lt) (T:="int") (typeIs_int _ _ _) (typeIs_int _ _ _) slot_int_lt (call_int_lt ⟨by simp,?_⟩)
   show Q (decide (k.2<l.2)) s
   rw [show decide (k.2<l.2)=decide (8*k.1+k.2<8*l.1+l.2) from decide_eq_decide.mpr (by omega)]
   exact q
 · have e1:k.1≠l.1:=beq_eq_false_iff_ne.mp e
   rw [show decide (k.1<l.1)=decide (8*k.1+k.2<8*l.1+l.2) from decide_eq_decide.mpr (by omega)]
   exact q
theorem sort_atT {a:Addr}{vs fs:List Value}{n:Nat}{P:Fin→Shared→Prop}{key:Nat→Int}(hA:s.heap.get? a=some (seqObj "list" vs.toArray n)) (h64:vs.length<64) (hk:My.Inj vs.length key) (hfs:fs.length=vs.length)
 (ty:∀ h',Beside a s.heap h'→PySem.W.KatTups h' vs fs∧∀ v∈fs,PySem.W.Looks (model prog w) h' (typeOf v) (.type "int"))
 (ask:∀ h',Beside a s.heap h'→∀ i j,i<vs.length→j<vs.length→i≠j→∀ C:Bool→Shared→Prop,C (decide (key i<key j)) { s with heap:=h' }→wpAny (model prog w) A (keyLt' (tuples' true) (vs.getD i .none) (vs.getD j .none)) C (fun _ _=>False) { s with heap:=h' })
 (fin:∀ p:Array Nat,My.PA vs.length p→My.UpTo key p vs.length→P (.done (.ret .none)) { s with heap:=sortedHeap s.heap a vs (List.toArray (p.toList.map fun i=>vs.getD i .none)) }) :
 wpAny (model prog w) A (Builtin.«list.sort» ⟨[.ref a],[]⟩) P E s:=by
 have al:=Heap.lt_size hA
 obtain ⟨e1,hA1⟩:∃ e1,(s.heap.update a (Obj.mapSeq fun _=>#[])).get? a=some (seqObj "list" #[] e1):=⟨_,get?_update_seq hA (fun _=>#[])⟩
 have fit:vs.length≤sizeLine:=by rw [sizeLine_eq];omega
 have hA6:(((s.heap.update a (Obj.mapSeq fun _=>#[])).push (seqObj "tuple" vs.toArray 0)).push (seqObj "list" #[] 0)).get? a=some (seqObj "list" #[] e1):=Heap.get?_push_of_some _ (Heap.get?_push_of_some _ hA1)
 have bes:Beside a s.heap (((s.heap.update a (Obj.mapSeq fun _=>#[])).push (seqObj "tuple" vs.toArray 0)).push (seqObj "list" #[] 0)):=fun b o hb e=>Heap.get?_push_of_some _ (Heap.get?_push_of_some _ ((Heap.get?_update_ne _ _ _ _ hb).trans e))
 rw [list_sort_plain]
 refine wpAny_bind (listItems_at hA rfl (wpAny_bind (listUpdate_at hA rfl (wpAny_bind (seqEpoch_at hA1 rfl (wpAny_bind (wpAny_newTuple (wpAny_bind (wpAny_newList (wpAny_holding ?_) (Nat.zero_le _))) fit)))) (by rw [List.size_toArray];exact fit) (Nat.zero_le _))))
 show wpAny (model prog w) A _ P E { s with heap:=(((s.heap.update a (Obj.mapSeq fun _=>#[])).push (seqObj "tuple" vs.toArray 0)).push (seqObj "list" #[] 0)) }
 dsimp only
 by_cases c:vs.toArray.size<2
 · have c1:vs.length<2:=by rw [List.size_toArray] at c;exact c
   rw [if_pos c,if_pos c]
   refine wpAny_bind (wpAny_pure ?_)
   rw [StateT.run_pure]
   refine wpAny_bind (wpAny_pure ?_)
   dsimp only
   have eo:((vs.toArray.zip vs.toArray).map (·.2))=List.toArray ((List.toArray (List.range vs.length)).toList.map fun i=>vs.getD i .none):=by
    match vs,c1 with
    | [],_=>simp
    | [v],_=>simp [List.range_succ]
   refine wpAny_bind (seqEpoch_at hA6 rfl (wpAny_bind (listUpdate_at hA6 rfl ?_ (Nat.zero_le _) (Nat.le_trans (Nat.le_of_eq ((Array.size_map ..).trans (pairsOf_size vs))) (Nat.le_succ_of_le fit)))))
   simp only [bne_self_eq_false,Bool.false_eq_true,if_false]
   refine wpAny_pure ?_
   have:=fin (List.toArray (List.range vs.length)) ⟨by simp,by simp⟩ fun i j hij hj=>by omega
   rw [← eo] at this
   exact this
 · have c1:2≤vs.length:=by rw [List.size_toArray] at c;omega
   rw [if_neg c,if_neg c]
   obtain ⟨ty1,ty2⟩:=ty _ bes
   refine wpAny_bind (PySem.W.kat_kind (T:=.type "int") ty1 (by omega) ty2 (by decide) ?_)
   show wpAny _ _ _ _ _ _
   have est:SortSt.mk' (tuples' true) (vs.toArray.zip vs.toArray) #[] 7 none=PySem.W.kas_st (tuples' true) (pairsOf vs) (List.toArray (List.range vs.length)):=by
    have e:=PySem.W.kas_range (pairsOf vs)
    rw [pairsOf_size] at e
    unfold PySem.W.kas_st
    rw [e]
    rfl
   have q:=ask _ bes
   have go:=My.pwp_run (cmp:=PySem.W.kas_cmp prog w A (tuples' true) (pairsOf vs)) (s:={ s with heap:=(((s.heap.update a (Obj.mapSeq fun _=>#[])).push (seqObj "tuple" vs.toArray 0)).push (seqObj "list" #[] 0)) }) (lt:=My.ltK key) (n:=vs.length) (fun i j hi hj hne C hC=>by
    unfold PySem.W.kas_cmp
    rw [PySem.W.kas_item_eq,PySem.W.kas_item_eq]
    exact q i j hi hj hne C hC) (R:=fun p s'=>(My.PA vs.length p∧My.UpTo key p vs.length)∧s' = { s with heap:=(((s.heap.update a (Obj.mapSeq fun _=>#[])).push (seqObj "tuple" vs.toArray 0)).push (seqObj "list" #[] 0)) }) (fun p hp=>⟨hp,rfl⟩) (My.sort_ok hk c1)
   have run:=PySem.W.kas_runs (E:=E) (Q:=fun _ st' s'=>∃ p,(My.PA vs.length p∧My.UpTo key p vs.length)∧arrOf st'=p.map (PySem.W.kas_item (pairsOf vs))∧failedOf st'=none∧s' = { s with heap:=(((s.heap.update a (Obj.mapSeq fun _=>#[])).push (seqObj "tuple" vs.toArray 0)).push (seqObj "list" #[] 0)) }) c1 h64 (fun p st' s' b1 b2 b3 b4=>⟨p,b4.1,b2,b3,b4.2⟩) go
   rw [← est] at run
   refine wpAny_bind (wpAny_mono run ?_ fun _ _ e=>e)
   rintro ⟨⟨⟩,st'⟩ s' ⟨p,⟨hp,hup⟩,har,hf,rfl⟩
   dsimp only
   have eo:(arrOf st').map (·.2)=List.toArray (p.toList.map fun i=>vs.getD i .none):=by
    apply Array.toList_inj.mp
    rw [har,Array.map_map,Array.toList_map]
    exact List.map_congr_left fun i _=>by show (PySem.W.kas_item (pairsOf vs) i).2=_;rw [PySem.W.kas_item_eq]
   rw [eo]
   refine wpAny_bind (seqEpoch_at hA6 rfl (wpAny_bind (listUpdate_at hA6 rfl ?_ (Nat.zero_le _) (by rw [List.size_toArray,List.length_map,Array.length_toList,hp.size];exact Nat.le_succ_of_le fit))))
   rw [hf]
   simp only [bne_self_eq_false,Bool.false_eq_true,if_false]
   exact wpAny_pure (fin p hp hup)
theorem perm_lift {α β:Type}{f:α→β}:∀ {acc:List β}{l:List α},acc.Perm (l.map f)→∃ l':List α,l'.Perm l∧l'.map f=acc
 | [],l,p=>by
  have:=p.length_eq
  rw [List.length_map] at this
  exact ⟨[],by rw [List.length_eq_zero_iff.mp this.symm],rfl⟩
 | v::acc,l,p=>by
  obtain ⟨x,hx,rfl⟩:=List.mem_map.mp (p.mem_iff.mp List.mem_cons_self)
  obtain ⟨l1,l2,rfl⟩:=List.append_of_mem hx
  have p2:acc.Perm ((l1++l2).map f):=by
   refine List.Perm.cons_inv (a:=f x) (p.trans ?_)
   rw [List.map_append,List.map_cons,List.map_append]
   exact List.perm_middle
  obtain ⟨l',h1,h2⟩:=perm_lift p2
  exact ⟨x::l',(h1.cons x).trans List.perm_middle.symm,by rw [List.map_cons,h2]⟩
theorem ElP.qs {h:Heap}:∀ {es:List (Int×Value)},(∀ e∈es,∃ k,SmallP k∧e.1=hashP k∧PairAt prog w OK h e.2 k)→∃ qs:List (Addr×(Int×Int)),es=(qs.map fun q=>(hashP q.2,Value.ref q.1))∧∀ q∈qs,SmallP q.2∧IsTupleKey (intKind prog w) h [q.2.1,q.2.2] q.1∧OK q.1 q.2
 | [],_=>⟨[],rfl,fun q hq=>by cases hq⟩
 | e::es,h=>by
  obtain ⟨qs,h1,h2⟩:=ElP.qs (es:=es) fun e he=>h e (List.mem_cons_of_mem _ he)
  obtain ⟨k,hk,e1,p,e2,hok,hp⟩:=h e List.mem_cons_self
  refine ⟨(p,k)::qs,?_,fun q hq=>?_⟩
  · rw [List.map_cons,← h1]
    show e::es=(hashP k,Value.ref p)::es
    rw [← e1,← e2]
  · rcases List.mem_cons.mp hq with rfl | hq
    · exact ⟨hk,hp,hok⟩
    · exact h2 q hq
theorem kat_fs {h:Heap}:∀ {qs:List (Addr×(Int×Int))},(∀ q∈qs,IsTupleKey (intKind prog w) h [q.2.1,q.2.2] q.1)→∃ fs:List Value,fs.length=qs.length∧(∀ h',(∀ b o,h.get? b=some o→h'.get? b=some o)→PySem.W.KatTups h' (qs.map fun q=>Value.ref q.1) fs)∧∀ f∈fs,∃ n t,f=Value.int n t
 | [],_=>⟨[],rfl,fun _ _=>trivial,fun f hf=>by cases hf⟩
 | q::qs,hq=>by
  obtain ⟨fs,h1,h2,h3⟩:=kat_fs (qs:=qs) fun q hq'=>hq q (List.mem_cons_of_mem _ hq')
  obtain ⟨o,xs,n,ho,hc,hd,hi⟩:=hq q List.mem_cons_self
  obtain ⟨t,u,ex⟩:=pair_items rfl hi
  refine ⟨.int q.2.1 t::fs,by rw [List.length_cons,List.length_cons,h1],fun h' kp=>PySem.W.KatTups.cons (kp _ _ ho) hc hd (by rw [← Array.getElem?_toList,ex];rfl) (h2 h' kp),fun f hf=>?_⟩
  rcases List.mem_cons.mp hf with rfl | hf
  · exact ⟨_,_,rfl⟩
  · exact h3 f hf
theorem sorted_setP {a:Addr}{ks:List (Int×Int)}{Q:Value→Shared→Prop}(hh:A.handled=none) (S:SetP prog w OK s.heap a ks) (hks:ks.Nodup) (h64:ks.length<64)
 (h:∀ (s':Shared) (l:Addr) (ps:List Addr) (ks':List (Int×Int)) (e:Nat),ps.length=ks'.length→(∀ i,i<ks'.length→IsTupleKey (intKind prog w) s.heap [(ks'.getD i (0,0)).1,(ks'.getD i (0,0)).2] (ps.getD i 0)∧OK (ps.getD i 0) (ks'.getD i (0,0)))→(∀ k,k∈ks'↔k∈ks)→(ks'.map fun k=>8*k.1+k.2).Pairwise (· < ·)→(∀ b o,s.heap.get? b=some o→s'.heap.get? b=some o)→s'.gens=s.gens→s'.os=s.os→s.toks≤s'.toks→s.heap.objs.size≤l→s'.heap.get? l=some (seqObj "list" (ps.map Value.ref).toArray e)→Q (.ref l) s') :
 wpAny (model prog w) A (call (.builtin "sorted") [.ref a]) Q E s:=by
 obtain ⟨o,es,ep,t,ho,hex,hd,T,M,hl,X⟩:=S
 obtain ⟨m1,m2,m3⟩:=mk_facts M
 have hlen:(es.toList.map (·.1)).length=es.size:=by rw [List.length_map,Array.length_toList]
 have hf:t.fits es.size=true:=by rw [← hlen];exact tb_fits T (by omega)
 -- keys of the entries
 have hz:es.size<64:=by
  have key:∀ {l m:List Int},l.Nodup→(∀ x∈l,x∈m)→l.length≤m.length:=by
   intro l
   induction l with
   | nil=>intro m _ _;exact Nat.zero_le _
   | cons x l ih=>
    intro m nd h
    have nd':=List.nodup_cons.mp nd
    have hx:=h x List.mem_cons_self
    have:=ih (m:=m.erase x) nd'.2 fun y hy=>(List.mem_erase_of_ne (fun z:y=x=>nd'.1 (by rw [← z];exact hy))).mpr (h y (List.mem_cons_of_mem _ hy))
    rw [List.length_erase_of_mem hx] at this
    have:=List.length_pos_of_mem hx
    rw [List.length_cons]
    omega
  have:=key (m:=ks.map hashP) X.nd fun y hy=>by
   obtain ⟨e,he,rfl⟩:=List.mem_map.mp hy
   obtain ⟨k,hk,h1,_⟩:=X.el e he
   exact List.mem_map.mpr ⟨k,(X.mem k hk).mpr (by rw [← h1];exact List.mem_map.mpr ⟨e,he,rfl⟩),h1.symm⟩
  rw [hlen,List.length_map] at this
  omega
 refine Calls.call_function_entry kind_sorted plain_sorted entry_sorted (args_sorted1 _) ?_
 unfold Builtin.«sorted»
 refine wpAny_bind (m:=checkCount "sorted" 1 1 _) (wpAny_pure ?_)
 refine wpAny_bind (collect_set hh ⟨o,ho,hex.1,hd,hf,T.as,hl⟩ (by rw [sizeLine_eq];omega) fun s1 acc kp hg hos ht sz0 pm=>?_)
 have al:acc.length=es.size:=by rw [pm.length_eq,List.length_map,Array.length_toList]
 obtain ⟨es',pe,ea⟩:=perm_lift pm
 have X':=X.perm pe
 obtain ⟨qs,eq,hq⟩:=ElP.qs X'.el
 have ea2:acc=qs.map fun q=>Value.ref q.1:=by rw [← ea,eq,List.map_map];rfl
 have qz:qs.length=es.size:=by rw [← al,ea2,List.length_map]
 have em:es'.map (·.1)=qs.map fun q=>hashP q.2:=by rw [eq,List.map_map];rfl
 have hnd:(qs.map fun q=>hashP q.2).Nodup:=by
  rw [← em]
  exact X'.nd
 subst ea2
 obtain ⟨fs,fl,ft,fi⟩:=kat_fs (h:=s.heap) fun q hq'=>(hq q hq').2.1
 have qd:∀ i,i<qs.length→qs.getD i (0,(0,0))∈qs:=fun i hi=>by rw [List.getD_eq_getElem?_getD,List.getElem?_eq_getElem hi];exact List.getElem_mem _
 have vd:∀ i,i<qs.length→(qs.map fun q=>Value.ref q.1).getD i .none = .ref (qs.getD i (0,(0,0))).1:=fun i hi=>by
  rw [List.getD_eq_getElem?_getD,List.getElem?_map,List.getD_eq_getElem?_getD,List.getElem?_eq_getElem hi];rfl
 have ne:∀ i j,i<qs.length→j<qs.length→i≠j→(qs.getD i (0,(0,0))).2≠(qs.getD j (0,(0,0))).2:=fun i j hi hj hij z=>by
  have e1:(qs.map fun q=>hashP q.2)[i]'(by rw [List.length_map];exact hi)=(qs.map fun q=>hashP q.2)[j]'(by rw [List.length_map];exact hj):=by
   rw [List.getElem_map,List.getElem_map]
   rw [List.getD_eq_getElem?_getD,List.getElem?_eq_getElem hi,List.getD_eq_getElem?_getD,List.getElem?_eq_getElem hj] at z
   exact congrArg hashP z
  rcases Nat.lt_or_ge i j with g | g
  · exact List.pairwise_iff_getElem.mp hnd i j _ _ g e1
  · exact List.pairwise_iff_getElem.mp hnd j i _ _ (by omega) e1.symm
 have inj:My.Inj (qs.map fun q=>Value.ref q.1).length fun i=>8*(qs.getD i (0,(0,0))).2.1+(qs.getD i (0,(0,0))).2.2:=fun i j hi hj e=>by
  rw [List.length_map] at hi hj
  apply Classical.byContradiction
  intro hij
  obtain ⟨⟨⟨a1,a2⟩,a3,a4⟩,_⟩:=hq _ (qd i hi)
  obtain ⟨⟨⟨b1,b2⟩,b3,b4⟩,_⟩:=hq _ (qd j hj)
  have e:8*(qs.getD i (0,(0,0))).2.1+(qs.getD i (0,(0,0))).2.2=8*(qs.getD j (0,(0,0))).2.1+(qs.getD j (0,(0,0))).2.2:=e
  exact ne i j hi hj hij (Prod.ext (by omega) (by omega))
 refine wpAny_bind (wpAny_newList ?_ (by rw [sizeLine_eq];omega))
 have hoL:(s1.heap.push (seqObj "list" (qs.map fun q=>Value.ref q.1).toArray 0)).get? s1.heap.objs.size=some (seqObj "list" (qs.map fun q=>Value.ref q.1).toArray 0):=Heap.get?_push_size _ rfl
 have old:∀ h',Beside s1.heap.objs.size (s1.heap.push (seqObj "list" (qs.map fun q=>Value.ref q.1).toArray 0)) h'→∀ b o,s.heap.get? b=some o→h'.get? b=some o:=fun h' hb b o e=>by
  have e1:=kp b o e
  exact hb b o (Nat.ne_of_lt (Heap.lt_size e1)) (Heap.get?_push_of_some _ e1)
 refine wpAny_bind (wpAny_holding (wpAny_call_entry slot_list_sort ⟨_,hoL,rfl⟩ entry_list_sort (sort_atT (s:={ s1 with heap:=s1.heap.push (seqObj "list" (qs.map fun q=>Value.ref q.1).toArray 0) }) hoL (by omega) inj (by rw [fl,List.length_map]) (fun h' hb=>⟨ft h' (old h' hb),fun v hv=>?_⟩) (fun h' hb i j hi hj hij C hC=>?_) fun p hp hup=>⟨_,rfl,?_⟩) (args_list_sort _)))
 · obtain ⟨n,t,rfl⟩:=fi v hv
   exact fun A' Q' E' s' _ qq=>wpAny_typeOf (typeIs_int _ _ _) qq
 · rw [List.length_map] at hi hj
   rw [vd i hi,vd j hj]
   obtain ⟨s1',k1',_⟩:=hq _ (qd i hi)
   obtain ⟨s2',k2',_⟩:=hq _ (qd j hj)
   exact pair_key (s:={ s1 with heap:=h' }) (key_keep k1' (old h' hb _)) (key_keep k2' (old h' hb _)) s1' s2' (ne i j hi hj hij) hC
 obtain ⟨e,he⟩:=sortedHeap_at (out:=List.toArray (p.toList.map fun i=>(qs.map fun q=>Value.ref q.1).getD i .none)) hoL
 have pl:∀ i∈p.toList,i<qs.length:=fun i hi=>by
  have:=hp.perm.mem_iff.mp hi
  rw [List.length_map] at this
  exact List.mem_range.mp this
 have eo:(p.toList.map fun i=>(qs.map fun q=>Value.ref q.1).getD i .none)=(p.toList.map fun i=>(qs.getD i (0,(0,0))).1).map Value.ref:=by
  rw [List.map_map]
  exact List.map_congr_left fun i hi=>vd i (pl i hi)
 have gd:∀ {α:Type} (f:Nat→α) (d:α) (i:Nat) (hi:i<p.toList.length),(p.toList.map f).getD i d=f (p.toList[i]):=fun f d i hi=>by
  rw [List.getD_eq_getElem?_getD,List.getElem?_map,List.getElem?_eq_getElem hi];rfl
 refine wpAny_pure ⟨_,rfl,h _ _ (p.toList.map fun i=>(qs.getD i (0,(0,0))).1) (p.toList.map fun i=>(qs.getD i (0,(0,0))).2) e (by rw [List.length_map,List.length_map]) (fun i hi=>?_) (fun k=>?_) ?_ (fun b o eb=>?_) hg hos ht (Nat.le_of_lt sz0) (by rw [← eo];exact he)⟩
 · rw [List.length_map] at hi
   rw [gd _ _ i hi,gd _ _ i hi]
   exact (hq _ (qd _ (pl _ (List.getElem_mem _)))).2
 · constructor
   · intro hk
     obtain ⟨i,hi,rfl⟩:=List.mem_map.mp hk
     have hm:=qd i (pl i hi)
     refine (X'.mem _ (hq _ hm).1).mpr ?_
     rw [em]
     exact List.mem_map_of_mem (f:=fun q:Addr×(Int×Int)=>hashP q.2) hm
   · intro hk
     have hks':=X'.sm k hk
     have:=(X'.mem k hks').mp hk
     rw [em] at this
     obtain ⟨q,hqm,e2⟩:=List.mem_map.mp this
     have e3:=hash_inj (hq q hqm).1 hks' e2
     obtain ⟨i,hi,e4⟩:=List.mem_iff_getElem.mp hqm
     refine List.mem_map.mpr ⟨i,hp.perm.mem_iff.mpr (List.mem_range.mpr (by rw [List.length_map];exact hi)),?_⟩
     rw [List.getD_eq_getElem?_getD,List.getElem?_eq_getElem hi,← e3,← e4];rfl
 · rw [List.map_map,List.pairwise_map,List.pairwise_iff_getElem]
   intro i j h1 h2 hij
   rw [Array.length_toList,hp.size] at h1 h2
   have:=hup i j hij h2
   unfold My.kv at this
   rw [Array.getD,dif_pos (by rw [hp.size];exact h1),Array.getD,dif_pos (by rw [hp.size];exact h2)] at this
   rw [Array.getElem_toList,Array.getElem_toList]
   exact this
 · have e1:=kp b o eb
   have lt:=Heap.lt_size e1
   exact (sortedHeap_old (Nat.ne_of_lt lt) (by rw [size_push'];exact Nat.lt_succ_of_lt lt)).trans (Heap.get?_push_of_some _ e1)
end
end L2
set_option maxHeartbeats 3200000
namespace L2
open PySem PySem.Spec PyProof.Rows
section
variable {prog:Program}{w:World}{OK:Addr→Int×Int→Prop}{A:Around}{E:Value→Shared→Prop}{s:Shared}
theorem call_setP {l:Addr}{ps:List Addr}{ks:List (Int×Int)}{Q:Value→Shared→Prop}(hh:A.handled=none) (hu:A.units+8<cLine) (hl:s.heap.IsList l (ps.map Value.ref).toArray) (hlen:ps.length=ks.length)
 (hk:∀ i,i<ks.length→IsTupleKey (intKind prog w) s.heap [(ks.getD i (0,0)).1,(ks.getD i (0,0)).2] (ps.getD i 0)) (hsm:∀ k∈ks,SmallP k) (hok:∀ i,i<ks.length→OK (ps.getD i 0) (ks.getD i (0,0)))
 (h:∀ (h':Heap) (tk:Nat),SetP prog w OK h' s.heap.objs.size (metG (fun i=>ks.getD i (0,0)) ks.length)→(∀ b o,b<s.heap.objs.size→s.heap.get? b=some o→h'.get? b=some o)→Q (.ref s.heap.objs.size) { s with heap:=h',toks:=tk }) :
 wpAny (model prog w) A (call (.type "set") [.ref l]) Q E s:=by
 obtain ⟨c,tl,hmro⟩:=F.called_set.mro
 have hmade:=F.called_set.made
 have hsub:=F.called_set.sub
 have h1:=F.called_set.notType
 have h2:=F.called_set.canCreate
 have hct:=F.typeCall_set_1 (.ref l)
 refine wpAny_call (codeAny_of_tree ?_)
 show wpAny _ _ (callAny (.type "set") _) _ _ _
 refine wpAny_pure ⟨Code.quiet_builtin _ (by decide +kernel),codeAny_builtin F.entry_type_call ?_⟩
 rw [Around.under_plain (weight_type_call_type "set" [.ref l] []) rfl]
 repeat (any_goals (first | assumption | wp_step))
 refine codeAny_mono (set_new (.ref l) (E:=E) (Q₁:=fun obj s₁=>obj = .ref s.heap.objs.size∧s₁ = { s with heap:=s.heap.push (set0 w) }) ⟨rfl,rfl⟩) fun r s₁ hr=>?_
 cases r with
 | error e=>exact hr
 | ok fl=>
  cases fl with
  | ret obj=>
   obtain ⟨rfl,rfl⟩:=hr
   have hS:(s.heap.push (set0 w)).get? s.heap.objs.size=some (set0 w):=Heap.get?_push_size _ rfl
   have hT:Shared.TypeIs { s with heap:=s.heap.push (set0 w) } (.ref s.heap.objs.size) "set":=⟨_,hS,rfl⟩
   have hli:=F.called_set.init.lookup
   have hbi:=F.called_set.init.bind (.ref s.heap.objs.size)
   repeat (any_goals (first | assumption | wp_step))
   refine codeAny_mono (codeAny_call_builtin (R:=wants (fun r s₂=>r = .none∧∃ h' tk,s₂ = { s with heap:=h',toks:=tk }∧SetP prog w OK h' s.heap.objs.size (metG (fun i=>ks.getD i (0,0)) ks.length)∧(∀ b o,b<s.heap.objs.size→s.heap.get? b=some o→h'.get? b=some o)) E) F.called_set.init.plain F.entry_set_init (check_set_init_1 hT ?_)) fun r₂ s₂ hr₂=>?_
   · obtain ⟨⟨ocls,odict,odata,oslots⟩,hol,hcl,nl,hdl⟩:=hl
     simp only at hcl hdl
     subst hcl;subst hdl
     have hol':(s.heap.push (set0 w)).get? l=some { cls:=.type "list",dict:=odict,data:=.seq (ps.map Value.ref).toArray nl,slots:=oslots }:=Heap.get?_push_of_some _ hol
     have hsls:=F.sub_list_set
     have hslf:=F.sub_list_frozenset
     have hne:(Value.type "list" == Value.type "dict")=false:=by decide
     have hl1:(s.heap.push (set0 w)).IsList l (ps.map Value.ref).toArray:=⟨_,hol',rfl,nl,rfl⟩
     unfold Builtin.«set.__init__» noKeywords Builtin.Frozenset.updateFrom
     generalize hPI:pyIter=PI
     wp_walk
     subst hPI
     refine wpAny_pyIter_list hl1 (wpAny_bind (wpAny_runValue ?_))
     have hlS:l<s.heap.objs.size:=Heap.lt_size hol
     have hh3:A.in1.in1.in1.handled=none:=by simp [hh]
     have zI:(s.heap.push (set0 w)).objs.size=s.heap.objs.size+1:=Heap.size_push ..
     have sz:(ps.map Value.ref).toArray.size=ks.length:=by rw [List.size_toArray,List.length_map,hlen]
     have W:=Walks.list (prog:=prog) (w:=w) hh3 (s.heap.push (set0 w)).objs.size l (by rw [zI];exact Nat.ne_of_lt (Nat.lt_succ_of_lt hlS)) (ps.map Value.ref).toArray
     have kold:∀ b o,s.heap.get? b=some o→((s.heap.push (set0 w)).push { cls:=.type "list_iterator",data:=.fields #[.ref l,.int 0 0] }).get? b=some o:=fun b o e=>Heap.get?_push_of_some _ (Heap.get?_push_of_some _ e)
     rw [sz] at W
     refine set_loopP (by show A.units+1+1+1<cLine;omega) W s.heap.objs.size ?_ (fun i=>ks.getD i (0,0)) (fun i=>ps.getD i 0) (fun i v hi hv=>?_) (fun i hi=>hsm _ (by rw [List.getD_eq_getElem?_getD,List.getElem?_eq_getElem hi];exact List.getElem_mem _)) hok (fun i h' st p o items m e d hp=>?_) _ 0 _ rfl (Nat.zero_le _) ⟨⟨_,Heap.get?_push_size _ rfl,rfl,rfl⟩,hl1.push _⟩ ((set0_P (prog:=prog)).at (fun o e=>Heap.get?_push_of_some _ e) fun p o items m e d=>Heap.get?_push_of_some _ e) (fun j hj=>⟨key_keep (hk j hj) (kold _),fun hm=>?_⟩) fun h' tk kp hS'=>?_
     · rw [zI]
       simp only [List.mem_cons,List.not_mem_nil,or_false,not_or]
       exact ⟨Nat.ne_of_lt (Nat.lt_succ_self _),Nat.ne_of_gt hlS⟩
     · have hi2:i<ps.length:=by omega
       rw [List.getElem?_toArray,List.getElem?_map,List.getElem?_eq_getElem hi2] at hv
       rw [List.getD_eq_getElem?_getD,List.getElem?_eq_getElem hi2]
       exact (Option.some.inj hv).symm
     · obtain ⟨⟨oi,hoi,_,hdi⟩,_⟩:=st
       rw [List.mem_singleton.mp hp,hoi] at e
       cases e
       rw [hdi] at d
       cases d
     · obtain ⟨o,_,_,ho,_⟩:=hk j hj
       have:=Heap.lt_size ho
       rw [List.mem_singleton.mp hm,zI] at this
       exact absurd this (Nat.not_lt.mpr (Nat.le_succ _))
     · show wpAny _ _ _ _ _ _
       refine wpAny_pure ?_
       show wpAny _ _ (ret Value.none) _ _ _
       refine wpAny_pure ⟨rfl,h',tk,rfl,hS',fun b o hb e=>kp b o ?_ (Nat.ne_of_lt hb) (Heap.get?_push_of_some _ (Heap.get?_push_of_some _ e))⟩
       rw [zI,List.mem_singleton]
       exact Nat.ne_of_lt (Nat.lt_succ_of_lt hb)
   · cases r₂ with
     | error e=>exact hr₂
     | ok fl₂=>
      cases fl₂ with
      | ret r=>
       obtain ⟨rfl,h',tk,rfl,hS',hk'⟩:=hr₂
       repeat (any_goals (first | assumption | wp_step))
       exact h _ _ hS' hk'
      | _=>exact hr₂.elim
  | _=>exact hr.elim
end
end L2
set_option maxHeartbeats 2000000
namespace L2
open PySem PySem.Spec PyProof.Rows PySem.SeqAt
theorem metG_56 {val:Nat→Int×Int}{n:Nat}(h:∀ i,i<n→SmallP (val i)∧(val i).2≠0):(metG val n).length<64:=by
 have key:∀ {l m:List (Int×Int)},l.Nodup→(∀ x∈l,x∈m)→l.length≤m.length:=by
  intro l
  induction l with
  | nil=>intro m _ _;exact Nat.zero_le _
  | cons x l ih=>
   intro m nd h
   have nd':=List.nodup_cons.mp nd
   have hx:=h x List.mem_cons_self
   have:=ih (m:=m.erase x) nd'.2 fun y hy=>(List.mem_erase_of_ne (fun z:y=x=>nd'.1 (by rw [← z];exact hy))).mpr (h y (List.mem_cons_of_mem _ hy))
   rw [List.length_erase_of_mem hx] at this
   have:=List.length_pos_of_mem hx
   rw [List.length_cons]
   omega
 have:=key (m:=pairsAll.filter fun k=>decide (k.2≠0)) (metG_nd val n) fun x hx=>by
  obtain ⟨j,hj,rfl⟩:=(metG_mem val n x).mp hx
  obtain ⟨h1,h2⟩:=h j hj
  exact List.mem_filter.mpr ⟨pairs_mem h1.1 h1.2,decide_eq_true h2⟩
 exact Nat.lt_of_le_of_lt this (by decide +kernel)
section
variable {X:Cx}{pins:List (Addr×Obj)}{σ:St}{H:Hp}{s:Shared}
noncomputable def rSortSetP:List V→Hp→VK→Prop:=fun xs H Q=>∃ (p:Addr) (as:List Addr) (ks:List (Int×Int)),xs=[.ref p]∧H p=some (.lst (as.map V.ref))∧as.length=ks.length∧(∀ (i:Nat) (a:Addr) (k:Int×Int),as[i]? = some a→ks[i]? = some k→H a=some (.tup [.int k.1,.int k.2]))∧(∀ k∈ks,SmallP k∧k.2≠0) ∧
 ∀ (ks':List (Int×Int)) (as':List Addr) (l:Addr),as'.length=ks'.length→(∀ i,i<ks'.length→∃ j:Nat,as[j]? = some (as'.getD i 0)∧ks[j]? = some (ks'.getD i (0,0)))→(∀ k,k∈ks'↔k∈ks)→(ks'.map fun k=>8*k.1+k.2).Pairwise (· < ·)→ks'.length<64→H l=none→Q (.ref l) (upd H l (.lst (as'.map V.ref)))
theorem pe_sortSetP {x1 x2:Str}{p1 p2 pos1 pos2:Pos}{e:Expr}{t:TA}(hc:X.calm=true) (hu:X.A.units+64<cLine) (hg1:Gl X x1) (hm1:X.mg x1=none) (hv1:bootBuiltins x1=some (.builtin "sorted")) (hg2:Gl X x2) (hm2:X.mg x2=none) (hv2:bootBuiltins x2=some (.type "set")) (ha:PA X [e] t)
 (hn1:x1≠"__name__":=by decide) (hdb1:(x1==("__debug__":Str))=false:=by decide) (hn2:x2≠"__name__":=by decide) (hdb2:(x2==("__debug__":Str))=false:=by decide)
 (he:starEach [e] X.env=(false,eval e X.env)::starEach [] X.env:=by rfl) :
 PE X (.Call (.Name x1 p1) [.Call (.Name x2 p2) [e] [] pos2] [] pos1) (tCB rSortSetP t):=by
 intro pins s σ H Q I h
 refine wpAny_Call_Name_kw (ld_blt I hg1 hm1 hv1 ?_ hn1 hdb1)
 refine PyProof.Rows.callWith_builtin1 ?_ rfl rfl
 show wpAny _ _ (spliced ((false,eval (.Call (.Name x2 p2) [e] [] pos2) X.env)::backTo pos1 (starEach [] X.env))) _ _ s
 refine Calls.spliced_cons ?_
 refine wpAny_Call_Name_kw (ld_blt I hg2 hm2 hv2 ?_ hn2 hdb2)
 refine PyProof.Rows.callWith_type1 (thn (ha pos2 pins s σ H _ I h) fun us s1 q0=>?_) he rfl
 obtain ⟨vs,H1,I1,r1,p,as,ks,rfl,hp,hln,hi,hsm,q⟩:=q0
 obtain ⟨u,rfl,ru⟩:=vals1 r1
 cases ru
 obtain ⟨z,its,n,rv,hl,e1⟩:=I1.lstM hp
 have ei:its=as.map Value.ref:=vals_refs rv
 subst ei
 have hh:X.A.handled=none:=I1.ok.hd hc
 have agd:∀ i,i<ks.length→as[i]? = some (as.getD i 0)∧ks[i]? = some (ks.getD i (0,0)):=fun i h2=>by
  constructor
  · rw [List.getD_eq_getElem?_getD,List.getElem?_eq_getElem (by omega)];rfl
  · rw [List.getD_eq_getElem?_getD,List.getElem?_eq_getElem h2];rfl
 have gd:∀ i,i<ks.length→IsTupleKey (intKind X.prog X.w) s1.heap [(ks.getD i (0,0)).1,(ks.getD i (0,0)).2] (as.getD i 0):=fun i h2=>by
  obtain ⟨g1,g2⟩:=agd i h2
  obtain ⟨it,rv2,pl,_⟩:=I1.tuple (SqT.of (hi i _ _ g1 g2))
  obtain ⟨o,ho,hc,m,hd⟩:=pl
  refine ⟨o,it.toArray,m,ho,hc,hd,?_⟩
  cases rv2 with
  | cons p1 q1=>
   cases q1 with
   | cons p2 q2=>
    cases q2
    obtain ⟨t1,rfl⟩:=p1
    obtain ⟨t2,rfl⟩:=p2
    exact .cons (intKind_is _ _ _ _) (.cons (intKind_is _ _ _ _) .nil)
 refine call_setP (OK:=fun a k=>∃ j:Nat,as[j]? = some a∧ks[j]? = some k) hh (by omega) ⟨_,e1,rfl,n,rfl⟩ hln gd (fun k hk=>(hsm k hk).1) (fun i hi2=>⟨i,agd i hi2⟩) fun h' tk hS kp=>?_
 refine Calls.spliced_nil ?_
 have k1:∀ b o,s1.heap.get? b=some o→h'.get? b=some o:=fun b o e=>kp b o (Heap.lt_size e) e
 have sz1:s1.heap.objs.size≤h'.objs.size:=by
  obtain ⟨o,_,_,_,ho,_⟩:=id hS
  exact Nat.le_of_lt (Heap.lt_size ho)
 have gdm:∀ i,i<ks.length→ks.getD i (0,0)∈ks:=fun i hi2=>List.mem_of_getElem? (agd i hi2).2
 refine sorted_setP hh hS (metG_nd _ _) (metG_56 fun i hi2=>hsm _ (gdm i hi2)) fun s' l ps ks' e9 a1 a2 a3 a4 kp2 hg ho ht hl2 he9=>?_
 have l64:ks'.length<64:=by
  have nd:ks'.Nodup:=by
   have:(ks'.map fun k=>8*k.1+k.2).Nodup:=a4.imp fun {a b} h=>by omega
   exact List.Pairwise.of_map (S:=(·≠·)) _ (fun a b hab z=>hab (by rw [z])) this
  have key:∀ {l m:List (Int×Int)},l.Nodup→(∀ x∈l,x∈m)→l.length≤m.length:=by
   intro l
   induction l with
   | nil=>intro m _ _;exact Nat.zero_le _
   | cons x l ih=>
    intro m nd h
    have nd':=List.nodup_cons.mp nd
    have hx:=h x List.mem_cons_self
    have:=ih (m:=m.erase x) nd'.2 fun y hy=>(List.mem_erase_of_ne (fun z:y=x=>nd'.1 (by rw [← z];exact hy))).mpr (h y (List.mem_cons_of_mem _ hy))
    rw [List.length_erase_of_mem hx] at this
    have:=List.length_pos_of_mem hx
    rw [List.length_cons]
    omega
  exact Nat.lt_of_le_of_lt (key nd fun x hx=>(a3 x).mp hx) (metG_56 fun i hi2=>hsm _ (gdm i hi2))
 have I2:=I1.laid (a:=l) (h':=s'.heap) (t':=s'.toks) (o:=.lst (ps.map V.ref)) (fun b u e=>kp2 b u (k1 b u e)) (Nat.le_trans sz1 hl2) ⟨by rw [List.length_map,sizeLine_eq];omega,ps.map Value.ref,e9,vals_of_refs ps,he9⟩
 have I3:=I2.drew s'.drawn
 have es':({ s1 with heap:=s'.heap,toks:=s'.toks,drawn:=s'.drawn }:Shared)=s':=by
  obtain ⟨a,b,c,d,e⟩:=s'
  simp only at hg ho
  subst hg;subst ho
  rfl
 rw [es'] at I3
 refine ⟨.ref l,_,I3,rfl,q ks' ps l a1 (fun i hi2=>(a2 i hi2).2) (fun k=>?_) a4 l64 (I1.hok.fresh (Nat.le_trans sz1 hl2))⟩
 rw [a3 k,metG_mem]
 constructor
 · rintro ⟨j,hj,rfl⟩
   exact gdm j hj
 · intro hk
   obtain ⟨j,hj,e⟩:=List.mem_iff_getElem.mp hk
   exact ⟨j,hj,by rw [List.getD_eq_getElem?_getD,List.getElem?_eq_getElem hj];exact e⟩
end
end L2
namespace My
open PySem PySem.Spec PyProof.Rows L2
noncomputable abbrev prD (k:Int×Int):PyData:=.tuple [.int k.1,.int k.2]
theorem reps_prs {ex:List Addr}{H:Hp}:∀ {rs:List (Int×Int)}{vs:List V},Reps ex H (rs.map prD) vs→∃ as:List Addr,vs=as.map V.ref∧as.length=rs.length∧∀ (i:Nat) (a:Addr) (r:Int×Int),as[i]? = some a→rs[i]? = some r→H a=some (.tup [.int r.1,.int r.2])∧Rep ex H (prD r) (.ref a)
 | [],_,.nil=>⟨[],rfl,rfl,fun i a r h=>by simp at h⟩
 | r::rs,_,.cons q t=>by
  obtain ⟨as,rfl,hl,h⟩:=reps_prs t
  have q0:=q
  cases q with
  | @tuple a xs ds e nm z rr=>
   cases rr with
   | cons r1 rr=>
    cases rr with
    | cons r2 rr=>
     cases rr
     cases r1
     cases r2
     refine ⟨a::as,rfl,by simp [hl],fun i b r' hb hr=>?_⟩
     cases i with
     | zero=>
      simp at hb hr
      subst hb hr
      exact ⟨e,q0⟩
     | succ i=>exact h i b r' (by simpa using hb) (by simpa using hr)
theorem reps_of {ex:List Addr}{H:Hp}:∀ {rs:List (Int×Int)}{as:List Addr},as.length=rs.length→(∀ i,i<rs.length→Rep ex H (prD (rs.getD i (0,0))) (.ref (as.getD i 0)))→Reps ex H (rs.map prD) (as.map V.ref)
 | [],[],_,_=>.nil
 | [],_::_,h,_=>by cases h
 | _::_,[],h,_=>by cases h
 | r::rs,a::as,h,hr=>.cons (hr 0 (by simp)) (reps_of (by simpa using h) fun i hi=>hr (i+1) (by simpa using hi))
noncomputable def fSortSetP:List PyData→(List PyData→Prop)→Prop:=fun ds P=>∃ ks:List (Int×Int),ds=[.list (ks.map prD)]∧(∀ k∈ks,SmallP k∧k.2≠0)∧∀ ks':List (Int×Int),(∀ k,k∈ks'↔k∈ks)→(ks'.map fun k=>8*k.1+k.2).Pairwise (· < ·)→ks'.length<64→P (ks'.map prD)
noncomputable instance cn_sortSetP:CN rSortSetP fSortSetP:=⟨fun {ex H xs ds Q P} r h k=>by
 obtain ⟨ks,rfl,hsm,hp⟩:=h
 cases r with
 | cons r1 t=>
  cases t
  cases r1 with
  | @list p vs _ e nm z rr=>
   obtain ⟨as,rfl,hl,ha⟩:=reps_prs rr
   refine ⟨p,as,ks,rfl,e,hl,fun i a r h1 h2=>(ha i a r h1 h2).1,hsm,fun ks' as' l hl' hj hm hs h64 hn=>k _ l _ (hp ks' hm hs h64) hn ?_ (reps_of hl' fun i hi=>?_)⟩
   · rw [List.length_map,sizeLine_eq];omega
   · obtain ⟨j,j1,j2⟩:=hj i hi
     exact (ha j _ _ j1 j2).2⟩
end My
namespace L2
open PySem PySem.Spec PyProof.Rows
noncomputable abbrev lc2 (elt tg1 iter1 tg2 iter2:Expr) (scope:Scope) (pos:Pos):Expr:=.ListComp elt [⟨tg1,iter1,[],0⟩,⟨tg2,iter2,[],0⟩] scope pos
theorem turn2_0 (elt tg1 iter1 tg2 iter2:Expr) (scope:Scope) (pos:Pos) (it acc:Value) (env:Env) :
 compTurn (lc2 elt tg1 iter1 tg2 iter2 scope pos) 0 it acc env=(standAt iter1.pos >>= fun _=>pyNext it >>= fun r=>match r with
  | none=>pure (.done .next)
  | some v=>letOwnedTupleGo tg1 it v >>= fun _=>assign tg1 env v >>= fun _=>
   eval iter2 env >>= fun x=>standAt iter2.pos >>= fun _=>foldedSetIterable iter2 env x >>= fun x=>holding [x] (pyIter x) >>= fun it2=>
    runOwn (.compStart (lc2 elt tg1 iter1 tg2 iter2 scope pos) 1 it2 acc env) env >>= fun _=>
    again (.compLoop (lc2 elt tg1 iter1 tg2 iter2 scope pos) 0 it acc env)):=by rfl
theorem turn2_1 (elt tg1 iter1 tg2 iter2:Expr) (scope:Scope) (pos:Pos) (it acc:Value) (env:Env) :
 compTurn (lc2 elt tg1 iter1 tg2 iter2 scope pos) 1 it acc env=(standAt iter2.pos >>= fun _=>pyNext it >>= fun r=>match r with
  | none=>pure (.done .next)
  | some v=>letOwnedTupleGo tg2 it v >>= fun _=>assign tg2 env v >>= fun _=>
   (eval elt env >>= fun x=>call (.builtin "list.append") [acc,x] >>= fun _=>pure ()) >>= fun _=>
    again (.compLoop (lc2 elt tg1 iter1 tg2 iter2 scope pos) 1 it acc env)):=by rfl
section
variable {prog:Program}{w:World}{A:Around}{R:Result→Shared→Prop}{s:Shared}{elt tg1 iter1 tg2 iter2:Expr}{scope:Scope}{pos:Pos}{it acc:Value}{env:Env}
theorem start2_1 (h0:codeAny (model prog w) A (.compLoop (lc2 elt tg1 iter1 tg2 iter2 scope pos) 1 it acc env) R s)
 (h:wpAny (model prog w) A (pyIter it) (fun it' s'=>codeAny (model prog w) A (.compLoop (lc2 elt tg1 iter1 tg2 iter2 scope pos) 1 it' acc env) R s') NoE s) :
 codeAny (model prog w) A (.compStart (lc2 elt tg1 iter1 tg2 iter2 scope pos) 1 it acc env) R s:=by
 refine codeAny_of_tree ?_
 show wpAny _ _ ((compStart (lc2 elt tg1 iter1 tg2 iter2 scope pos) 1 it acc env).onRaise (fun x=>do noteFrame x env;standAt theWindowsPlace)) _ _ s
 refine wpAny_notedAt ?_
 unfold compStart
 show wpAny _ _ (ask >>= _) _ _ s
 refine wpAny_bind (wpAny_askSetting (wpAny_ite ?_))
 split
 · exact wpAny_pure (And.intro rfl h0)
 · refine wpAny_bind (wpAny_rule ?_)
   show wpAny _ _ (standAt iter2.pos >>= _) _ _ s
   exact wpAny_bind (wpAny_standAt (wpAny_bind (wpAny_mono h (fun it' s' h'=>wpAny_pure (And.intro rfl h')) fun _ _ x=>x.elim)))
theorem loop2_1 (I:Nat→Shared→Prop)
 (turn:∀ n s,I n s→wpAny (model prog w) A (pyNext it) (fun r s₁=>match r with
  | none=>R (.ok .next) s₁
  | some v=>wpAny (model prog w) A (letOwnedTupleGo tg2 it v) (fun _ s₁'=>wpAny (model prog w) A (assign tg2 env v) (fun _ s₂=>
   wpAny (model prog w) A (eval elt env) (fun x s₄=>
    wpAny (model prog w) A (call (.builtin "list.append") [acc,x]) (fun _ s₅=>∃ m,m<n∧I m s₅) NoE s₄) NoE s₂) NoE s₁') NoE s₁) NoE s)
 (n:Nat) (h:I n s):codeAny (model prog w) A (.compLoop (lc2 elt tg1 iter1 tg2 iter2 scope pos) 1 it acc env) R s:=by
 refine codeAny_loop rfl I (fun n s hI=>?_) n h
 show wpAny _ A ((compTurn (lc2 elt tg1 iter1 tg2 iter2 scope pos) 1 it acc env).onRaise (fun x=>do noteFrame x env;theTreesLotGoes x)) _ _ s
 refine wpAny_noted ?_
 rw [turn2_1]
 refine wpAny_bind (wpAny_standAt (wpAny_bind (wpAny_mono (turn n s hI) (fun r s₁ h₁=>?_) fun _ _ f=>f.elim)))
 cases r with
 | none=>exact wpAny_pure h₁
 | some v=>
  refine wpAny_bind (wpAny_mono h₁ (fun _ s₁' h₁'=>wpAny_bind (wpAny_mono h₁' (fun _ s₂ h₂=>?_) fun _ _ f=>f.elim)) fun _ _ f=>f.elim)
  exact wpAny_bind (wpAny_bind (wpAny_mono h₂ (fun x s₄ h₄=>wpAny_bind (wpAny_mono h₄ (fun _ s₅ h₅=>wpAny_pure (wpAny_pure ⟨rfl,h₅⟩)) fun _ _ f=>f.elim)) fun _ _ f=>f.elim))
theorem loop2_0 (hfs:∀ x,foldedSetIterable iter2 env x=pure x) (I:Nat→Shared→Prop)
 (turn:∀ n s,I n s→wpAny (model prog w) A (pyNext it) (fun r s₁=>match r with
  | none=>R (.ok .next) s₁
  | some v=>wpAny (model prog w) A (letOwnedTupleGo tg1 it v) (fun _ s₁'=>wpAny (model prog w) A (assign tg1 env v) (fun _ s₂=>
   wpAny (model prog w) A (eval iter2 env) (fun x s₃=>wpAny (model prog w) A (pyIter x) (fun it2 s₄=>
    codeAny (model prog w) A (.compStart (lc2 elt tg1 iter1 tg2 iter2 scope pos) 1 it2 acc env) (fun r s₅=>match r with | .ok _=>∃ m,m<n∧I m s₅ | .error _=>False) s₄) NoE s₃) NoE s₂) NoE s₁') NoE s₁) NoE s)
 (n:Nat) (h:I n s):codeAny (model prog w) A (.compLoop (lc2 elt tg1 iter1 tg2 iter2 scope pos) 0 it acc env) R s:=by
 refine codeAny_loop rfl I (fun n s hI=>?_) n h
 show wpAny _ A ((compTurn (lc2 elt tg1 iter1 tg2 iter2 scope pos) 0 it acc env).onRaise (fun x=>do noteFrame x env;theTreesLotGoes x)) _ _ s
 refine wpAny_noted ?_
 rw [turn2_0]
 refine wpAny_bind (wpAny_standAt (wpAny_bind (wpAny_mono (turn n s hI) (fun r s₁ h₁=>?_) fun _ _ f=>f.elim)))
 cases r with
 | none=>exact wpAny_pure h₁
 | some v=>
  refine wpAny_bind (wpAny_mono h₁ (fun _ s₁' h₁'=>wpAny_bind (wpAny_mono h₁' (fun _ s₂ h₂=>?_) fun _ _ f=>f.elim)) fun _ _ f=>f.elim)
  refine wpAny_bind (wpAny_mono h₂ (fun x s₃ h₃=>wpAny_bind (wpAny_standAt ?_)) fun _ _ f=>f.elim)
  rw [hfs x]
  refine wpAny_bind (wpAny_pure (wpAny_bind (wpAny_holding (wpAny_mono h₃ (fun it2 s₄ h₄=>?_) fun _ _ f=>f.elim))))
  refine wpAny_bind (wpAny_runOwn (codeAny_mono h₄ fun r s₅ h₅=>?_))
  cases r with
  | ok f=>exact wpAny_pure ⟨rfl,h₅⟩
  | error e=>exact h₅.elim
end
noncomputable def cIn (J:It) (g:TG) (te:TE) (l:Addr) (σ0:St) (H0:Hp) (Q:St→Hp→Prop):Prop:=
 ∃ W:Nat→Nat→St→Hp→Prop,(∃ m,W 0 m σ0 H0)∧∀ i m σ H,W i m σ H →
  (J.stop i H∧Q σ H)∨(J.go i H∧∀ x H',J.yld i H x H'→g x σ H' fun σ2 H2=>te σ2 H2 fun y H4=>∃ xs,H4 l=some (.lst xs)∧xs.length<sizeLine∧∃ m',m'<m∧W (i+1) m' σ2 (upd H4 l (.lst (xs++[y]))))
noncomputable def cTurns2 (J:It) (g1:TG) (wi2:TI) (g2:TG) (te:TE) (l:Addr) (σ0:St) (H0:Hp) (Q:Hp→Prop):Prop:=
 ∃ W:Nat→Nat→St→Hp→Prop,(∃ m,W 0 m σ0 H0)∧∀ i m σ H,W i m σ H →
  (J.stop i H∧Q H)∨(J.go i H∧∀ x H',J.yld i H x H'→g1 x σ H' fun σ2 H2=>wi2 σ2 H2 fun J2 H3=>cIn J2 g2 te l σ2 H3 fun σ4 H4=>∃ m',m'<m∧W (i+1) m' σ4 H4)
noncomputable def tComp2c (wi:TI) (k:Nat) (idx:List Nat) (g1:TG) (wi2:TI) (g2:TG) (te:TE):TE:=fun σ H Q=>wi σ H fun J H1=>∀ l,H1 l=none→cTurns2 J g1 wi2 g2 te l (startC k idx σ) (upd H1 l (.lst [])) fun H2=>Q (.ref l) H2
section
variable {X:Cx}{tg1 iter1 tg2 iter2 elt:Expr}{scope sc:Scope}{N N':List Str}{k:Nat}{idx:List Nat}{wi wi2:TI}{g1 g2:TG}{te:TE}{pos:Pos}
theorem comp_block2 {pins:List (Addr×Obj)}{s:Shared}{σ:St}{E:Value→Shared→Prop}{RR:Value→Addr→Result→Shared→Prop}{itv:Value}{Qe:Addr→Hp→Prop}
 (hc:X.calm=true) (S:CompScope sc N scope N' k idx) (hsc:X.env.scope=sc) (hNN:X.N=N)
 (hg1:∀ C s H fp,PG (cxComp X N' scope C s H fp) tg1 g1) (hi2:∀ C s H fp,PI (cxComp X N' scope C s H fp) tg2 iter2 wi2) (hg2:∀ C s H fp,PG (cxComp X N' scope C s H fp) tg2 g2) (he:∀ C s H fp,PE (cxComp X N' scope C s H fp) elt te)
 (hfs:∀ C s H fp x,foldedSetIterable iter2 (cxComp X N' scope C s H fp).env x=pure x)
 (hit:PIE X pins σ tg1 (fun J H1=>∀ l,H1 l=none→cTurns2 J g1 wi2 g2 te l (startC k idx σ) (upd H1 l (.lst [])) fun H2=>Qe l H2) itv s)
 (hRR:∀ l H2 C s2,Inv X pins σ H2 s2→(∃ m,s2.heap.Ns C m)→Free1 X pins H2 C→Qe l H2→RR (.ref l) C (.ok .next) s2) :
 wpAny (model X.prog X.w) X.A (newList []) (fun acc s₃=>wpAny (model X.prog X.w) X.A (newFunctionEnv scope X.env.globals (closeL X.env scope.names []) [] X.env.qual none .none (some X.env)) (fun cenv s₄=>
  codeAny (model X.prog X.w) X.A (.compStart (lc2 elt tg1 iter1 tg2 iter2 scope pos) 0 itv acc { cenv with scope:=relabel scope X.env }) (RR acc cenv.locals) s₄) E s₃) E s:=by
 obtain ⟨it,fp,tn,J,H1,rfl,I1,T,st1,f1,q⟩:=hit
 refine wpAny_newObj_type ?_
 have hf0:H1 s.heap.objs.size=none:=I1.hok.fresh (Nat.le_refl _)
 have hflt:∀ b∈fp,b<s.heap.objs.size:=fun b hb=>let ⟨_,e,_⟩:=T.obj _ _ st1 b hb;Heap.lt_size e
 generalize hl:s.heap.objs.size=l at *
 have I2:Inv X pins σ (upd H1 l (.lst [])) { s with heap:=s.heap.push { cls:=.type "list",dict:=none,data:=.seq ([]:List Value).toArray } }:=
  I1.laid (t':=s.toks) (fun b u e=>Heap.get?_push_of_some _ e) (Nat.le_of_eq hl) (show ObjOk _ _ _ _ l (.lst []) from ⟨Nat.zero_le _,[],0,.nil,by rw [← hl];exact Heap.get?_push_size _ rfl⟩)
 have st2:tn 0 (s.heap.push { cls:=.type "list",dict:=none,data:=.seq ([]:List Value).toArray }):=T.keep _ _ _ st1 fun b _ o e=>Heap.get?_push_of_some _ e
 have f2:∀ b∈fp,FpOk X pins (upd H1 l (.lst [])) b:=fun b hb=>⟨by rw [upd_ne (Nat.ne_of_lt (hflt b hb))];exact (f1 b hb).1,(f1 b hb).2⟩
 have hsz2:(s.heap.push { cls:=.type "list",dict:=none,data:=.seq ([]:List Value).toArray }).objs.size=l+1:=by rw [Heap.size_push,hl]
 have q2:=q l hf0
 generalize hs2:({ s with heap:=s.heap.push { cls:=.type "list",dict:=none,data:=.seq ([]:List Value).toArray } }:Shared)=s2 at I2 ⊢
 have st2:tn 0 s2.heap:=by rw [← hs2];exact st2
 have hsz2:s2.heap.objs.size=l+1:=by rw [← hs2];exact hsz2
 refine wpAny_newFunctionEnv S.nocell (by intro y hy;simp at hy) (fun h₁ hns₁ hsb₁=>?_) S.kind
 have hk1:∀ b o,s2.heap.get? b=some o→h₁.get? b=some o:=fun b o e=>hsb₁.extBut b o (Nat.ne_of_lt (Heap.lt_size e)) (Heap.get?_push_of_some _ e)
 have hlt2:∀ b∈fp,b<s2.heap.objs.size:=fun b hb=>by rw [hsz2];exact Nat.lt_succ_of_lt (hflt b hb)
 have I3:=comp_start (t':=s2.toks+([]:List (Str×Value)).length) I2 S hsc hNN f2 hlt2 (by simpa using hns₁) hk1
 generalize hC:s2.heap.objs.size=C at *
 have st3:tn 0 h₁:=T.keep _ _ _ st2 fun b _ o e=>hk1 b o e
 obtain ⟨W,⟨m0,w0⟩,turn⟩:=q2
 have back:∀ {σ':St} {H':Hp} {s':Shared},Inv (cxComp X N' scope C s2 (upd H1 l (.lst [])) fp) [] σ' H' s'→Inv X pins σ H' s':=fun {σ' H' s'} I'=>
  I2.call' I'.os I'.base I'.hok I'.bare fun b hb=>⟨(f2 b hb).2.2.2.1,(f2 b hb).2.1,(f2 b hb).2.2.2.2.1,(f2 b hb).2.2.2.2.2⟩
 have loop:∀ s₃:Shared,s₃ = { s2 with heap:=h₁,toks:=s2.toks+([]:List (Str×Value)).length } →
  codeAny (model X.prog X.w) X.A (.compLoop (lc2 elt tg1 iter1 tg2 iter2 scope pos) 0 (.ref it) (.ref l) (compEnvC scope (closeL X.env scope.names []) C X.env)) (RR (.ref l) C) s₃:=by
  rintro s₃ rfl
  refine loop2_0 (hfs C s2 (upd H1 l (.lst [])) fp) (fun n s'=>∃ i σ' H',Inv (cxComp X N' scope C s2 (upd H1 l (.lst [])) fp) [] σ' H' s'∧tn i s'.heap∧(∀ b∈fp,H' b=none)∧W i n σ' H') ?_ m0 ⟨0,_,_,I3,st3,fun b hb=>(f2 b hb).1,w0⟩
  rintro n s4 ⟨i,σ4,H4,I4,st4,fr4,w4⟩
  have stat:∀ {H':Hp},(∀ b∈fp,H' b=none)→∀ b∈fp,FpOk (cxComp X N' scope C s2 (upd H1 l (.lst [])) fp) [] H' b:=fun {H'} hn b hb=>
   ⟨hn b hb,(I4.ok.exf b hb).1,I4.ok.exfs b hb,.inl hb,(I4.ok.exf b hb).2,fun p hp=>by cases hp⟩
  rcases turn i n σ4 H4 w4 with ⟨stop,qn⟩ | ⟨go,step⟩
  · refine thn (T.done (cxComp X N' scope C s2 (upd H1 l (.lst [])) fp) rfl rfl rfl hc i [] s4 σ4 H4 NoE I4 (stat fr4) st4 stop) fun r s5 ⟨hr,I5⟩=>?_
    subst hr
    have IX:=back I5
    have hCl:C≠X.env.locals:=fun e=>by
     have:=I2.lt
     rw [hC,← e] at this
     exact Nat.lt_irrefl _ this
    have hCc:∀ x c,X.env.cells.lookup x=some c→c≠C:=fun x c e z=>by
     obtain ⟨v,o,ho,_⟩:=I2.cell x c e
     have:=Heap.lt_size ho
     rw [hC,z] at this
     exact Nat.lt_irrefl _ this
    obtain ⟨m5,hm5,_⟩:=I5.loc
    refine hRR l H4 C s5 IX ⟨m5,hm5⟩ ⟨hCl,hCc,I5.free,by rw [← hC];exact I2.sz,fun p hp z=>?_⟩ qn
    obtain ⟨e,_⟩:=I2.pin p hp
    have:=Heap.lt_size e
    rw [hC,z] at this
    exact Nat.lt_irrefl _ this
  · refine thn (T.item (cxComp X N' scope C s2 (upd H1 l (.lst [])) fp) rfl rfl rfl hc i [] s4 σ4 H4 NoE I4 (stat fr4) st4 go) fun r s5 ⟨u,hr,h5⟩=>?_
    subst hr
    refine thn h5 fun _ s6 ⟨x,H6,I6,r6,y6,st6,fr6⟩=>?_
    have I6':=I6.pinned (stat fr6) (T.obj _ _ st6)
    have keepT:∀ {σ7:St} {H7:Hp} {s7:Shared},Inv (cxComp X N' scope C s2 (upd H1 l (.lst [])) fp) ([]++pinsAt fp s6.heap) σ7 H7 s7→tn (i+1) s7.heap∧∀ b∈fp,H7 b=none:=fun {σ7 H7 s7} I7=>
     ⟨T.keep _ _ _ st6 fun b hb o e=>(I7.pin (b,o) (List.mem_append_right _ (List.mem_append_right _ (mem_pinsAt hb e)))).1,fun b hb=>by
      obtain ⟨o,e,d⟩:=T.obj _ _ st6 b hb
      exact (I7.pin (b,o) (List.mem_append_right _ (List.mem_append_right _ (mem_pinsAt hb e)))).2.1⟩
    generalize hpn:([]:List (Addr×Obj))++pinsAt fp s6.heap=pn6 at I6' keepT
    refine thn (hg1 C s2 (upd H1 l (.lst [])) fp _ s6 σ4 H6 x u _ I6' r6 (step x H6 y6)) fun _ s7 ⟨σ7,H7,I7,q7⟩=>?_
    refine thn (hi2 C s2 (upd H1 l (.lst [])) fp _ s7 σ7 H7 _ I7 q7) fun v s8 h8=>thn h8 fun itv2 s9 h9=>?_
    obtain ⟨it2,fp2,tn2,J2,H9,rfl,I9,T2,st9,f9,W2,⟨m2,w2⟩,turn2⟩:=h9
    have stat2:∀ {H':Hp},(∀ b∈fp2,H' b=none)→∀ b∈fp2,FpOk (cxComp X N' scope C s2 (upd H1 l (.lst [])) fp) pn6 H' b:=fun {H'} hn b hb=>⟨hn b hb,(f9 b hb).2⟩
    have inner:∀ s₃:Shared,(∃ σ9 H9',Inv (cxComp X N' scope C s2 (upd H1 l (.lst [])) fp) pn6 σ9 H9' s₃∧tn2 0 s₃.heap∧(∀ b∈fp2,H9' b=none)∧W2 0 m2 σ9 H9')→codeAny (model X.prog X.w) X.A (.compLoop (lc2 elt tg1 iter1 tg2 iter2 scope pos) 1 (.ref it2) (.ref l) (compEnvC scope (closeL X.env scope.names []) C X.env)) (fun r s₅=>match r with | .ok _=>∃ m,m<n∧∃ i σ' H',Inv (cxComp X N' scope C s2 (upd H1 l (.lst [])) fp) [] σ' H' s₅∧tn i s₅.heap∧(∀ b∈fp,H' b=none)∧W i m σ' H' | .error _=>False) s₃:=by
     rintro s₃ ⟨σ9,H9',I9',st9',fr9',w9'⟩
     refine loop2_1 (fun n s'=>∃ i σ' H',Inv (cxComp X N' scope C s2 (upd H1 l (.lst [])) fp) pn6 σ' H' s'∧tn2 i s'.heap∧(∀ b∈fp2,H' b=none)∧W2 i n σ' H') ?_ m2 ⟨0,_,_,I9',st9',fr9',w9'⟩
     rintro n2 t4 ⟨j,ρ4,G4,L4,ut4,gr4,v4⟩
     rcases turn2 j n2 ρ4 G4 v4 with ⟨stop2,qn2⟩ | ⟨go2,step2⟩
     · refine thn (T2.done (cxComp X N' scope C s2 (upd H1 l (.lst [])) fp) rfl rfl rfl hc j pn6 t4 ρ4 G4 NoE L4 (stat2 gr4) ut4 stop2) fun r t5 ⟨hr,L5⟩=>?_
       subst hr
       obtain ⟨m',hm,w9⟩:=qn2
       have kt:=keepT L5
       rw [← hpn] at L5
       exact ⟨m',hm,i+1,ρ4,G4,L5.unpinned,kt.1,kt.2,w9⟩
     · refine thn (T2.item (cxComp X N' scope C s2 (upd H1 l (.lst [])) fp) rfl rfl rfl hc j pn6 t4 ρ4 G4 NoE L4 (stat2 gr4) ut4 go2) fun r t5 ⟨u2,hr,h5⟩=>?_
       subst hr
       refine thn h5 fun _ t6 ⟨x2,G6,L6,p6,y6',ut6,gr6⟩=>?_
       have L6':=L6.pinned (stat2 gr6) (T2.obj _ _ ut6)
       have keepT2:∀ {σ7:St} {H7:Hp} {s7:Shared},Inv (cxComp X N' scope C s2 (upd H1 l (.lst [])) fp) (pn6++pinsAt fp2 t6.heap) σ7 H7 s7→tn2 (j+1) s7.heap∧∀ b∈fp2,H7 b=none:=fun {σ7 H7 s7} I7=>
        ⟨T2.keep _ _ _ ut6 fun b hb o e=>(I7.pin (b,o) (List.mem_append_right _ (List.mem_append_right _ (mem_pinsAt hb e)))).1,fun b hb=>by
         obtain ⟨o,e,d⟩:=T2.obj _ _ ut6 b hb
         exact (I7.pin (b,o) (List.mem_append_right _ (List.mem_append_right _ (mem_pinsAt hb e)))).2.1⟩
       refine thn (hg2 C s2 (upd H1 l (.lst [])) fp _ t6 ρ4 G6 x2 u2 _ L6' p6 (step2 x2 G6 y6')) fun _ t7 ⟨ρ7,G7,L7,q7'⟩=>?_
       refine thn (he C s2 (upd H1 l (.lst [])) fp _ t7 ρ7 G7 _ L7 q7') fun v t9 ⟨y,G9,L9,r9,xs,e9,z9,m',hm,w9⟩=>?_
       refine thn (mt_append _ t9 ρ7 G9 (.ref l) [y] (.ref l) [v] (fun z H10=>z = .non∧H10=upd G9 l (.lst (xs++[y]))) L9 rfl (.cons r9 .nil) ⟨l,xs,y,rfl,rfl,e9,z9,rfl,rfl⟩) fun _ t10 ⟨z,H10,L10,_,_,e10⟩=>?_
       subst e10
       have kt:=keepT2 L10
       exact ⟨m',hm,j+1,ρ7,_,L10.unpinned,kt.1,kt.2,w9⟩
    have st0:∃ σ9 H9',Inv (cxComp X N' scope C s2 (upd H1 l (.lst [])) fp) pn6 σ9 H9' s9∧tn2 0 s9.heap∧(∀ b∈fp2,H9' b=none)∧W2 0 m2 σ9 H9':=⟨σ7,H9,I9,st9,fun b hb=>(f9 b hb).1,w2⟩
    exact start2_1 (inner s9 st0) (T2.self _ 0 _ _ _ st9 (inner s9 st0))
 have e2:(newEnv scope C X.env.globals (closeL X.env scope.names []) X.env.qual none .none (some X.env) builtinsNs).locals=C:=rfl
 show codeAny _ _ (.compStart _ 0 (.ref it) (.ref l) (compEnvC scope (closeL X.env scope.names []) C X.env)) (RR (.ref l) C) _
 exact codeAny_compStart_list (loop _ rfl) (T.self _ 0 _ _ _ st3 (loop _ rfl))
theorem pe_comp2c (hc:X.calm=true) (S:CompScope sc N scope N' k idx) (hsc:X.env.scope=sc) (hNN:X.N=N) (hi:PI X tg1 iter1 wi)
 (hg1:∀ C s H fp,PG (cxComp X N' scope C s H fp) tg1 g1) (hi2:∀ C s H fp,PI (cxComp X N' scope C s H fp) tg2 iter2 wi2) (hg2:∀ C s H fp,PG (cxComp X N' scope C s H fp) tg2 g2) (he:∀ C s H fp,PE (cxComp X N' scope C s H fp) elt te)
 (hs:∀ x,foldedSetIterable iter1 X.env x=pure x:=by intro _;rfl) (hfs:∀ C s H fp x,foldedSetIterable iter2 (cxComp X N' scope C s H fp).env x=pure x:=by intro _ _ _ _ _;rfl):PE X (lc2 elt tg1 iter1 tg2 iter2 scope pos) (tComp2c wi k idx g1 wi2 g2 te):=by
 intro pins s σ H Q I h
 rw [eval_ListComp]
 have hclos:closureFor scope X.env=pure (closeL X.env scope.names []):=closureFor_eq fun x hx hfree=>I.ok.has x.1 (by
  show X.env.scope.names.lookup x.1=_∨X.env.scope.names.lookup x.1=_
  rw [hsc];exact S.fr x hx hfree)
 refine wpAny_comprehension_free (use:=none) rfl hs hclos S.kind S.loc (thn (hi pins s σ H _ I h) fun v s1 h1=>thn h1 fun itv s2 h2=>?_)
 refine comp_block2 (RR:=fun acc C=>compPost (model X.prog X.w) X.A X.xe none (EP X pins σ Q) acc C) (Qe:=fun l H2=>Q (.ref l) H2) hc S hsc hNN hg1 hi2 hg2 he hfs h2 ?_
 intro l H2 C s2 I2 hm f q
 obtain ⟨m,hm⟩:=hm
 exact ⟨m,hm,fun h' hs'=>⟨.ref l,H2,I2.freed f hs',rfl,q⟩⟩
end
end L2
namespace My
open PySem PySem.Spec PyProof.Rows L2
noncomputable def isPl:Vl→Bool
 | .jnk=>true
 | .d _=>true
 | _=>false
theorem ev_pl {S:Src}{ex:List Addr}{je:List Vl}{σ0 σ':L2.St}{H1 H2:Hp}{n1 n2:Nat}{ks:List Nat}(E:Ev S ex je σ0 H1 n1) (pl:je.all isPl=true) (kp:Kp ex H1 H2) (al:Alc ex H2) (iv:S.inv n2 H2) (hj:∀ j∈ks,je[j]? = some .jnk) (hs:∀ j:Nat,j∉ks→σ'[j]? = σ0[j]?) (hz:σ'.length = σ0.length):Ev S ex je σ' H2 n2:=by
 refine ⟨by rw [hz];exact E.len,fun j w e=>?_,E.ch,al,iv⟩
 by_cases hjk:j∈ks
 · rw [hj j hjk] at e;cases e;trivial
 · rw [hs j hjk]
   have h:=E.sl j w e
   have hp:=List.all_eq_true.mp pl w (List.mem_of_getElem? e)
   cases w with
   | jnk=>trivial
   | d x=>obtain ⟨v,e,r⟩:=h;exact ⟨v,e,r.keep kp⟩
   | _=>cases hp
noncomputable def flW (f:PyData→Nat→(List PyData→Nat→Prop)→Prop):List PyData→Nat→(List PyData→Nat→Prop)→Prop
 | [],n,Q=>Q [] n
 | x::xs,n,Q=>f x n fun ys n1=>flW f xs n1 fun zs n2=>Q (ys++zs) n2
noncomputable abbrev gTurnT (bd:GG) (ge:GE) (env:List Vl):PyData→Nat→(Option PyData→Nat→Prop)→Prop:=fun x n Q=>bd x env fun env'=>ge env' n fun y n2=>Q (some y) n2
noncomputable abbrev gIn2 (ks2:List Nat) (bd1:GG) (gi2:GN) (bd2:GG) (ge:GE) (env:List Vl):PyData→Nat→(List PyData→Nat→Prop)→Prop:=fun x n Q=>bd1 x env fun env'=>(env'.all isPl=true∧∀ i∈ks2,env'[i]? = some .jnk)∧gi2 env' n fun items2 n2=>items2.length≤1000∧cmpW (gTurnT bd2 ge env') items2 n2 Q
noncomputable abbrev gComp2c (gi:GN) (k:Nat) (idx:List Nat) (ks1:List Nat) (bd1:GG) (gi2:GN) (ks2:List Nat) (bd2:GG) (ge:GE):GN:=fun env n Q=>gi env n fun items n1=>(ks1.all (fun i=>decide (i<k))=true∧ks2.all (fun i=>decide (i<k))=true∧items.length≤1000)∧flW (gIn2 ks2 bd1 gi2 bd2 ge (jenv k idx env)) items n1 Q
noncomputable instance nv_comp2c {wi wi2:TI}{gi gi2:GN}{k:Nat}{idx ks1 ks2:List Nat}{g1 g2:TG}{bd1 bd2:GG}{te:TE}{ge:GE} [I:IC wi gi] [G1:GV g1 bd1 ks1] [I2:IV wi2 gi2] [G2:GV g2 bd2 ks2] [A:EV true te ge]:NV (tComp2c wi k idx g1 wi2 g2 te) (gComp2c gi k idx ks1 bd1 gi2 ks2 bd2 ge):=⟨fun {S ex env σ H n Q P} E h kk=>by
 have hsl0:sizeLine=16777216:=sizeLine_eq
 refine I.ic E h fun items n1 J H1 hc s1 hit l hl=>?_
 obtain ⟨⟨hk1,hk2,hz⟩,hc⟩:=hc
 have E1:=ev_inner (E.step s1) k idx
 have lch:l∉S.ch:=fun z=>S.dom s1.2 l z hl
 have hkk1:∀ i∈ks1,i<k:=fun i hi=>of_decide_eq_true (List.all_eq_true.mp hk1 i hi)
 have hkk2:∀ i∈ks2,i<k:=fun i hi=>of_decide_eq_true (List.all_eq_true.mp hk2 i hi)
 refine ⟨fun i m σ' H2=>i≤items.length∧m=items.length-i∧∃ (n2:Nat) (ds:List PyData) (vs:List V),flW (gIn2 ks2 bd1 gi2 bd2 ge (jenv k idx env)) (items.drop i) n2 (fun ys n'=>P (ds++ys) n')∧Kp (l::S.ch) H1 H2∧H2 l=some (.lst vs)∧vs.length≤1000*i∧Reps (l::ex) H2 ds vs∧S.inv n2 H2∧(∀ j:Nat,k≤j→σ'[j]? = (startC k idx σ)[j]?)∧σ'.length=(startC k idx σ).length,
  ⟨items.length,Nat.zero_le _,rfl,n1,[],[],by simpa using hc,Kp.new hl _,upd_same,Nat.le_refl _,.nil,S.keep s1.2 fun b _ o' e=>Kp.new (ex:=[]) hl _ _ _ e (by simp),fun _ _=>rfl,rfl⟩,?_⟩
 rintro i m σ' H2 ⟨hi,rfl,n2,ds,vs,hcm,kp,h2l,hvl,rs,iv2,hsl,hln⟩
 have E2:Ev S (l::ex) (jenv k idx env) σ' H2 n2:=ev_turn E1 hl kp (by rw [h2l];intro z;cases z) iv2 jenv_jnk hsl hln
 have IT:=hit l H2 hl kp E2.al
 rcases Nat.lt_or_ge i items.length with hlt | hge
 · refine .inr ⟨(IT.2 i items[i] (List.getElem?_eq_getElem hlt)).1,fun x H3 y=>?_⟩
   obtain ⟨kp3,rx⟩:=(IT.2 i items[i] (List.getElem?_eq_getElem hlt)).2 x H3 y
   rw [List.drop_eq_getElem_cons hlt] at hcm
   have st3:Step S n2 H2 H3:=Step.new E2.inv kp3
   have E3:=E2.step st3
   refine G1.gv E3 rx hcm fun env' σ2 ht E4 _ hs hl2=>?_
   obtain ⟨⟨hpl,hjn⟩,ht⟩:=ht
   refine I2.iv E4 ht fun items2 n5 J2 hd H5 h5 s5 hr hit2=>?_
   obtain ⟨hz2,h5⟩:=h5
   have E5:=E4.step s5
   have k35:=st3.trans s5
   have h5l:H5 l=some (.lst vs):=k35.1 _ _ h2l lch
   have rs5:Reps (l::ex) H5 ds vs:=rs.keep (k35.1.mono E2.ch)
   refine ⟨fun j m2 ρ G=>j≤items2.length∧m2=items2.length-j∧∃ (n6:Nat) (es:List PyData) (us:List V),cmpW (gTurnT bd2 ge env') (items2.drop j) n6 (fun ys n'=>flW (gIn2 ks2 bd1 gi2 bd2 ge (jenv k idx env)) (items.drop (i+1)) n' fun zs n''=>P (ds++((es++ys)++zs)) n'')∧Kp (l::S.ch) H5 G∧G l=some (.lst (vs++us))∧us.length≤j∧Reps (l::ex) G es us∧S.inv n6 G∧(∀ j:Nat,j∉ks2→ρ[j]? = σ2[j]?)∧ρ.length = σ2.length,
    ⟨items2.length,Nat.zero_le _,rfl,n5,[],[],by simpa using h5,Kp.refl,by rw [List.append_nil];exact h5l,Nat.le_refl _,.nil,s5.2,fun _ _=>rfl,rfl⟩,?_⟩
   rintro j m2 ρ G ⟨hj,rfl,n6,es,us,hcm2,kpG,hGl,hul,rsG,ivG,hρ,hρl⟩
   have kpx:Kp (l::ex) H5 G:=kpG.mono fun b hb=>(List.mem_cons.mp hb).elim (fun e=>by rw [e];exact List.mem_cons_self) fun h=>E2.ch b h
   have alG:Alc (l::ex) G:=fun a ha=>by
    rcases List.mem_cons.mp ha with rfl | ha2
    · rw [hGl];intro z;cases z
    · by_cases hac:a∈S.ch
      · exact S.dom ivG a hac
      · intro z
        cases e:H5 a with
        | none=>exact E5.al a ha e
        | some o=>
         by_cases hal:a=l
         · rw [hal,hGl] at z;cases z
         · rw [kpG a o e fun q=>(List.mem_cons.mp q).elim hal hac] at z
           cases z
   have EG:Ev S (l::ex) env' ρ G n6:=ev_pl E5 hpl kpx alG ivG hjn hρ hρl
   have IT2:=hit2 (l::ex) G alG fun h hh=>(hr h hh).keep kpx
   rcases Nat.lt_or_ge j items2.length with hlt2 | hge2
   · refine .inr ⟨(IT2.2 j items2[j] (List.getElem?_eq_getElem hlt2)).1,fun x2 G3 y2=>?_⟩
     obtain ⟨kp3',rx2⟩:=(IT2.2 j items2[j] (List.getElem?_eq_getElem hlt2)).2 x2 G3 y2
     rw [List.drop_eq_getElem_cons hlt2] at hcm2
     have st4:Step S n6 G G3:=Step.new EG.inv kp3'
     refine G2.gv (EG.step st4) rx2 hcm2 fun env2 ρ2 hte E6 _ hs2 hl3=>?_
     refine A.ev E6 hte fun d n7 v G5 h7 s7 r7=>?_
     have s27:=st4.trans s7
     have k7:Kp S.ch G G5:=s27.1
     have h7l:G5 l=some (.lst (vs++us)):=k7 _ _ hGl lch
     refine ⟨vs++us,h7l,by rw [List.length_append];omega,_,(?_:items2.length-(j+1)<_),hlt2,rfl,n7,es++[d],us++[v],?_,?_,?_,?_,?_,?_,fun i hi=>(hs2 i hi).trans (hρ i hi),hl3.trans hρl⟩
     · omega
     · simpa using h7
     · exact (kpG.trans (k7.mono fun b hb=>List.mem_cons_of_mem _ hb)).trans (Kp.at List.mem_cons_self _)
     · rw [upd_same,List.append_assoc]
     · rw [List.length_append,List.length_singleton];omega
     · have q1:Reps (l::ex) G5 es us:=rsG.keep (k7.mono E2.ch)
       exact (Reps.append q1 (.cons r7 .nil)).keep (Kp.at List.mem_cons_self _)
     · exact S.keep s27.2 fun b hb o e=>by rw [upd_ne (fun z=>lch (by rw [← z];exact hb))];exact e
   · have e:j=items2.length:=by omega
     subst e
     rw [List.drop_length] at hcm2
     have hcm2:flW (gIn2 ks2 bd1 gi2 bd2 ge (jenv k idx env)) (items.drop (i+1)) n6 (fun zs n''=>P (ds++((es++[])++zs)) n''):=hcm2
     refine .inl ⟨IT2.1,_,(?_:items.length-(i+1)<_),hlt,rfl,n6,ds++es,vs++us,?_,kp.trans ((k35.1.mono fun b hb=>List.mem_cons_of_mem _ hb).trans kpG),hGl,?_,Reps.append (rs5.keep kpx) rsG,ivG,fun j' hj'=>?_,?_⟩
     · omega
     · simpa using hcm2
     · rw [List.length_append];omega
     · rw [hρ j' (fun z=>by have:=hkk2 j' z;omega),hs j' (fun z=>by have:=hkk1 j' z;omega)]
       exact hsl j' hj'
     · rw [hρl,hl2];exact hln
 · have e:i=items.length:=by omega
   subst e
   rw [List.drop_length] at hcm
   refine .inl ⟨IT.1,kk _ _ _ _ _ (by simpa [flW] using hcm) ⟨fun b o e nb=>kp b o (s1.1 b o e nb) fun z=>(List.mem_cons.mp z).elim (fun e2=>by rw [e2,s1.free hl] at e;cases e) nb,iv2⟩ (s1.free hl) h2l (by omega) rs⟩⟩
end My
namespace L2
open PySem PySem.Spec PyProof.Rows
theorem pi_listK2 {X:Cx}{tg:Expr}{K':PySem.W.Frag}{e:Expr}{te:TE}(hK:X.K=K') (he:PE X e te):PI X tg e (iList K' te):=hK▸pi_list he
end L2
namespace My
open PySem PySem.Spec PyProof.Rows L2
structure Rg where
 gs:List (List Int)
 no:Bool
 fs:List Int
 ls:List Int
 ps:List (Int×Int)
noncomputable def crs (ls fs:List Int):List (Int×Int):=ls.flatMap fun i=>fs.map fun j=>(i,j)
noncomputable def rBehind (a b:Rg):Rg:=⟨a.gs++b.gs,a.no&&b.no,if a.no=true then a.fs++b.fs else a.fs,if b.no=true then a.ls++b.ls else b.ls,a.ps++b.ps++crs a.ls b.fs⟩
noncomputable def rEither (a b:Rg):Rg:=⟨a.gs++b.gs,a.no||b.no,a.fs++b.fs,a.ls++b.ls,a.ps++b.ps⟩
noncomputable def rOver (a:Rg):Rg:=⟨a.gs,true,a.fs,a.ls,a.ps++crs a.ls a.fs⟩
noncomputable def rg0 (s:Str):Rg:=⟨[],decide (s = "row"),[],[],[]⟩
noncomputable def rComb (s:Str) (a b:Rg):Rg:=if s = "row" then rBehind a b else rEither a b
noncomputable abbrev gD (g:List Int):PyData:=.tuple (g.map .int)
noncomputable abbrev rgD (r:Rg):PyData:=.tuple [.list (r.gs.map gD),.bool r.no,.list (r.fs.map .int),.list (r.ls.map .int),.list (r.ps.map prD)]
noncomputable def intsOfD:PyData→List Int
 | .tuple xs=>xs.filterMap fun x=>match x with | .int i=>some i | _=>none
 | _=>[]
theorem intsOfD_t (gs:List Int):intsOfD (gD gs)=gs:=by
 show (gs.map PyData.int).filterMap _=gs
 rw [List.filterMap_map]
 induction gs with
 | nil=>rfl
 | cons g gs ih=>rw [List.filterMap_cons];exact congrArg (g :: ·) ih
noncomputable def partsOfD:PyData→List PyData
 | .tuple ds=>ds
 | _=>[]
noncomputable def rdW:Nat→PyData→Int→Rg
 | 0,_,_=>rg0 ""
 | f+1,d,a=>match d with
  | .tuple [.str s,x]=>if s = "put" then ⟨[intsOfD x],false,[a+1],[a+1],[]⟩ else if s = "again" then rOver (rdW f x a) else (partsOfD x).foldl (fun r y=>rComb s r (rdW f y (a+(r.gs.length:Int)))) (rg0 s)
  | _=>rg0 ""
theorem rd_put (f:Nat) (gs:List Int) (a:Int):rdW (f+1) (putW gs) a=⟨[gs],false,[a+1],[a+1],[]⟩:=by
 rw [rdW]
 show (if ("put":Str) = "put" then _ else _)=_
 rw [if_pos rfl,intsOfD_t]
theorem rd_again (f:Nat) (e:PyData) (a:Int):rdW (f+1) (againW e) a=rOver (rdW f e a):=by
 rw [rdW]
 show (if ("again":Str) = "put" then _ else if ("again":Str) = "again" then _ else _)=_
 rw [if_neg w_again_put,if_pos rfl]
noncomputable def rdF (f:Nat) (s:Str) (a:Int) (ds:List PyData):Rg:=ds.foldl (fun r y=>rComb s r (rdW f y (a+(r.gs.length:Int)))) (rg0 s)
theorem rd_row {f:Nat}{s:Str}(hs:s = "row"∨s = "either") (ds:List PyData) (a:Int):rdW (f+1) (rowW s ds) a=rdF f s a ds:=by
 rw [rdW]
 show (if s = "put" then _ else if s = "again" then _ else _)=_
 rw [if_neg (rs_put hs),if_neg (rs_again hs)]
 rfl
theorem rdF_snoc (f:Nat) (s:Str) (a:Int) (ds:List PyData) (d:PyData):rdF f s a (ds++[d])=rComb s (rdF f s a ds) (rdW f d (a+((rdF f s a ds).gs.length:Int))):=by
 unfold rdF
 rw [List.foldl_append]
 rfl
theorem crs_mem {ls fs:List Int}{k:Int×Int}:k∈crs ls fs↔k.1∈ls∧k.2∈fs:=by
 unfold crs
 rw [List.mem_flatMap]
 constructor
 · rintro ⟨i,hi,h⟩
   obtain ⟨j,hj,rfl⟩:=List.mem_map.mp h
   exact ⟨hi,hj⟩
 · rintro ⟨h1,h2⟩
   exact ⟨k.1,h1,List.mem_map.mpr ⟨k.2,h2,rfl⟩⟩
theorem crs_len (ls fs:List Int):(crs ls fs).length=ls.length*fs.length:=by
 unfold crs
 induction ls with
 | nil=>simp
 | cons x ls ih=>rw [List.flatMap_cons,List.length_append,List.length_map,ih,List.length_cons,Nat.succ_mul,Nat.add_comm]
structure RgB (U:Int) (f m:Nat) (a:Int) (r:Rg):Prop where
 g:r.gs.length=m
 gl:∀ g∈r.gs,(g.length:Int)=U
 fn:r.fs.length≤m
 ln:r.ls.length≤m
 pn:r.ps.length≤f*(m*m)
 fb:∀ x∈r.fs,a<x∧x≤a+m
 lb:∀ x∈r.ls,a<x∧x≤a+m
 pb:∀ k∈r.ps,(a<k.1∧k.1≤a+m)∧(a<k.2∧k.2≤a+m)
theorem RgB.comb {U:Int}{f m m':Nat}{a:Int}{r q:Rg}{s:Str}(h1:RgB U (f+1) m a r) (h2:RgB U f m' (a+(r.gs.length:Int)) q):RgB U (f+1) (m+m') a (rComb s r q):=by
 have g1:=h1.g
 have sq:(f+1)*((m+m')*(m+m'))=(f+1)*(m*m)+(f+1)*(m'*m')+2*((f+1)*(m*m')):=by
  have:(m+m')*(m+m')=m*m+m'*m'+2*(m*m'):=by
   rw [Nat.add_mul,Nat.mul_add,Nat.mul_add,Nat.mul_comm m' m];omega
  rw [this,Nat.mul_add,Nat.mul_add,Nat.mul_left_comm (f+1) 2]
 have mm:m*m'≤(f+1)*(m*m'):=Nat.le_mul_of_pos_left _ (Nat.succ_pos _)
 have f1:f*(m'*m')≤(f+1)*(m'*m'):=Nat.mul_le_mul_right _ (Nat.le_succ _)
 have p1:=h1.pn
 have p2:=h2.pn
 have l1:=h1.ln
 have l2:=h2.ln
 have a1:=h1.fn
 have a2:=h2.fn
 have fb2:∀ x∈q.fs,a<x∧x≤a+((m+m':Nat):Int):=fun x hx=>by have:=h2.fb x hx;omega
 have lb2:∀ x∈q.ls,a<x∧x≤a+((m+m':Nat):Int):=fun x hx=>by have:=h2.lb x hx;omega
 have fb1:∀ x∈r.fs,a<x∧x≤a+((m+m':Nat):Int):=fun x hx=>by have:=h1.fb x hx;omega
 have lb1:∀ x∈r.ls,a<x∧x≤a+((m+m':Nat):Int):=fun x hx=>by have:=h1.lb x hx;omega
 have pb1:∀ k∈r.ps,(a<k.1∧k.1≤a+((m+m':Nat):Int))∧(a<k.2∧k.2≤a+((m+m':Nat):Int)):=fun k hk=>by have:=h1.pb k hk;omega
 have pb2:∀ k∈q.ps,(a<k.1∧k.1≤a+((m+m':Nat):Int))∧(a<k.2∧k.2≤a+((m+m':Nat):Int)):=fun k hk=>by have:=h2.pb k hk;omega
 have app:∀ {C:Int→Prop} {xs ys:List Int},(∀ x∈xs,C x)→(∀ x∈ys,C x)→∀ x∈xs++ys,C x:=fun h1 h2 x hx=>(List.mem_append.mp hx).elim (h1 x) (h2 x)
 unfold rComb
 split
 · refine ⟨?_,fun g hg=>(List.mem_append.mp hg).elim (h1.gl g) (h2.gl g),?_,?_,?_,?_,?_,fun k hk=>?_⟩
   · show (r.gs++q.gs).length=_
     rw [List.length_append,h1.g,h2.g]
   · show (if r.no=true then r.fs++q.fs else r.fs).length≤_
     split
     · rw [List.length_append];omega
     · omega
   · show (if q.no=true then r.ls++q.ls else q.ls).length≤_
     split
     · rw [List.length_append];omega
     · omega
   · show (r.ps++q.ps++crs r.ls q.fs).length≤_
     rw [List.length_append,List.length_append,crs_len]
     have:r.ls.length*q.fs.length≤m*m':=Nat.mul_le_mul l1 a2
     omega
   · show ∀ x∈(if r.no=true then r.fs++q.fs else r.fs),_
     split
     · exact app fb1 fb2
     · exact fb1
   · show ∀ x∈(if q.no=true then r.ls++q.ls else q.ls),_
     split
     · exact app lb1 lb2
     · exact lb2
   · have hk:k∈r.ps++q.ps++crs r.ls q.fs:=hk
     rcases List.mem_append.mp hk with hk | hk
     · rcases List.mem_append.mp hk with hk | hk
       · exact pb1 k hk
       · exact pb2 k hk
     · obtain ⟨c1,c2⟩:=crs_mem.mp hk
       exact ⟨lb1 _ c1,fb2 _ c2⟩
 · refine ⟨?_,fun g hg=>(List.mem_append.mp hg).elim (h1.gl g) (h2.gl g),?_,?_,?_,app fb1 fb2,app lb1 lb2,fun k hk=>?_⟩
   · show (r.gs++q.gs).length=_
     rw [List.length_append,h1.g,h2.g]
   · show (r.fs++q.fs).length≤_
     rw [List.length_append];omega
   · show (r.ls++q.ls).length≤_
     rw [List.length_append];omega
   · show (r.ps++q.ps).length≤_
     rw [List.length_append];omega
   · have hk:k∈r.ps++q.ps:=hk
     rcases List.mem_append.mp hk with hk | hk
     · exact pb1 k hk
     · exact pb2 k hk
theorem rg0_b {U:Int}{f:Nat}{a:Int}{s:Str}:RgB U (f+1) 0 a (rg0 s):=⟨rfl,fun g hg=>(by cases hg),Nat.le_refl _,Nat.le_refl _,Nat.zero_le _,fun x hx=>(by cases hx),fun x hx=>(by cases hx),fun x hx=>(by cases hx)⟩
theorem rd_b {U:Int}:∀ {f m:Nat}{d:PyData}{a:Int},Wd U f m d→RgB U f m a (rdW f d a)
 | 0,_,_,_,h=>h.elim
 | f+1,m,d,a,h=>by
  rcases h with ⟨gs,rfl,hl,hg,rfl⟩ | ⟨e,rfl,h⟩ | ⟨s,ms,ds,hs,rfl,hne,ha,rfl⟩
  · rw [rd_put]
    refine ⟨rfl,fun g hg=>by rw [List.mem_singleton.mp hg];exact hl,Nat.le_refl _,Nat.le_refl _,Nat.zero_le _,fun x hx=>?_,fun x hx=>?_,fun k hk=>(by cases hk)⟩
    · rw [List.mem_singleton.mp hx];omega
    · rw [List.mem_singleton.mp hx];omega
  · rw [rd_again]
    have b:=rd_b (a:=a) h
    refine ⟨b.g,b.gl,b.fn,b.ln,?_,b.fb,b.lb,fun k hk=>?_⟩
    · show ((rdW f e a).ps++crs (rdW f e a).ls (rdW f e a).fs).length≤_
      rw [List.length_append,crs_len,Nat.succ_mul]
      have:=Nat.mul_le_mul b.ln b.fn
      have:=b.pn
      omega
    · have hk:k∈(rdW f e a).ps++crs (rdW f e a).ls (rdW f e a).fs:=hk
      rcases List.mem_append.mp hk with hk | hk
      · exact b.pb k hk
      · obtain ⟨c1,c2⟩:=crs_mem.mp hk
        exact ⟨b.lb _ c1,b.fb _ c2⟩
  · rw [rd_row hs]
    have key:∀ {ms:List Nat} {ds:List PyData} {m0:Nat} {r:Rg},All2 (Wd U f) ms ds→RgB U (f+1) m0 a r→RgB U (f+1) (m0+ms.sum) a (ds.foldl (fun r y=>rComb s r (rdW f y (a+(r.gs.length:Int)))) r):=by
     intro ms
     induction ms with
     | nil=>
      intro ds m0 r h b
      cases ds with
      | nil=>exact b
      | cons _ _=>exact h.elim
     | cons m ms ih=>
      intro ds m0 r h b
      cases ds with
      | nil=>exact h.elim
      | cons d ds=>
       rw [List.sum_cons,← Nat.add_assoc]
       rw [List.foldl_cons]
       exact ih h.2 (b.comb (rd_b h.1))
    have:=key ha (rg0_b (U:=U) (f:=f) (a:=a) (s:=s))
    rw [Nat.zero_add] at this
    exact this
noncomputable def gsEvery:GSn:=fun as n Q=>∃ ls fs:List Int,as=[.d (.list (ls.map .int)),.d (.list (fs.map .int))]∧ls.length≤100∧fs.length≤100∧Q ((crs ls fs).map prD) n
structure RgS (r:Rg):Prop where
 g:r.gs.length≤100
 f:r.fs.length≤100
 l:r.ls.length≤100
 p:r.ps.length≤100000
noncomputable def gsBehindR:GSp:=fun as n Q=>∃ a b:Rg,as=[.d (rgD a),.d (rgD b)]∧RgS a∧RgS b∧Q (rgD (rBehind a b)) n
noncomputable def gsEitherR:GSp:=fun as n Q=>∃ a b:Rg,as=[.d (rgD a),.d (rgD b)]∧RgS a∧RgS b∧Q (rgD (rEither a b)) n
noncomputable def gsOverR:GSp:=fun as n Q=>∃ a:Rg,as=[.d (rgD a)]∧RgS a∧Q (rgD (rOver a)) n
noncomputable def gsReadW (f:Nat):GSp:=fun as n Q=>∃ (U:Int) (m:Nat) (d:PyData) (a:Int),as=[.d d,.d (.int a)]∧Wd U f m d∧m≤7∧f≤12∧Q (rgD (rdW f d a)) n
theorem flW_mapG {α:Type}{f:PyData→Nat→(List PyData→Nat→Prop)→Prop}{g:α→PyData}(h:α→List PyData):∀ {xs:List α}{n:Nat}{Q:List PyData→Nat→Prop},(∀ x∈xs,∀ n K,K (h x) n→f (g x) n K)→Q (xs.flatMap h) n→flW f (xs.map g) n Q
 | [],_,_,_,q=>q
 | x::xs,n,Q,st,q=>st x List.mem_cons_self n _ (flW_mapG h (fun y hy=>st y (List.mem_cons_of_mem _ hy)) q)
theorem RgB.s {U:Int}{f m:Nat}{a:Int}{r:Rg}(h:RgB U f m a r) (hm:m≤7) (hf:f≤13):RgS r:=by
 have g:=h.g
 have f1:=h.fn
 have l1:=h.ln
 have p1:=h.pn
 have p2:f*(m*m)≤13*(7*7):=Nat.mul_le_mul hf (Nat.mul_le_mul hm hm)
 exact ⟨by omega,by omega,by omega,by omega⟩
theorem rdF_b {U:Int}{f:Nat}{a:Int}{s:Str}:∀ {ms:List Nat}{ds:List PyData},All2 (Wd U f) ms ds→RgB U (f+1) ms.sum a (rdF f s a ds):=by
 have key:∀ {ms:List Nat} {ds:List PyData} {m0:Nat} {r:Rg},All2 (Wd U f) ms ds→RgB U (f+1) m0 a r→RgB U (f+1) (m0+ms.sum) a (ds.foldl (fun r y=>rComb s r (rdW f y (a+(r.gs.length:Int)))) r):=by
  intro ms
  induction ms with
  | nil=>
   intro ds m0 r h b
   cases ds with
   | nil=>exact b
   | cons _ _=>exact h.elim
  | cons m ms ih=>
   intro ds m0 r h b
   cases ds with
   | nil=>exact h.elim
   | cons d ds=>
    rw [List.sum_cons,← Nat.add_assoc,List.foldl_cons]
    exact ih h.2 (b.comb (rd_b h.1))
 intro ms ds h
 have:=key h (rg0_b (U:=U) (f:=f) (a:=a) (s:=s))
 rw [Nat.zero_add] at this
 exact this
theorem all2_takeH {α β:Type}{R:α→β→Prop}:∀ {as:List α}{bs:List β}(i:Nat),All2 R as bs→All2 R (as.take i) (bs.take i)
 | [],[],i,_=>by rw [List.take_nil,List.take_nil];trivial
 | a::as,b::bs,0,_=>trivial
 | a::as,b::bs,i+1,h=>⟨h.1,all2_takeH i h.2⟩
 | [],_::_,_,h=>h.elim
 | _::_,[],_,h=>h.elim
theorem sum_takeH (l:List Nat) (i:Nat):(l.take i).sum≤l.sum:=by
 conv=>rhs;rw [← List.take_append_drop i l,List.sum_append]
 omega
theorem rComb_gs (s:Str) (a b:Rg):(rComb s a b).gs=a.gs++b.gs:=by unfold rComb;split<;>rfl
theorem fold_gs {s:Str}{a:Int}{f:Nat}(ih:∀ y a,(rdW f y a).gs=(rdW f y 0).gs):∀ (ds:List PyData) (r:Rg),(ds.foldl (fun r y=>rComb s r (rdW f y (a+(r.gs.length:Int)))) r).gs=r.gs++ds.flatMap fun y=>(rdW f y 0).gs
 | [],r=>(List.append_nil _).symm
 | d::ds,r=>by
  rw [List.foldl_cons,fold_gs ih ds,rComb_gs,List.flatMap_cons,List.append_assoc,ih]
theorem rd_gs:∀ (f:Nat) (d:PyData) (a:Int),(rdW f d a).gs=(rdW f d 0).gs
 | 0,d,a=>rfl
 | f+1,d,a=>by
  unfold rdW
  split
  · split
    · rfl
    · split
      · exact rd_gs f _ a
      · rw [fold_gs (rd_gs f),fold_gs (rd_gs f)]
  · rfl
theorem rdF_gs (f:Nat) (s:Str) (a:Int) (ds:List PyData):(rdF f s a ds).gs=ds.flatMap fun y=>(rdW f y 0).gs:=by
 unfold rdF
 rw [fold_gs (rd_gs f)]
 rfl
theorem fold_up {U:Int}{s:Str}{a:Int}{f:Nat}(ih:∀ {m:Nat}{y:PyData}{a:Int},Wd U f m y→rdW (f+1) y a=rdW f y a):∀ {ms:List Nat}{ds:List PyData}{r:Rg},All2 (Wd U f) ms ds→ds.foldl (fun r y=>rComb s r (rdW (f+1) y (a+(r.gs.length:Int)))) r=ds.foldl (fun r y=>rComb s r (rdW f y (a+(r.gs.length:Int)))) r
 | [],[],_,_=>rfl
 | m::ms,d::ds,r,h=>by
  rw [List.foldl_cons,List.foldl_cons,ih h.1]
  exact fold_up ih h.2
 | [],_::_,_,h=>h.elim
 | _::_,[],_,h=>h.elim
theorem rd_up {U:Int}:∀ {f m:Nat}{d:PyData}{a:Int},Wd U f m d→rdW (f+1) d a=rdW f d a
 | 0,_,_,_,h=>h.elim
 | f+1,m,d,a,h=>by
  rcases h with ⟨gs,rfl,hl,hg,rfl⟩ | ⟨e,rfl,h⟩ | ⟨s,ms,ds,hs,rfl,hne,ha,rfl⟩
  · rw [rd_put,rd_put]
  · rw [rd_again,rd_again,rd_up h]
  · rw [rd_row hs,rd_row hs]
    exact fold_up (fun h=>rd_up h) ha
theorem rd_mono {U:Int}{f g m:Nat}{d:PyData}{a:Int}(h:Wd U f m d) (hg:f≤g):rdW g d a=rdW f d a:=by
 induction hg with
 | refl=>rfl
 | step hk ih=>rw [rd_up (h.mono hk),ih]
noncomputable def bookW (U:Int) (r:Rg) (ks:List (Int×Int)):PyData:=.tuple [.int ((r.gs.length:Int)+1),.int U,.tuple (ks.map fun k=>.tuple [.int k.1,.int k.2,gD (r.gs.getD (k.2-1).toNat [])])]
noncomputable def leadsR (r:Rg):List (Int×Int):=crs [0] r.fs++r.ps
noncomputable def gsWordBook:GSp:=fun as n Q=>∃ (U:Int) (m:Nat) (d:PyData),as=[.d d]∧Wd U 10 m d∧m≤7∧∀ (ks:List (Int×Int)) (os:List Int),(∀ k,k∈ks↔k∈leadsR (rdW 10 d 0))→(ks.map fun k=>8*k.1+k.2).Pairwise (· < ·)→os.Perm (if (rdW 10 d 0).no=true then (rdW 10 d 0).ls++[0] else (rdW 10 d 0).ls)→os.Pairwise (·≤·)→Q (.tuple [bookW U (rdW 10 d 0) ks,.list (os.map .int)]) n
theorem rising_key {α:Type}(key:α→Int):∀ {xs ys:List α},(xs.map key).Pairwise (· < ·)→(ys.map key).Pairwise (· < ·)→(∀ k,k∈xs↔k∈ys)→xs=ys
 | [],[],_,_,_=>rfl
 | [],y::ys,_,_,h=>absurd ((h y).mpr List.mem_cons_self) (by simp)
 | x::xs,[],_,_,h=>absurd ((h x).mp List.mem_cons_self) (by simp)
 | x::xs,y::ys,hx,hy,h=>by
  obtain ⟨x1,x2⟩:=List.pairwise_cons.mp hx
  obtain ⟨y1,y2⟩:=List.pairwise_cons.mp hy
  have exy:x=y:=by
   rcases List.mem_cons.mp ((h x).mp List.mem_cons_self) with z | z
   · exact z
   · have a:=y1 _ (List.mem_map.mpr ⟨x,z,rfl⟩)
     rcases List.mem_cons.mp ((h y).mpr List.mem_cons_self) with z2 | z2
     · exact z2.symm
     · have b:=x1 _ (List.mem_map.mpr ⟨y,z2,rfl⟩)
       omega
  subst exy
  rw [rising_key key x2 y2 fun k=>?_]
  constructor
  · intro hk
    rcases List.mem_cons.mp ((h k).mp (List.mem_cons_of_mem _ hk)) with z | z
    · have:=x1 _ (List.mem_map.mpr ⟨k,hk,rfl⟩);rw [z] at this;omega
    · exact z
  · intro hk
    rcases List.mem_cons.mp ((h k).mpr (List.mem_cons_of_mem _ hk)) with z | z
    · have:=y1 _ (List.mem_map.mpr ⟨k,hk,rfl⟩);rw [z] at this;omega
    · exact z
noncomputable def gridR (m:Nat) (i:Nat):List (Int×Int):=(List.range m).map fun (j:Nat)=>(((i:Nat):Int),1+((j:Nat):Int))
noncomputable def gridU (m:Nat) (i:Nat):List (Int×Int):=(List.range i).flatMap (gridR m)
theorem gridU_s (m i:Nat):gridU m (i+1)=gridU m i++gridR m i:=by
 unfold gridU
 rw [List.range_succ,List.flatMap_append,List.flatMap_cons,List.flatMap_nil,List.append_nil]
theorem gridR_mem {m i:Nat}{k:Int×Int}:k∈gridR m i↔k.1=i∧1≤k.2∧k.2≤m:=by
 unfold gridR
 rw [List.mem_map]
 constructor
 · rintro ⟨j,hj,rfl⟩
   have:=List.mem_range.mp hj
   exact ⟨rfl,by show (1:Int)≤1+(j:Int);omega,by show 1+(j:Int)≤m;omega⟩
 · rintro ⟨h1,h2,h3⟩
   exact ⟨(k.2-1).toNat,List.mem_range.mpr (by omega),Prod.ext h1.symm (by show 1+(((k.2-1).toNat:Nat):Int)=k.2;omega)⟩
theorem gridU_mem {m i:Nat}{k:Int×Int}:k∈gridU m i↔(0≤k.1∧k.1<i)∧1≤k.2∧k.2≤m:=by
 unfold gridU
 rw [List.mem_flatMap]
 constructor
 · rintro ⟨j,hj,h⟩
   have:=List.mem_range.mp hj
   obtain ⟨h1,h2⟩:=gridR_mem.mp h
   exact ⟨⟨by omega,by omega⟩,h2⟩
 · rintro ⟨h1,h2⟩
   exact ⟨k.1.toNat,List.mem_range.mpr (by omega),gridR_mem.mpr ⟨by omega,h2⟩⟩
theorem gridR_len (m i:Nat):(gridR m i).length=m:=by unfold gridR;rw [List.length_map,List.length_range]
theorem gridU_len (m:Nat):∀ i,(gridU m i).length=i*m
 | 0=>by unfold gridU;rw [Nat.zero_mul];rfl
 | i+1=>by rw [gridU_s,List.length_append,gridU_len m i,gridR_len,Nat.succ_mul]
noncomputable abbrev keyP (k:Int×Int):Int:=8*k.1+k.2
theorem gridR_up (m i:Nat):((gridR m i).map keyP).Pairwise (· < ·):=by
 unfold gridR
 rw [List.map_map,List.pairwise_map]
 refine List.pairwise_lt_range.imp fun {a b} h=>?_
 show 8*(i:Int)+(1+(a:Int))<8*(i:Int)+(1+(b:Int))
 omega
theorem gridU_up {m:Nat}(hm:m≤7):∀ i,((gridU m i).map keyP).Pairwise (· < ·)
 | 0=>List.Pairwise.nil
 | i+1=>by
  rw [gridU_s,List.map_append]
  refine List.pairwise_append.mpr ⟨gridU_up hm i,gridR_up m i,fun x hx y hy=>?_⟩
  obtain ⟨k,hk,rfl⟩:=List.mem_map.mp hx
  obtain ⟨l,hl,rfl⟩:=List.mem_map.mp hy
  have h1:=gridU_mem.mp hk
  have h2:=gridR_mem.mp hl
  show 8*k.1+k.2<8*l.1+l.2
  omega
theorem ways_one {m:Nat}(hm:m≤7) {L ks:List (Int×Int)}(hL:∀ k∈L,(0≤k.1∧k.1≤m)∧1≤k.2∧k.2≤m) (h1:∀ k,k∈ks↔k∈L) (h2:(ks.map fun k=>8*k.1+k.2).Pairwise (· < ·)):(gridU m (m+1)).filter (fun k=>decide (k∈L))=ks:=by
 refine rising_key keyP ?_ h2 fun k=>?_
 · exact (gridU_up hm (m+1)).sublist (List.Sublist.map _ List.filter_sublist)
 · rw [List.mem_filter,decide_eq_true_iff,h1,gridU_mem]
   constructor
   · exact fun h=>h.2
   · intro h
     have:=hL k h
     exact ⟨⟨⟨by omega,by omega⟩,by omega,by omega⟩,h⟩
noncomputable def Ch (ps:List (Int×Int)):Int→List Int→Int→Prop
 | x,[],z=>x=z
 | x,y::ys,z=>(x,y)∈ps∧Ch ps y ys z
noncomputable def PathR (r:Rg):List Int→Prop
 | []=>r.no=true
 | x::xs=>x∈r.fs∧∃ z∈r.ls,Ch r.ps x xs z
theorem Ch.mono {ps qs:List (Int×Int)}(h:∀ k∈ps,k∈qs):∀ {x:Int}{xs:List Int}{z:Int},Ch ps x xs z→Ch qs x xs z
 | _,[],_,e=>e
 | _,_::_,_,e=>⟨h _ e.1,Ch.mono h e.2⟩
theorem Ch.app {ps:List (Int×Int)}{y z:Int}{vs:List Int}:∀ {x l:Int}{us:List Int},Ch ps x us l→(l,y)∈ps→Ch ps y vs z→Ch ps x (us++y::vs) z
 | _,_,[],e,h1,h2=>by cases (show _=_ from e);exact ⟨h1,h2⟩
 | _,_,_::_,e,h1,h2=>⟨e.1,Ch.app e.2 h1 h2⟩
inductive StarL (L:List Int→Prop):List Int→Prop
 | nil:StarL L []
 | cons {u v:List Int}:L u→StarL L v→StarL L (u++v)
theorem StarL.mono {L M:List Int→Prop}(h:∀ u,L u→M u) {w:List Int}(s:StarL L w):StarL M w:=by
 induction s with
 | nil=>exact .nil
 | cons a _ ih=>exact .cons (h _ a) ih
theorem StarL.app {L:List Int→Prop}{u v:List Int}(s:StarL L u) (t:StarL L v):StarL L (u++v):=by
 induction s with
 | nil=>exact t
 | cons a _ ih=>rw [List.append_assoc];exact .cons a ih
theorem StarL.one {L:List Int→Prop}{u:List Int}(h:L u):StarL L u:=by
 have:=StarL.cons h .nil
 rwa [List.append_nil] at this
theorem StarL.star {L:List Int→Prop}{w:List Int}:StarL (StarL L) w↔StarL L w:=by
 constructor
 · intro s
   induction s with
   | nil=>exact .nil
   | cons a _ ih=>exact a.app ih
 · exact fun s=>.one s
noncomputable def CatL (L M:List Int→Prop) (w:List Int):Prop:=∃ u v,w=u++v∧L u∧M v
theorem star_path {r:Rg}:∀ {row:List Int},PathR (rOver r) row↔StarL (PathR r) row:=by
 have key:∀ (xs:List Int) (x z:Int),Ch (r.ps++crs r.ls r.fs) x xs z→z∈r.ls→∃ us vs l,xs=us++vs∧Ch r.ps x us l∧l∈r.ls∧StarL (PathR r) vs:=by
  intro xs
  induction xs with
  | nil=>exact fun x z e hz=>⟨[],[],z,rfl,e,hz,.nil⟩
  | cons y ys ih=>
   intro x z e hz
   obtain ⟨us,vs,l,rfl,c1,c2,c3⟩:=ih y z e.2 hz
   rcases List.mem_append.mp e.1 with p | p
   · exact ⟨y::us,vs,l,rfl,⟨p,c1⟩,c2,c3⟩
   · obtain ⟨p1,p2⟩:=crs_mem.mp p
     exact ⟨[],y::(us++vs),x,rfl,rfl,p1,StarL.cons (u:=y::us) ⟨p2,l,c2,c1⟩ c3⟩
 intro row
 constructor
 · intro h
   cases row with
   | nil=>exact .nil
   | cons x xs=>
    obtain ⟨h1,z,hz,hc⟩:=h
    obtain ⟨us,vs,l,rfl,c1,c2,c3⟩:=key xs x z hc hz
    exact StarL.cons (u:=x::us) ⟨h1,l,c2,c1⟩ c3
 · intro s
   induction s with
   | nil=>exact rfl
   | @cons u v a t ih=>
    cases u with
    | nil=>exact ih
    | cons x xs=>
     obtain ⟨h1,l,hl,hc⟩:=a
     have hc':Ch (r.ps++crs r.ls r.fs) x xs l:=hc.mono fun k hk=>List.mem_append_left _ hk
     cases v with
     | nil=>rw [List.append_nil];exact ⟨h1,l,hl,hc'⟩
     | cons y ys=>
      obtain ⟨g1,z,hz,gc⟩:=ih
      exact ⟨h1,z,hz,hc'.app (List.mem_append_right _ (crs_mem.mpr ⟨hl,g1⟩)) gc⟩
section
variable {U:Int}{f g m m':Nat}{a:Int}{r q:Rg}
theorem ch_hi (h1:RgB U g m a r) (h2:RgB U f m' (a+m) q):∀ {xs:List Int}{x z:Int},a+m<x→Ch (r.ps++q.ps++crs r.ls q.fs) x xs z→Ch q.ps x xs z∧a+m<z
 | [],x,z,hx,e=>⟨e,by cases (show x=z from e);exact hx⟩
 | y::ys,x,z,hx,e=>by
  have hp:(x,y)∈q.ps:=by
   rcases List.mem_append.mp e.1 with p | p
   · rcases List.mem_append.mp p with p | p
     · have:x≤a+m:=(h1.pb _ p).1.2;omega
     · exact p
   · have:x≤a+m:=(h1.lb _ (crs_mem.mp p).1).2;omega
  have hy:a+m<y:=(h2.pb _ hp).2.1
  obtain ⟨c1,c2⟩:=ch_hi h1 h2 hy e.2
  exact ⟨⟨hp,c1⟩,c2⟩
theorem ch_lo (h1:RgB U g m a r) (h2:RgB U f m' (a+m) q):∀ {xs:List Int}{x z:Int},x≤a+m→Ch (r.ps++q.ps++crs r.ls q.fs) x xs z→(z≤a+m∧Ch r.ps x xs z)∨(∃ us y vs l,xs=us++y::vs∧Ch r.ps x us l∧l∈r.ls∧y∈q.fs∧Ch q.ps y vs z∧a+m<z)
 | [],x,z,hx,e=>.inl ⟨by cases (show x=z from e);exact hx,e⟩
 | y::ys,x,z,hx,e=>by
  rcases List.mem_append.mp e.1 with p | p
  · rcases List.mem_append.mp p with p | p
    · have hy:y≤a+m:=(h1.pb _ p).2.2
      rcases ch_lo h1 h2 hy e.2 with ⟨c1,c2⟩ | ⟨us,y',vs,l,rfl,c1,c2,c3,c4,c5⟩
      · exact .inl ⟨c1,p,c2⟩
      · exact .inr ⟨y::us,y',vs,l,rfl,⟨p,c1⟩,c2,c3,c4,c5⟩
    · have:a+m<x:=(h2.pb _ p).1.1;omega
  · obtain ⟨p1,p2⟩:=crs_mem.mp p
    obtain ⟨c1,c2⟩:=ch_hi h1 h2 (h2.fb _ p2).1 e.2
    exact .inr ⟨[],y,ys,x,rfl,rfl,p1,p2,c1,c2⟩
theorem behind_path (h1:RgB U g m a r) (h2:RgB U f m' (a+m) q) {row:List Int}:PathR (rBehind r q) row↔CatL (PathR r) (PathR q) row:=by
 have lL:∀ z,z∈(if q.no=true then r.ls++q.ls else q.ls)↔z∈q.ls∨(z∈r.ls∧q.no=true):=fun z=>by
  split
  · rename_i c
    rw [List.mem_append]
    exact ⟨fun h=>h.symm.imp id fun h=>⟨h,c⟩,fun h=>(h.imp id And.left).symm⟩
  · rename_i c
    exact ⟨.inl,fun h=>h.elim id fun h=>absurd h.2 c⟩
 have fL:∀ z,z∈(if r.no=true then r.fs++q.fs else r.fs)↔z∈r.fs∨(z∈q.fs∧r.no=true):=fun z=>by
  split
  · rename_i c
    rw [List.mem_append]
    exact ⟨fun h=>h.imp id fun h=>⟨h,c⟩,fun h=>h.imp id And.left⟩
  · rename_i c
    exact ⟨.inl,fun h=>h.elim id fun h=>absurd h.2 c⟩
 have i1:∀ k∈r.ps,k∈r.ps++q.ps++crs r.ls q.fs:=fun k h=>List.mem_append_left _ (List.mem_append_left _ h)
 have i2:∀ k∈q.ps,k∈r.ps++q.ps++crs r.ls q.fs:=fun k h=>List.mem_append_left _ (List.mem_append_right _ h)
 constructor
 · intro h
   cases row with
   | nil=>
    have h:(r.no&&q.no)=true:=h
    rw [Bool.and_eq_true] at h
    exact ⟨[],[],rfl,h.1,h.2⟩
   | cons x xs=>
    obtain ⟨p1,z,hz,hc⟩:=h
    have hc:Ch (r.ps++q.ps++crs r.ls q.fs) x xs z:=hc
    have hz:=(lL z).mp hz
    rcases (fL x).mp p1 with p1 | ⟨p1,p2⟩
    · rcases ch_lo h1 h2 (h1.fb _ p1).2 hc with ⟨c1,c2⟩ | ⟨us,y,vs,l,rfl,c1,c2,c3,c4,c5⟩
      · rcases hz with hz | ⟨hz,hn⟩
        · have:=(h2.lb _ hz).1;omega
        · exact ⟨x::xs,[],by rw [List.append_nil],⟨p1,z,hz,c2⟩,hn⟩
      · rcases hz with hz | ⟨hz,hn⟩
        · exact ⟨x::us,y::vs,rfl,⟨p1,l,c2,c1⟩,⟨c3,z,hz,c4⟩⟩
        · have:=(h1.lb _ hz).2;omega
    · obtain ⟨c1,c2⟩:=ch_hi h1 h2 (h2.fb _ p1).1 hc
      rcases hz with hz | ⟨hz,hn⟩
      · exact ⟨[],x::xs,rfl,p2,⟨p1,z,hz,c1⟩⟩
      · have:=(h1.lb _ hz).2;omega
 · rintro ⟨u,v,rfl,hu,hv⟩
   cases u with
   | nil=>
    cases v with
    | nil=>exact (Bool.and_eq_true _ _).mpr ⟨hu,hv⟩
    | cons y ys=>
     obtain ⟨g1,z,hz,gc⟩:=hv
     exact ⟨(fL y).mpr (.inr ⟨g1,hu⟩),z,(lL z).mpr (.inl hz),gc.mono i2⟩
   | cons x xs=>
    obtain ⟨p1,l,hl,hc⟩:=hu
    cases v with
    | nil=>
     rw [List.append_nil]
     exact ⟨(fL x).mpr (.inl p1),l,(lL l).mpr (.inr ⟨hl,hv⟩),hc.mono i1⟩
    | cons y ys=>
     obtain ⟨g1,z,hz,gc⟩:=hv
     exact ⟨(fL x).mpr (.inl p1),z,(lL z).mpr (.inl hz),(hc.mono i1).app (List.mem_append_right _ (crs_mem.mpr ⟨hl,g1⟩)) (gc.mono i2)⟩
theorem ce_hi (h1:RgB U g m a r) (h2:RgB U f m' (a+m) q):∀ {xs:List Int}{x z:Int},a+m<x→Ch (r.ps++q.ps) x xs z→Ch q.ps x xs z∧a+m<z:=fun hx e=>ch_hi h1 h2 hx (e.mono fun k hk=>List.mem_append_left _ hk)
theorem ce_lo (h1:RgB U g m a r) (h2:RgB U f m' (a+m) q):∀ {xs:List Int}{x z:Int},x≤a+m→Ch (r.ps++q.ps) x xs z→z≤a+m∧Ch r.ps x xs z
 | [],x,z,hx,e=>⟨by cases (show x=z from e);exact hx,e⟩
 | y::ys,x,z,hx,e=>by
  rcases List.mem_append.mp e.1 with p | p
  · have hy:y≤a+m:=(h1.pb _ p).2.2
    obtain ⟨c1,c2⟩:=ce_lo h1 h2 hy e.2
    exact ⟨c1,p,c2⟩
  · have:a+m<x:=(h2.pb _ p).1.1;omega
theorem either_path (h1:RgB U g m a r) (h2:RgB U f m' (a+m) q) {row:List Int}:PathR (rEither r q) row↔PathR r row∨PathR q row:=by
 constructor
 · intro h
   cases row with
   | nil=>exact (Bool.or_eq_true _ _).mp h
   | cons x xs=>
    obtain ⟨p1,z,hz,hc⟩:=h
    have hc:Ch (r.ps++q.ps) x xs z:=hc
    rcases List.mem_append.mp p1 with p1 | p1
    · obtain ⟨c1,c2⟩:=ce_lo h1 h2 (h1.fb _ p1).2 hc
      rcases List.mem_append.mp hz with hz | hz
      · exact .inl ⟨p1,z,hz,c2⟩
      · have:=(h2.lb _ hz).1;omega
    · obtain ⟨c1,c2⟩:=ce_hi h1 h2 (h2.fb _ p1).1 hc
      rcases List.mem_append.mp hz with hz | hz
      · have:=(h1.lb _ hz).2;omega
      · exact .inr ⟨p1,z,hz,c1⟩
 · rintro (h | h)
   · cases row with
     | nil=>exact (Bool.or_eq_true _ _).mpr (.inl h)
     | cons x xs=>
      obtain ⟨p1,z,hz,hc⟩:=h
      exact ⟨List.mem_append_left _ p1,z,List.mem_append_left _ hz,hc.mono fun k hk=>List.mem_append_left _ hk⟩
   · cases row with
     | nil=>exact (Bool.or_eq_true _ _).mpr (.inr h)
     | cons x xs=>
      obtain ⟨p1,z,hz,hc⟩:=h
      exact ⟨List.mem_append_right _ p1,z,List.mem_append_right _ hz,hc.mono fun k hk=>List.mem_append_right _ hk⟩
end
noncomputable def lg0 (s:Str):List Int→Prop:=if s = "row" then fun w=>w=[] else fun _=>False
noncomputable def combL (s:Str) (L M:List Int→Prop):List Int→Prop:=if s = "row" then CatL L M else fun w=>L w∨M w
noncomputable def stepG (rd:PyData→Int→Rg) (lg:PyData→Int→List Int→Prop) (s:Str) (a:Int) (st:Rg×(List Int→Prop)) (y:PyData):Rg×(List Int→Prop):=(rComb s st.1 (rd y (a+(st.1.gs.length:Int))),combL s st.2 (lg y (a+(st.1.gs.length:Int))))
noncomputable def LgW:Nat→PyData→Int→List Int→Prop
 | 0,_,_=>fun _=>False
 | f+1,d,a=>match d with
  | .tuple [.str s,x]=>if s = "put" then fun w=>w=[a+1] else if s = "again" then StarL (LgW f x a) else ((partsOfD x).foldl (stepG (rdW f) (LgW f) s a) (rg0 s,lg0 s)).2
  | _=>fun _=>False
noncomputable def LgF (f:Nat) (s:Str) (a:Int) (ds:List PyData):List Int→Prop:=(ds.foldl (stepG (rdW f) (LgW f) s a) (rg0 s,lg0 s)).2
theorem lg_put (f:Nat) (gs:List Int) (a:Int):LgW (f+1) (putW gs) a=fun w=>w=[a+1]:=by
 rw [LgW]
 show (if ("put":Str) = "put" then _ else _)=_
 rw [if_pos rfl]
theorem lg_again (f:Nat) (e:PyData) (a:Int):LgW (f+1) (againW e) a=StarL (LgW f e a):=by
 rw [LgW]
 show (if ("again":Str) = "put" then _ else if ("again":Str) = "again" then _ else _)=_
 rw [if_neg w_again_put,if_pos rfl]
theorem lg_row {f:Nat}{s:Str}(hs:s = "row"∨s = "either") (ds:List PyData) (a:Int):LgW (f+1) (rowW s ds) a=LgF f s a ds:=by
 rw [LgW]
 show (if s = "put" then _ else if s = "again" then _ else _)=_
 rw [if_neg (rs_put hs),if_neg (rs_again hs)]
 rfl
theorem stepG_fst (f:Nat) (s:Str) (a:Int):∀ (ds:List PyData) (st:Rg×(List Int→Prop)),(ds.foldl (stepG (rdW f) (LgW f) s a) st).1=ds.foldl (fun r y=>rComb s r (rdW f y (a+(r.gs.length:Int)))) st.1
 | [],_=>rfl
 | d::ds,st=>by
  rw [List.foldl_cons,List.foldl_cons]
  exact stepG_fst f s a ds _
theorem lgF_nil (f:Nat) (s:Str) (a:Int):LgF f s a []=lg0 s:=rfl
theorem lgF_snoc (f:Nat) (s:Str) (a:Int) (ds:List PyData) (d:PyData):LgF f s a (ds++[d])=combL s (LgF f s a ds) (LgW f d (a+((rdF f s a ds).gs.length:Int))):=by
 unfold LgF
 rw [List.foldl_append]
 show combL s _ (LgW f d (a+((((ds.foldl (stepG (rdW f) (LgW f) s a) (rg0 s,lg0 s)).1).gs.length:Nat):Int)))=_
 rw [stepG_fst]
 rfl
theorem glu0 (s:Str) (hs:s = "row"∨s = "either") (w:List Int):lg0 s w↔PathR (rg0 s) w:=by
 unfold lg0
 rcases hs with rfl | rfl
 · rw [if_pos rfl]
   cases w with
   | nil=>exact ⟨fun _=>by show decide (("row":Str) = "row")=true;exact decide_eq_true rfl,fun _=>rfl⟩
   | cons x xs=>exact ⟨fun h=>(by cases h),fun h=>(by cases h.1)⟩
 · have ne:¬ (("either":Str) = "row"):=by decide +kernel
   rw [if_neg ne]
   cases w with
   | nil=>exact ⟨fun h=>h.elim,fun h=>by have h:decide (("either":Str) = "row")=true:=h;exact ne (of_decide_eq_true h)⟩
   | cons x xs=>exact ⟨fun h=>h.elim,fun h=>by cases h.1⟩
theorem glu {U:Int}:∀ {f m:Nat}{d:PyData}{a:Int},Wd U f m d→∀ w,LgW f d a w↔PathR (rdW f d a) w
 | 0,_,_,_,h,_=>h.elim
 | f+1,m,d,a,h,w=>by
  rcases h with ⟨gs,rfl,hl,hg,rfl⟩ | ⟨e,rfl,h⟩ | ⟨s,ms,ds,hs,rfl,hne,ha,rfl⟩
  · rw [rd_put,lg_put]
    show w=[a+1]↔_
    cases w with
    | nil=>exact ⟨fun h=>(by cases h),fun h=>(by cases (show false=true from h))⟩
    | cons x xs=>
     constructor
     · intro h
       injection h with h1 h2
       subst h1;subst h2
       exact ⟨List.mem_cons_self,a+1,List.mem_cons_self,rfl⟩
     · rintro ⟨h1,z,hz,hc⟩
       rw [List.mem_singleton.mp h1] at hc ⊢
       cases xs with
       | nil=>rfl
       | cons y ys=>exact absurd hc.1 (by simp)
  · rw [rd_again,lg_again,star_path]
    exact ⟨fun s=>s.mono fun u hu=>(glu h u).mp hu,fun s=>s.mono fun u hu=>(glu h u).mpr hu⟩
  · rw [rd_row hs,lg_row hs]
    have key:∀ {ms:List Nat} {ds:List PyData} {m0:Nat} {st:Rg×(List Int→Prop)},All2 (Wd U f) ms ds→RgB U (f+1) m0 a st.1→(∀ w,st.2 w↔PathR st.1 w)→∀ w,(ds.foldl (stepG (rdW f) (LgW f) s a) st).2 w↔PathR (ds.foldl (fun r y=>rComb s r (rdW f y (a+(r.gs.length:Int)))) st.1) w:=by
     intro ms
     induction ms with
     | nil=>
      intro ds m0 st h b k
      cases ds with
      | nil=>exact k
      | cons _ _=>exact h.elim
     | cons m ms ih=>
      intro ds m0 st h b k
      cases ds with
      | nil=>exact h.elim
      | cons d ds=>
       rw [List.foldl_cons,List.foldl_cons]
       have b2:=rd_b (a:=a+(st.1.gs.length:Int)) h.1
       refine ih (st:=stepG (rdW f) (LgW f) s a st d) h.2 (b.comb b2) fun w=>?_
       have g2:=glu (a:=a+(st.1.gs.length:Int)) h.1
       rw [b.g] at b2 g2
       show combL s st.2 (LgW f d (a+(st.1.gs.length:Int))) w↔PathR (rComb s st.1 (rdW f d (a+(st.1.gs.length:Int)))) w
       rw [b.g]
       unfold combL rComb
       split
       · rw [behind_path b b2]
         constructor
         · rintro ⟨u,v,e,h1,h2⟩
           exact ⟨u,v,e,(k u).mp h1,(g2 v).mp h2⟩
         · rintro ⟨u,v,e,h1,h2⟩
           exact ⟨u,v,e,(k u).mpr h1,(g2 v).mpr h2⟩
       · rw [either_path b b2]
         exact ⟨fun h=>h.imp (k w).mp (g2 w).mp,fun h=>h.imp (k w).mpr (g2 w).mpr⟩
    exact key ha (rg0_b (U:=U) (f:=f) (a:=a) (s:=s)) (glu0 s hs) w
noncomputable def Spn (L:List Int→Prop) (row:List Int) (s e:Int):Prop:=∃ p u q:List Int,row=p++u++q∧s=(p.length:Int)∧e=(p.length:Int)+(u.length:Int)∧L u
theorem Spn.bound {L:List Int→Prop}{row:List Int}{s e:Int}(h:Spn L row s e):(0≤s∧s≤e)∧e≤(row.length:Int):=by
 obtain ⟨p,u,q,rfl,rfl,rfl,_⟩:=h
 rw [List.length_append,List.length_append]
 omega
theorem Spn.imp {L M:List Int→Prop}{row:List Int}{s e:Int}(h:∀ u,L u→M u):Spn L row s e→Spn M row s e
 | ⟨p,u,q,h1,h2,h3,h4⟩=>⟨p,u,q,h1,h2,h3,h u h4⟩
theorem spn_whole {L:List Int→Prop}{row:List Int}:Spn L row 0 (row.length:Int)↔L row:=by
 constructor
 · rintro ⟨p,u,q,e,h1,h2,h⟩
   have hp:p=[]:=List.eq_nil_of_length_eq_zero (by omega)
   subst hp
   have l:=congrArg List.length e
   rw [List.length_append,List.length_append] at l
   have hq:q=[]:=List.eq_nil_of_length_eq_zero (by simp only [List.length_nil] at h2 l;omega)
   subst hq
   rw [List.append_nil,List.nil_append] at e
   rw [e];exact h
 · exact fun h=>⟨[],row,[],by rw [List.append_nil,List.nil_append],rfl,by simp,h⟩
theorem spn_cat {L M:List Int→Prop}{row:List Int}{s e:Int}:Spn (CatL L M) row s e↔∃ t,Spn L row s t∧Spn M row t e:=by
 constructor
 · rintro ⟨p,w,q,h1,h2,h3,u,v,rfl,hu,hv⟩
   refine ⟨(p.length:Int)+(u.length:Int),⟨p,u,v++q,by rw [h1];simp only [List.append_assoc],h2,rfl,hu⟩,⟨p++u,v,q,by rw [h1];simp only [List.append_assoc],by rw [List.length_append];omega,?_,hv⟩⟩
   rw [h3,List.length_append,List.length_append];omega
 · rintro ⟨t,⟨p,u,q,h1,h2,h3,hu⟩,⟨p',v,q',g1,g2,g3,hv⟩⟩
   have l:(p++u).length=p'.length:=by rw [List.length_append];omega
   have e1:(p++u)++q=p'++(v++q'):=by rw [← h1,g1,List.append_assoc]
   obtain ⟨e2,e3⟩:=List.append_inj e1 l
   refine ⟨p,u++v,q',by rw [h1,e3];simp only [List.append_assoc],h2,?_,u,v,rfl,hu,hv⟩
   rw [g3,← e2,List.length_append,List.length_append];omega
theorem spn_nil {row:List Int}{s e:Int}:Spn (fun w=>w=[]) row s e↔s=e∧0≤s∧s≤(row.length:Int):=by
 constructor
 · rintro ⟨p,u,q,rfl,rfl,rfl,rfl⟩
   rw [List.length_append,List.length_append]
   simp only [List.length_nil]
   omega
 · rintro ⟨rfl,h1,h2⟩
   refine ⟨row.take s.toNat,[],row.drop s.toNat,by rw [List.append_nil,List.take_append_drop],?_,?_,rfl⟩
   · rw [List.length_take];omega
   · rw [List.length_take,List.length_nil];omega
theorem spn_one {k:Int}{row:List Int}{s e:Int}:Spn (fun w=>w=[k]) row s e↔e=s+1∧0≤s∧s<(row.length:Int)∧row[s.toNat]? = some k:=by
 constructor
 · rintro ⟨p,u,q,rfl,rfl,rfl,rfl⟩
   rw [List.length_append,List.length_append]
   refine ⟨rfl,by omega,by simp only [List.length_singleton];omega,?_⟩
   rw [Int.toNat_natCast,List.append_assoc,List.getElem?_append_right (Nat.le_refl _),Nat.sub_self]
   rfl
 · rintro ⟨rfl,h1,h2,h3⟩
   have hl:s.toNat<row.length:=by omega
   refine ⟨row.take s.toNat,[k],row.drop (s.toNat+1),?_,?_,?_,rfl⟩
   · have hk:row[s.toNat]=k:=by rw [List.getElem?_eq_getElem hl] at h3;exact Option.some.inj h3
     rw [← hk,List.append_assoc,List.singleton_append,List.getElem_cons_drop,List.take_append_drop]
   · rw [List.length_take];omega
   · rw [List.length_take,List.length_singleton];omega
theorem spn_or {L M:List Int→Prop}{row:List Int}{s e:Int}:Spn (fun w=>L w∨M w) row s e↔Spn L row s e∨Spn M row s e:=by
 constructor
 · rintro ⟨p,u,q,h1,h2,h3,h | h⟩
   · exact .inl ⟨p,u,q,h1,h2,h3,h⟩
   · exact .inr ⟨p,u,q,h1,h2,h3,h⟩
 · rintro (h | h)
   · exact h.imp fun u=>.inl
   · exact h.imp fun u=>.inr
theorem spn_no {row:List Int}{s e:Int}:¬ Spn (fun _=>False) row s e:=fun ⟨_,_,_,_,_,_,h⟩=>h
theorem spn_star {L:List Int→Prop}{row:List Int}{s e:Int}(C:Int→Prop) (hs:C s) (hc:∀ t e,C t→Spn L row t e→C e) (h:Spn (StarL L) row s e):C e:=by
 obtain ⟨p,w,q,h1,h2,h3,st⟩:=h
 have key:∀ {w:List Int},StarL L w→∀ (p q:List Int) (s:Int),row=p++w++q→s=(p.length:Int)→C s→C ((p.length:Int)+(w.length:Int)):=by
  intro w st
  induction st with
  | nil=>intro p q s _ e c;rw [List.length_nil];rw [e] at c;simpa using c
  | @cons u v a _ ih=>
   intro p q s e1 e2 c
   have c2:C ((p.length:Int)+(u.length:Int)):=hc s _ c ⟨p,u,v++q,by rw [e1];simp only [List.append_assoc],e2,rfl,a⟩
   have:=ih (p++u) q ((p.length:Int)+(u.length:Int)) (by rw [e1];simp only [List.append_assoc]) (by rw [List.length_append];omega) c2
   rw [List.length_append] at this ⊢
   have e3:(((p.length+u.length:Nat):Int)+(v.length:Int))=(p.length:Int)+((u.length+v.length:Nat):Int):=by omega
   rw [← e3];exact this
 rw [h3]
 exact key st p q s h1 h2 hs
theorem spn_star0 {L:List Int→Prop}{row:List Int}{s:Int}(h1:0≤s) (h2:s≤(row.length:Int)):Spn (StarL L) row s s:=(spn_nil.mpr ⟨rfl,h1,h2⟩).imp fun u h=>by rw [h];exact .nil
theorem spn_starS {L:List Int→Prop}{row:List Int}{s t e:Int}(h1:Spn (StarL L) row s t) (h2:Spn L row t e):Spn (StarL L) row s e:=by
 have:=spn_cat.mpr ⟨t,h1,h2⟩
 exact this.imp fun u ⟨x,y,e,hx,hy⟩=>by rw [e];exact hx.app (.one hy)
noncomputable def cntW (f:Nat) (d:PyData):Int:=(((rdW f d 0).gs.length:Nat):Int)
noncomputable def numL (nw:PyData→Int→PyData) (cn:PyData→Int):Int→List PyData→List PyData
 | _,[]=>[]
 | a,d::ds=>nw d a::numL nw cn (a+cn d) ds
noncomputable def numW:Nat→PyData→Int→PyData
 | 0,_,_=>.none
 | f+1,d,a=>match d with
  | .tuple [.str s,x]=>if s = "put" then .tuple [.str "put",.int (a+1)] else if s = "again" then .tuple [.str "again",numW f x a] else .tuple [.str s,.tuple (numL (numW f) (cntW f) a (partsOfD x))]
  | _=>.none
theorem num_put (f:Nat) (gs:List Int) (a:Int):numW (f+1) (putW gs) a = .tuple [.str "put",.int (a+1)]:=by
 rw [numW]
 show (if ("put":Str) = "put" then _ else _)=_
 rw [if_pos rfl]
theorem num_again (f:Nat) (e:PyData) (a:Int):numW (f+1) (againW e) a = .tuple [.str "again",numW f e a]:=by
 rw [numW]
 show (if ("again":Str) = "put" then _ else if ("again":Str) = "again" then _ else _)=_
 rw [if_neg w_again_put,if_pos rfl]
theorem num_row {f:Nat}{s:Str}(hs:s = "row"∨s = "either") (ds:List PyData) (a:Int):numW (f+1) (rowW s ds) a = .tuple [.str s,.tuple (numL (numW f) (cntW f) a ds)]:=by
 rw [numW]
 show (if s = "put" then _ else if s = "again" then _ else _)=_
 rw [if_neg (rs_put hs),if_neg (rs_again hs)]
 rfl
theorem numL_len (nw:PyData→Int→PyData) (cn:PyData→Int):∀ (ds:List PyData) (a:Int),(numL nw cn a ds).length=ds.length
 | [],_=>rfl
 | d::ds,a=>congrArg (· + 1) (numL_len nw cn ds _)
theorem numL_at (f:Nat) (s:Str) (b:Int):∀ {ds:List PyData}{a:Int}{i:Nat}{x:PyData},(numL (numW f) (cntW f) a ds)[i]? = some x→∃ d,ds[i]? = some d∧x=numW f d (a+(((rdF f s b (ds.take i)).gs.length:Nat):Int))
 | [],_,_,_,h=>by simp [numL] at h
 | d::ds,a,0,x,h=>by
  refine ⟨d,rfl,?_⟩
  have:(rdF f s b ((d::ds).take 0)).gs.length=0:=by rw [List.take_zero,rdF_gs];rfl
  rw [this]
  simp [numL] at h
  simpa using h.symm
 | d::ds,a,i+1,x,h=>by
  have h:(numL (numW f) (cntW f) (a+cntW f d) ds)[i]? = some x:=by simpa [numL] using h
  obtain ⟨e,h1,h2⟩:=numL_at f s b h
  refine ⟨e,by simpa using h1,?_⟩
  rw [h2]
  congr 1
  unfold cntW
  rw [rdF_gs,rdF_gs,List.take_succ_cons,List.flatMap_cons,List.length_append]
  omega
theorem cnt_mono {U:Int}{f g m:Nat}{d:PyData}(h:Wd U f m d) (hg:f≤g):cntW g d=cntW f d:=by
 unfold cntW
 rw [rd_mono h hg]
theorem num_up {U:Int}:∀ {f m:Nat}{d:PyData}{a:Int},Wd U f m d→numW (f+1) d a=numW f d a
 | 0,_,_,_,h=>h.elim
 | f+1,m,d,a,h=>by
  rcases h with ⟨gs,rfl,hl,hg,rfl⟩ | ⟨e,rfl,h⟩ | ⟨s,ms,ds,hs,rfl,hne,ha,rfl⟩
  · rw [num_put,num_put]
  · rw [num_again,num_again,num_up h]
  · rw [num_row hs,num_row hs]
    have key:∀ {ms:List Nat} {ds:List PyData} {a:Int},All2 (Wd U f) ms ds→numL (numW (f+1)) (cntW (f+1)) a ds=numL (numW f) (cntW f) a ds:=by
     intro ms
     induction ms with
     | nil=>
      intro ds a h
      cases ds with
      | nil=>rfl
      | cons _ _=>exact h.elim
     | cons m ms ih=>
      intro ds a h
      cases ds with
      | nil=>exact h.elim
      | cons d ds=>
       show numW (f+1) d a::numL _ _ (a+cntW (f+1) d) ds=numW f d a::numL _ _ (a+cntW f d) ds
       rw [num_up h.1,cnt_mono h.1 (Nat.le_succ f),ih h.2]
    rw [key ha]
theorem num_mono {U:Int}{f g m:Nat}{d:PyData}{a:Int}(h:Wd U f m d) (hg:f≤g):numW g d a=numW f d a:=by
 induction hg with
 | refl=>rfl
 | step hk ih=>rw [num_up (h.mono hk),ih]
theorem lg_mono {U:Int}{f g m:Nat}{d:PyData}{a:Int}(h:Wd U f m d) (hg:f≤g) (w:List Int):LgW g d a w↔LgW f d a w:=by
 rw [glu h,glu (h.mono hg),rd_mono h hg]
noncomputable def gsNum (f:Nat):GSp:=fun as n Q=>∃ (U:Int) (m:Nat) (d:PyData) (a:Int),as=[.d d,.d (.int (a+1))]∧Wd U f m d∧m≤7∧Q (.tuple [numW f d a,.int (a+1+(m:Int))]) n
structure OvOk (row st:List Int):Prop where
 r:row.length≤40
 l:st.length≤60
 b:∀ s∈st,0≤s∧s≤(row.length:Int)
noncomputable def Over (L:List Int→Prop) (row st out:List Int):Prop:=(∀ e,e∈out↔∃ s∈st,Spn L row s e)∧out.length≤60
theorem Over.ok {L:List Int→Prop}{row st out:List Int}(o:OvOk row st) (h:Over L row st out):OvOk row out:=⟨o.r,h.2,fun e he=>by
 obtain ⟨s,_,hs⟩:=(h.1 e).mp he
 have:=hs.bound
 omega⟩
noncomputable def gsOverL (f:Nat):GSp:=fun as n Q=>∃ (U:Int) (m:Nat) (d:PyData) (a:Int) (row st:List Int),as=[.d (numW f d a),.d (.list (row.map .int)),.d (.list (st.map .int))]∧Wd U f m d∧m≤7∧OvOk row st∧∀ out:List Int,Over (LgW f d a) row st out→Q (.list (out.map .int)) n
end My
set_option maxHeartbeats 2000000
namespace L2
open PySem PySem.Spec PyProof.Rows PySem.SeqAt
section
variable {X:Cx}{pins:List (Addr×Obj)}{σ:St}{H:Hp}{s:Shared}
noncomputable def rSortSetW:List V→Hp→VK→Prop:=fun xs H Q=>∃ (p:Addr) (ns:List Int),xs=[.ref p]∧H p=some (.lst (ns.map V.int))∧ns.length<4000∧(∀ k∈ns,0≤k∧k≤60)∧∀ (ns':List Int) (l:Addr),(∀ k,k∈ns'↔k∈ns)→ns'.Pairwise (· < ·)→ns'.length≤61→H l=none→Q (.ref l) (upd H l (.lst (ns'.map V.int)))
theorem pe_sortSetW {x1 x2:Str}{p1 p2 pos1 pos2:Pos}{e:Expr}{t:TA}(hc:X.calm=true) (hg1:Gl X x1) (hm1:X.mg x1=none) (hv1:bootBuiltins x1=some (.builtin "sorted")) (hg2:Gl X x2) (hm2:X.mg x2=none) (hv2:bootBuiltins x2=some (.type "set")) (ha:PA X [e] t)
 (hn1:x1≠"__name__":=by decide) (hdb1:(x1==("__debug__":Str))=false:=by decide) (hn2:x2≠"__name__":=by decide) (hdb2:(x2==("__debug__":Str))=false:=by decide)
 (he:starEach [e] X.env=(false,eval e X.env)::starEach [] X.env:=by rfl) :
 PE X (.Call (.Name x1 p1) [.Call (.Name x2 p2) [e] [] pos2] [] pos1) (tCB rSortSetW t):=by
 intro pins s σ H Q I h
 refine wpAny_Call_Name_kw (ld_blt I hg1 hm1 hv1 ?_ hn1 hdb1)
 refine PyProof.Rows.callWith_builtin1 ?_ rfl rfl
 show wpAny _ _ (spliced ((false,eval (.Call (.Name x2 p2) [e] [] pos2) X.env)::backTo pos1 (starEach [] X.env))) _ _ s
 refine Calls.spliced_cons ?_
 refine wpAny_Call_Name_kw (ld_blt I hg2 hm2 hv2 ?_ hn2 hdb2)
 refine PyProof.Rows.callWith_type1 (thn (ha pos2 pins s σ H _ I h) fun us s1 q0=>?_) he rfl
 obtain ⟨vs,H1,I1,r1,p,ns,rfl,hp,h64,hbd,q⟩:=q0
 obtain ⟨u,rfl,ru⟩:=vals1 r1
 cases ru
 obtain ⟨z,its,n,rv,hl,e1⟩:=I1.lstM hp
 rw [List.length_map] at hl
 have hh:X.A.handled=none:=I1.ok.hd hc
 refine call_setI hh ⟨_,e1,rfl,n,rfl⟩ (intsAre_of rv) (by show its.toArray.size+1<scanBound;rw [List.size_toArray];unfold scanBound;omega) fun h' tk hS kp=>?_
 refine Calls.spliced_nil ?_
 have mn:=met_nd (fun i=>ns.getD i 0) its.toArray.size
 obtain ⟨es,ep,tb,ms,S,hI,hz,hlm,hmm⟩:=hS.setAt mn
 have ml:(metL (fun i=>ns.getD i 0) its.toArray.size).length≤61:=by
  refine Nat.le_trans (My.nd_sub_len (V:=(List.range 61).map fun (i:Nat)=>((i:Nat):Int)) mn fun k hk=>?_) (by rw [List.length_map,List.length_range];exact Nat.le_refl _)
  obtain ⟨j,hj,rfl⟩:=(met_mem _ _ _).mp hk
  rw [List.size_toArray,← hl] at hj
  have hk:ns.getD j 0∈ns:=by
   rw [List.getD_eq_getElem?_getD,List.getElem?_eq_getElem hj]
   exact List.getElem_mem _
  have:=hbd _ hk
  exact List.mem_map.mpr ⟨(ns.getD j 0).toNat,List.mem_range.mpr (by omega),by omega⟩
 have k1:∀ b o,s1.heap.get? b=some o→h'.get? b=some o:=fun b o e=>kp b o (Heap.lt_size e) e
 have sz1:s1.heap.objs.size≤h'.objs.size:=by
  obtain ⟨o,ho,_⟩:=S
  exact Nat.le_of_lt (Heap.lt_size ho)
 refine sorted_setAt hh S hI (by omega) fun s' l out ns' e9 a1 a2 a3 kp2 hg ho ht hl2 he9=>?_
 have hs:=met_sorted mn hmm hlm a2 a3
 have I2:=I1.laid (a:=l) (h':=s'.heap) (t':=s'.toks) (o:=.lst (ns'.map V.int)) (fun b u e=>kp2 b u (k1 b u e)) (Nat.le_trans sz1 hl2) ⟨by rw [List.length_map,a2.length_eq,sizeLine_eq];omega,out.toList,e9,vals_of_ints a1,he9⟩
 have I3:=I2.drew s'.drawn
 have es':({ s1 with heap:=s'.heap,toks:=s'.toks,drawn:=s'.drawn }:Shared)=s':=by
  obtain ⟨a,b,c,d,e⟩:=s'
  simp only at hg ho
  subst hg;subst ho
  rfl
 rw [es'] at I3
 refine ⟨.ref l,_,I3,rfl,q ns' l (fun k=>?_) hs.2 (by rw [a2.length_eq];omega) (I1.hok.fresh (Nat.le_trans sz1 hl2))⟩
 rw [hs.1 k,met_mem]
 constructor
 · rintro ⟨j,hj,rfl⟩
   rw [List.size_toArray,← hl] at hj
   rw [List.getD_eq_getElem?_getD,List.getElem?_eq_getElem hj]
   exact List.getElem_mem _
 · intro hk
   obtain ⟨j,hj,e⟩:=List.mem_iff_getElem.mp hk
   refine ⟨j,by rw [List.size_toArray,← hl];exact hj,?_⟩
   rw [List.getD_eq_getElem?_getD,List.getElem?_eq_getElem hj];exact e
end
end L2
namespace My
open PySem PySem.Spec PyProof.Rows L2
noncomputable def fSortSetW:List PyData→(List PyData→Prop)→Prop:=fun ds P=>∃ ns:List Int,ds=[.list (ns.map .int)]∧ns.length<4000∧(∀ k∈ns,0≤k∧k≤60)∧∀ ns':List Int,(∀ k,k∈ns'↔k∈ns)→ns'.Pairwise (· < ·)→P (ns'.map .int)
noncomputable instance cn_sortSetW:CN rSortSetW fSortSetW:=⟨fun {ex H xs ds Q P} r h k=>by
 obtain ⟨ns,rfl,h64,hbd,hp⟩:=h
 cases r with
 | cons r1 t=>
  cases t
  cases r1 with
  | @list p vs _ e nm z rr=>
   cases rr.ints_inv
   refine ⟨p,ns,rfl,e,h64,hbd,fun ns' l hq hs hlen hn=>k _ l _ (hp ns' hq hs) hn ?_ (reps_ints _)⟩
   rw [List.length_map,sizeLine_eq];omega⟩
theorem wd_len {U:Int}{f:Nat}:∀ {ms:List Nat}{ds:List PyData},All2 (Wd U f) ms ds→ds.length≤ms.sum
 | [],[],_=>Nat.le_refl _
 | m::ms,d::ds,h=>by
  have:=wd_len h.2
  have:=h.1.pos
  rw [List.length_cons,List.sum_cons];omega
 | [],_::_,h=>h.elim
 | _::_,[],h=>h.elim
theorem few_len {c:Nat}{F:List Int}(nd:F.Nodup) (hb:∀ k∈F,0≤k∧k≤(c:Int)):F.length≤c+1:=by
 refine Nat.le_trans (nd_sub_len (V:=(List.range (c+1)).map fun (i:Nat)=>((i:Nat):Int)) nd fun k hk=>?_) (by rw [List.length_map,List.length_range];exact Nat.le_refl _)
 have:=hb k hk
 exact List.mem_map.mpr ⟨k.toNat,List.mem_range.mpr (by omega),by omega⟩
structure FixI (L:List Int→Prop) (row st F G:List Int):Prop where
 nd:F.Nodup
 ok:OvOk row st
 s:∀ s∈st,s∈F
 r:∀ e∈F,∃ s∈st,Spn (StarL L) row s e
 c:∀ t∈F,t∉G→∀ e,Spn L row t e→e∈F
 g:∀ e∈G,e∈F
 gn:G.length≤60
theorem FixI.b {L:List Int→Prop}{row st F G:List Int}(h:FixI L row st F G):∀ k∈F,0≤k∧k≤(row.length:Int):=fun k hk=>by
 obtain ⟨s,_,hs⟩:=h.r k hk
 have:=hs.bound
 omega
theorem FixI.len {L:List Int→Prop}{row st F G:List Int}(h:FixI L row st F G):F.length≤41:=by
 have:=few_len h.nd h.b
 have:=h.ok.r
 omega
theorem FixI.gok {L:List Int→Prop}{row st F G:List Int}(h:FixI L row st F G):OvOk row G:=⟨h.ok.r,h.gn,fun s hs=>h.b s (h.g s hs)⟩
theorem rise_nd {F:List Int}(h:F.Pairwise (· < ·)):F.Nodup:=h.imp fun {a b} h e=>by omega
theorem FixI.start {L:List Int→Prop}{row st F:List Int}(ok:OvOk row st) (h1:∀ k,k∈F↔k∈st) (h2:F.Pairwise (· < ·)):FixI L row st F F:=by
 have nd:=rise_nd h2
 have b:∀ k∈F,0≤k∧k≤(row.length:Int):=fun k hk=>ok.b k ((h1 k).mp hk)
 refine ⟨nd,ok,fun s hs=>(h1 s).mpr hs,fun e he=>⟨e,(h1 e).mp he,?_⟩,fun t ht hn=>absurd ht hn,fun e he=>he,?_⟩
 · have:=b e he
   exact spn_star0 this.1 this.2
 · have:=few_len nd b
   have:=ok.r
   omega
theorem FixI.step {L:List Int→Prop}{row st F G out G':List Int}(h:FixI L row st F G) (ho:Over L row G out) (h1:∀ k,k∈G'↔k∈out.filter fun e=>!decide (e∈F)) (h2:G'.Pairwise (· < ·)):FixI L row st (F++G') G':=by
 have gm:∀ k,k∈G'↔(∃ t∈G,Spn L row t k)∧k∉F:=fun k=>by
  rw [h1,List.mem_filter,ho.1,Bool.not_eq_true',decide_eq_false_iff_not]
 have gb:∀ k∈G',0≤k∧k≤(row.length:Int):=fun k hk=>by
  obtain ⟨⟨t,_,ht⟩,_⟩:=(gm k).mp hk
  have:=ht.bound
  omega
 have nd':=rise_nd h2
 refine ⟨List.nodup_append.mpr ⟨h.nd,nd',fun a ha b hb e=>((gm b).mp hb).2 (e▸ha)⟩,h.ok,fun s hs=>List.mem_append_left _ (h.s s hs),fun e he=>?_,fun t ht hn e he=>?_,fun e he=>List.mem_append_right _ he,?_⟩
 · rcases List.mem_append.mp he with he | he
   · exact h.r e he
   · obtain ⟨⟨t,ht,hp⟩,_⟩:=(gm e).mp he
     obtain ⟨s,hs,hq⟩:=h.r t (h.g t ht)
     exact ⟨s,hs,spn_starS hq hp⟩
 · rcases List.mem_append.mp ht with ht | ht
   · by_cases hg:t∈G
     · by_cases hf:e∈F
       · exact List.mem_append_left _ hf
       · exact List.mem_append_right _ ((gm e).mpr ⟨⟨t,hg,he⟩,hf⟩)
     · exact List.mem_append_left _ (h.c t ht hg e he)
   · exact absurd ht hn
 · have:=few_len nd' gb
   have:=h.ok.r
   omega
theorem FixI.done {L:List Int→Prop}{row st F out:List Int}(h:FixI L row st F []) (hp:out.Perm F):Over (StarL L) row st out:=by
 refine ⟨fun e=>?_,by rw [hp.length_eq];have:=h.len;omega⟩
 rw [hp.mem_iff]
 constructor
 · exact h.r e
 · rintro ⟨s,hs,hq⟩
   exact spn_star (fun t=>t∈F) (h.s s hs) (fun t e ht he=>h.c t ht (by simp) e he) hq
theorem Over.congr {L M:List Int→Prop}(h:∀ w,L w↔M w) {row st out:List Int}(o:Over L row st out):Over M row st out:=⟨fun e=>by
 rw [o.1]
 exact ⟨fun ⟨s,hs,hq⟩=>⟨s,hs,hq.imp fun u=>(h u).mp⟩,fun ⟨s,hs,hq⟩=>⟨s,hs,hq.imp fun u=>(h u).mpr⟩⟩,o.2⟩
theorem over_put {k:Int}{row st:List Int}(ok:OvOk row st) (p:Int→Bool) (hp:∀ s∈st,p s=true↔(s<(row.length:Int)∧row[s.toNat]? = some k)):Over (fun w=>w=[k]) row st ((st.filter p).map fun s=>s+1):=by
 refine ⟨fun e=>?_,by rw [List.length_map];exact Nat.le_trans (List.length_filter_le _ _) ok.l⟩
 rw [List.mem_map]
 constructor
 · rintro ⟨s,hs,rfl⟩
   obtain ⟨h1,h2⟩:=List.mem_filter.mp hs
   obtain ⟨h3,h4⟩:=(hp s h1).mp h2
   exact ⟨s,h1,spn_one.mpr ⟨rfl,(ok.b s h1).1,h3,h4⟩⟩
 · rintro ⟨s,hs,hq⟩
   obtain ⟨rfl,h1,h2,h3⟩:=spn_one.mp hq
   exact ⟨s,List.mem_filter.mpr ⟨hs,(hp s hs).mpr ⟨h2,h3⟩⟩,rfl⟩
theorem over_nil {row st:List Int}(ok:OvOk row st):Over (fun w=>w=[]) row st st:=by
 refine ⟨fun e=>⟨fun he=>⟨e,he,spn_nil.mpr ⟨rfl,ok.b e he⟩⟩,?_⟩,ok.l⟩
 rintro ⟨s,hs,hq⟩
 rw [← (spn_nil.mp hq).1];exact hs
theorem over_cat {L M:List Int→Prop}{row st o1 o2:List Int}(h1:Over L row st o1) (h2:Over M row o1 o2):Over (CatL L M) row st o2:=by
 refine ⟨fun e=>?_,h2.2⟩
 rw [h2.1]
 constructor
 · rintro ⟨t,ht,hq⟩
   obtain ⟨s,hs,hr⟩:=(h1.1 t).mp ht
   exact ⟨s,hs,spn_cat.mpr ⟨t,hr,hq⟩⟩
 · rintro ⟨s,hs,hq⟩
   obtain ⟨t,h3,h4⟩:=spn_cat.mp hq
   exact ⟨t,(h1.1 t).mpr ⟨s,hs,h3⟩,h4⟩
noncomputable def OverB (L:List Int→Prop) (row st out:List Int):Prop:=∀ e,e∈out↔∃ s∈st,Spn L row s e
theorem over_or {L M:List Int→Prop}{row st o1 o2:List Int}(h1:OverB L row st o1) (h2:Over M row st o2):OverB (fun w=>L w∨M w) row st (o1++o2):=fun e=>by
 rw [List.mem_append,h1,h2.1]
 constructor
 · rintro (⟨s,hs,hq⟩ | ⟨s,hs,hq⟩)
   · exact ⟨s,hs,spn_or.mpr (.inl hq)⟩
   · exact ⟨s,hs,spn_or.mpr (.inr hq)⟩
 · rintro ⟨s,hs,hq⟩
   rcases spn_or.mp hq with hq | hq
   · exact .inl ⟨s,hs,hq⟩
   · exact .inr ⟨s,hs,hq⟩
theorem over_set {L:List Int→Prop}{row st o1 o2:List Int}(ok:OvOk row st) (h:OverB L row st o1) (h1:∀ k,k∈o2↔k∈o1) (h2:o2.Pairwise (· < ·)):Over L row st o2:=by
 have hm:∀ e,e∈o2↔∃ s∈st,Spn L row s e:=fun e=>by rw [h1,h]
 refine ⟨hm,?_⟩
 have:=few_len (rise_nd h2) fun k hk=>by
  obtain ⟨s,_,hs⟩:=(hm k).mp hk
  have:=hs.bound
  exact (⟨by omega,this.2⟩:0≤k∧k≤(row.length:Int))
 have:=ok.r
 omega
end My
namespace L2
open PySem PySem.Spec PyProof.Rows
theorem ps_next {X:Cx}{st:Stmt}{t:TS}(h:PS X st t):PS X st (tSeq t tNext):=h
end L2
namespace My
open PySem PySem.Spec PyProof.Rows L2
theorem w_again_row:¬ (("again":Str) = "row"):=by decide +kernel
theorem w_again_either:¬ (("again":Str) = "either"):=by decide +kernel
noncomputable instance (priority:=20000) ev_most2 {b:Bool}{i:Nat}:EV b (tDGet (tVar i) (tC (.str "turns"))) (gMost i):=ev_most
noncomputable def gsRow (f:Nat):GSp:=fun as n Q=>∃ (U:Int) (m:Nat) (d:PyData) (a:Int),as=[.jar,.d (numW f d a)]∧Wd U f m d∧m≤7∧f≤10∧0<n∧∀ (row:List Int) (n':Nat),0<n'→LgW f d a row→row.length≤m*(1+19*f)→Q (.list (row.map .int)) n'
theorem all2_at {α β:Type}{R:α→β→Prop}:∀ {as:List α}{bs:List β}{i:Nat}{b:β},All2 R as bs→bs[i]? = some b→∃ a,as[i]? = some a∧R a b
 | a::as,b::bs,0,_,h,e=>⟨a,rfl,by cases (show some b=some _ from e);exact h.1⟩
 | a::as,b::bs,i+1,_,h,e=>by
  obtain ⟨x,h1,h2⟩:=all2_at (i:=i) h.2 (by simpa using e)
  exact ⟨x,by simpa using h1,h2⟩
 | [],[],_,_,_,e=>by simp at e
 | [],_::_,_,_,h,_=>h.elim
 | _::_,[],_,_,h,_=>h.elim
theorem lgF_either {f:Nat}{a:Int}{ds:List PyData}{i:Nat}{d:PyData}{w:List Int}(hd:ds[i]? = some d) (h:LgW f d (a+(((rdF f "either" a (ds.take i)).gs.length:Nat):Int)) w):LgF f "either" a ds w:=by
 have key:∀ j,LgF f "either" a (ds.take (i+1+j)) w:=by
  intro j
  induction j with
  | zero=>
   rw [Nat.add_zero,List.take_add_one,hd]
   show LgF f "either" a (ds.take i++[d]) w
   rw [lgF_snoc]
   unfold combL
   rw [if_neg w_either_row]
   exact .inr h
  | succ j ih=>
   show LgF f "either" a (ds.take (i+1+j+1)) w
   rw [List.take_add_one]
   cases e:ds[i+1+j]? with
   | none=>simpa using ih
   | some y=>
    show LgF f "either" a (ds.take (i+1+j)++[y]) w
    rw [lgF_snoc]
    unfold combL
    rw [if_neg w_either_row]
    exact .inl ih
 have:=key ds.length
 rwa [List.take_of_length_le (by omega)] at this
theorem sum_take_at {ms:List Nat}{i m:Nat}(h:ms[i]? = some m):(ms.take (i+1)).sum=(ms.take i).sum+m:=by
 rw [List.take_add_one,h,List.sum_append]
 simp
theorem w_row_either:¬ (("row":Str) = "either"):=by decide +kernel
theorem pow3 {f:Nat}(h:f≤10):1+19*f≤191:=by omega
noncomputable def gsGoneW:GSp:=fun as n Q=>∃ (R U:Int) (ws:List Way),as=[.jar,.d (bookPD R U ws),.d (.int 30)]∧ws.length≤60∧∀ (walk:List Int) (room:Int),walk.length≤29→Pth ws 0 walk room→Q (.list (walk.map .int)) n
noncomputable def fromN (ws:List Way) (room:Int):List Int:=((List.range ws.length).filter fun i=>decide ((wayAt ws ((i:Nat):Int)).a=room)).map fun i=>((i:Nat):Int)
theorem fromN_mem {ws:List Way}{room k:Int}(h:k∈fromN ws room):(0≤k∧k<ws.length)∧(wayAt ws k).a=room:=by
 unfold fromN at h
 obtain ⟨i,hi,rfl⟩:=List.mem_map.mp h
 obtain ⟨h1,h2⟩:=List.mem_filter.mp hi
 have:=List.mem_range.mp h1
 exact ⟨⟨by omega,by omega⟩,of_decide_eq_true h2⟩
theorem pth_wk {ws:List Way}{ks:List Int}{a b:Int}(h:Pth ws a ks b) (hne:ks≠[]):∃ f,Wk ws ks f∧f.a=a∧f.b=b:=by
 obtain ⟨h1,h2,h3⟩:=pth_ab h hne
 exact ⟨_,⟨hne,h.inW,h3,rfl⟩,h1,h2⟩
noncomputable def gsIsWay1:GSp:=fun as n Q=>∃ (R U:Int) (w:Way),as=[.d (wayPD w),.d (.int R),.d (.int U)]∧WayOk R U w∧U≤6∧Q (.bool true) n
noncomputable def gsIsBook1:GSp:=fun as n Q=>∃ (R U:Int) (ws:List Way),as=[.d (bookPD R U ws)]∧BookOk R U ws∧Q (.bool true) n
noncomputable def gsTup1:GSp:=fun as n Q=>∃ (xs:List PyData) (m:Int),as=[.d (.tuple xs),.d (.int m)]∧Q (.bool (decide ((xs.length:Int)=m))) n
noncomputable def gsGains1:GSp:=fun as n Q=>∃ (gs:List Int) (U:Int),as=[.d (.tuple (gs.map .int)),.d (.int U)]∧(gs.length:Int)=U∧U≤6∧(∀ g∈gs,-99≤g∧g≤99)∧Q (.bool true) n
theorem betw_b {i lo hi:Int}(h1:lo≤i) (h2:i≤hi):(decide (lo≤i)&&decide (i≤hi))=true:=by rw [decide_eq_true h1,decide_eq_true h2];rfl
noncomputable def gsMadeW:GSp:=fun as n Q=>∃ (U:Int) (f m:Nat) (d:PyData),as=[.d d,.d (.int U)]∧Wd U f m d∧U≤6∧Q (.bool true) n
noncomputable def gsIsWordW:GSp:=fun as n Q=>∃ (U:Int) (m:Nat) (d:PyData),as=[.d d,.d (.int U)]∧Wd U 10 m d∧m≤7∧U≤6∧Q (.bool true) n
theorem wd_word {U:Int}:∀ {f m:Nat}{d:PyData},Wd U f m d→wordB U d=true
 | 0,_,_,h=>h.elim
 | f+1,m,d,h=>by
  rcases h with ⟨gs,rfl,hl,hg,rfl⟩ | ⟨e,rfl,h⟩ | ⟨s,ms,ds,hs,rfl,hne,ha,rfl⟩
  · rw [word_put];exact gains_ok hl hg
  · exact word_again
  · rw [word_row hs]
    cases ds with
    | nil=>exact absurd rfl hne
    | cons _ _=>rfl
theorem wd_inner {U:Int}:∀ {f m:Nat}{d:PyData},Wd U f m d→∀ e∈innerW d,∃ f m,Wd U f m e
 | 0,_,_,h=>h.elim
 | f+1,m,d,h=>by
  rcases h with ⟨gs,rfl,hl,hg,rfl⟩ | ⟨e,rfl,h⟩ | ⟨s,ms,ds,hs,rfl,hne,ha,rfl⟩
  · rw [inner_put];exact fun e he=>(by cases he)
  · rw [inner_again];exact fun e he=>by rw [List.mem_singleton.mp he];exact ⟨f,m,h⟩
  · rw [inner_row hs]
    intro e he
    obtain ⟨mm,_,hwx⟩:=all2_get ha he
    exact ⟨f,mm,hwx⟩
noncomputable def wayK' (r:Rg) (k:Int×Int):Way:=⟨k.1,k.2,r.gs.getD (k.2-1).toNat []⟩
noncomputable def wsOf (r:Rg) (ks:List (Int×Int)):List Way:=ks.map (wayK' r)
theorem bookW_pd {U:Int}{r:Rg}{ks:List (Int×Int)}{m:Nat}(h:r.gs.length=m):bookW U r ks=bookPD ((m:Int)+1) U (wsOf r ks):=by
 unfold bookW bookPD wsOf
 rw [List.map_map,h]
 rfl
theorem rd_gb {U:Int}:∀ {f m:Nat}{d:PyData}{a:Int},Wd U f m d→∀ g∈(rdW f d a).gs,∀ x∈g,-99≤x∧x≤99
 | 0,_,_,_,h=>h.elim
 | f+1,m,d,a,h=>by
  rcases h with ⟨gs,rfl,hl,hg,rfl⟩ | ⟨e,rfl,h⟩ | ⟨s,ms,ds,hs,rfl,hne,ha,rfl⟩
  · rw [rd_put]
    intro g hgm
    rw [List.mem_singleton.mp hgm];exact hg
  · rw [rd_again]
    exact rd_gb h
  · rw [rd_row hs,rdF_gs]
    intro g hgm
    obtain ⟨y,hy,hgy⟩:=List.mem_flatMap.mp hgm
    obtain ⟨mm,_,hwx⟩:=all2_get ha hy
    exact rd_gb hwx g hgy
structure KsOk (r:Rg) (m:Nat) (ks:List (Int×Int)):Prop where
 mem:∀ k,k∈ks↔k∈leadsR r
 up:(ks.map fun k=>8*k.1+k.2).Pairwise (· < ·)
theorem leads_b {U:Int}{f m:Nat}{r:Rg}(b:RgB U f m 0 r):∀ k∈leadsR r,(0≤k.1∧k.1≤(m:Int))∧1≤k.2∧k.2≤(m:Int):=fun k hk=>by
 unfold leadsR at hk
 rcases List.mem_append.mp hk with hk | hk
 · obtain ⟨c1,c2⟩:=crs_mem.mp hk
   have e1:k.1=0:=List.mem_singleton.mp c1
   have:=b.fb _ c2
   omega
 · have:=b.pb k hk
   omega
theorem KsOk.len {U:Int}{f m:Nat}{r:Rg}{ks:List (Int×Int)}(b:RgB U f m 0 r) (hm:m≤7) (h:KsOk r m ks):ks.length≤60:=by
 have e:=ways_one hm (leads_b b) h.mem h.up
 rw [← e]
 refine Nat.le_trans (List.length_filter_le _ _) ?_
 rw [gridU_len]
 have:(m+1)*m≤8*7:=Nat.mul_le_mul (by omega) hm
 omega
theorem KsOk.nd {r:Rg}{m:Nat}{ks:List (Int×Int)}(h:KsOk r m ks):ks.Nodup:=by
 have:=h.up
 rw [List.pairwise_map] at this
 exact this.imp fun {a b} hlt e=>by rw [e] at hlt;omega
theorem book_ok {U:Int}{m:Nat}{d:PyData}{ks:List (Int×Int)}(hU:1≤U∧U≤6) (hw:Wd U 10 m d) (hm:m≤7) (h:KsOk (rdW 10 d 0) m ks):BookOk ((m:Int)+1) U (wsOf (rdW 10 d 0) ks):=by
 have b:=rd_b (a:=0) hw
 have gb:=rd_gb (a:=0) hw
 refine ⟨by omega,by omega,hU.1,hU.2,by unfold wsOf;rw [List.length_map];exact h.len b hm,fun w hwm=>?_⟩
 unfold wsOf at hwm
 obtain ⟨k,hk,rfl⟩:=List.mem_map.mp hwm
 have kb:=leads_b b k ((h.mem k).mp hk)
 have hg:=b.g
 have hi:(k.2-1).toNat<(rdW 10 d 0).gs.length:=by omega
 have hin:(rdW 10 d 0).gs.getD (k.2-1).toNat []∈(rdW 10 d 0).gs:=by
  rw [List.getD_eq_getElem?_getD,List.getElem?_eq_getElem hi]
  exact List.getElem_mem hi
 exact ⟨kb.1.1,by show k.1<(m:Int)+1;omega,by show 0≤k.2;omega,by show k.2<(m:Int)+1;omega,b.gl _ hin,gb _ hin⟩
theorem one_at {α:Type} [DecidableEq α]:∀ {ks:List α}{k:α},ks.Nodup→k∈ks→∃ i,i<ks.length∧ks[i]? = some k∧(List.range ks.length).filter (fun j=>decide (ks[j]? = some k))=[i]:=by
 intro ks k nd hk
 obtain ⟨i,hi,e⟩:=List.mem_iff_getElem.mp hk
 have ei:ks[i]? = some k:=by rw [List.getElem?_eq_getElem hi,e]
 refine ⟨i,hi,ei,?_⟩
 have e1:(List.range ks.length).filter (fun j=>decide (ks[j]? = some k))=(List.range ks.length).filter (fun j=>decide (j=i)):=by
  refine List.filter_congr fun j hj=>decide_eq_decide.mpr ⟨fun h=>?_,fun h=>by rw [h];exact ei⟩
  by_cases hij:j=i
  · exact hij
  · exact absurd rfl (nd_ne nd hij h ei)
 rw [e1]
 have nd2:((List.range ks.length).filter (fun j=>decide (j=i))).Nodup:=List.nodup_range.sublist List.filter_sublist
 have mem:∀ j,j∈(List.range ks.length).filter (fun j=>decide (j=i))↔j=i:=fun j=>by
  rw [List.mem_filter,List.mem_range,decide_eq_true_iff]
  exact ⟨fun h=>h.2,fun h=>⟨by rw [h];exact hi,h⟩⟩
 generalize (List.range ks.length).filter (fun j=>decide (j=i))=l at nd2 mem
 match l,nd2,mem with
 | [],_,mem=>exact absurd ((mem i).mpr rfl) (by simp)
 | [a],_,mem=>rw [(mem a).mp List.mem_cons_self]
 | a::b::t,nd2,mem=>
  have h1:=(mem a).mp List.mem_cons_self
  have h2:=(mem b).mp (List.mem_cons_of_mem _ List.mem_cons_self)
  exact absurd (h1.trans h2.symm) (by
   have:=List.nodup_cons.mp nd2
   exact fun z=>this.1 (by rw [z];exact List.mem_cons_self))
theorem Ch.fin {ps qs:List (Int×Int)}:∀ {xs:List Int}{x y z:Int},Ch ps x xs y→Ch qs x xs z→y=z
 | [],_,_,_,h,g=>(show _=_ from h).symm.trans g
 | _::_,_,_,_,h,g=>Ch.fin h.2 g.2
section
variable {U:Int}{f m:Nat}{r:Rg}
theorem ch_ps (b:RgB U f m 0 r):∀ {xs:List Int}{x z:Int},1≤x→Ch (leadsR r) x xs z→Ch r.ps x xs z∧1≤z
 | [],x,z,hx,h=>⟨h,by cases (show x=z from h);exact hx⟩
 | y::ys,x,z,hx,h=>by
  have hp:(x,y)∈r.ps:=by
   have:=h.1
   unfold leadsR at this
   rcases List.mem_append.mp this with p | p
   · have e1:x=0:=List.mem_singleton.mp (crs_mem.mp p).1
     omega
   · exact p
  have hy:0<y:=(b.pb _ hp).2.1
  obtain ⟨c1,c2⟩:=ch_ps b (by omega) h.2
  exact ⟨⟨hp,c1⟩,c2⟩
theorem lead_path (b:RgB U f m 0 r) {row:List Int}{z:Int}(h:Ch (leadsR r) 0 row z):PathR r row↔z∈r.ls∨(z=0∧r.no=true):=by
 cases row with
 | nil=>
  have hz:(0:Int)=z:=h
  subst hz
  constructor
  · exact fun h=>.inr ⟨rfl,h⟩
  · rintro (h | h)
    · have:=b.lb _ h;omega
    · exact h.2
 | cons x xs=>
  have hx:x∈r.fs:=by
   have:=h.1
   unfold leadsR at this
   rcases List.mem_append.mp this with p | p
   · exact (crs_mem.mp p).2
   · have:(0:Int)<0:=(b.pb _ p).1.1;omega
  have x1:=(b.fb _ hx).1
  obtain ⟨c1,c2⟩:=ch_ps b (by omega) h.2
  constructor
  · rintro ⟨_,z',hz,hc⟩
    exact .inl (by rw [c1.fin hc];exact hz)
  · rintro (hz | hz)
    · exact ⟨hx,z,hz,c1⟩
    · omega
theorem path_lead (b:RgB U f m 0 r) {row:List Int}(h:PathR r row):∃ z,Ch (leadsR r) 0 row z:=by
 cases row with
 | nil=>exact ⟨0,rfl⟩
 | cons x xs=>
  obtain ⟨h1,z,hz,hc⟩:=h
  exact ⟨z,List.mem_append_left _ (crs_mem.mpr ⟨List.mem_cons_self,h1⟩),hc.mono fun k hk=>List.mem_append_right _ hk⟩
theorem rooms_mem {os:List Int}(h:os.Perm (if r.no=true then r.ls++[0] else r.ls)) (z:Int):z∈os↔z∈r.ls∨(z=0∧r.no=true):=by
 rw [h.mem_iff]
 split
 · rename_i c
   rw [List.mem_append,List.mem_singleton]
   exact ⟨fun z=>z.imp id fun z=>⟨z,c⟩,fun z=>z.imp id And.left⟩
 · rename_i c
   exact ⟨.inl,fun z=>z.elim id fun z=>absurd z.2 c⟩
end
theorem over_all {U:Int}{m:Nat}{d:PyData}{row out:List Int}(hw:Wd U 10 m d) (h:Over (LgW 10 d 0) row [0] out):(row.length:Int)∈out↔PathR (rdW 10 d 0) row:=by
 rw [h.1,← glu hw,← spn_whole (L:=LgW 10 d 0) (row:=row)]
 constructor
 · rintro ⟨s,hs,hq⟩
   rw [List.mem_singleton.mp hs] at hq
   exact hq
 · exact fun hq=>⟨0,List.mem_cons_self,hq⟩
theorem ws_at {r:Rg}{ks:List (Int×Int)}{k:Int}(h0:0≤k) (h1:k<(wsOf r ks).length):∃ p,ks[k.toNat]? = some p∧wayAt (wsOf r ks) k=wayK' r p:=by
 unfold wsOf at h1 ⊢
 rw [List.length_map] at h1
 have hk:k.toNat<ks.length:=by omega
 refine ⟨ks[k.toNat],List.getElem?_eq_getElem hk,?_⟩
 unfold wayAt
 rw [List.getD_eq_getElem?_getD,List.getElem?_map,List.getElem?_eq_getElem hk]
 rfl
theorem pth_ch {r:Rg}{m:Nat}{ks:List (Int×Int)}(h:KsOk r m ks):∀ {walk:List Int}{s t:Int},Pth (wsOf r ks) s walk t→Ch (leadsR r) s (walk.map fun k=>(wayAt (wsOf r ks) k).b) t
 | [],_,_,e=>e
 | k::walk,s,t,e=>by
  obtain ⟨p,hp,hk⟩:=ws_at e.1.1 e.1.2
  refine ⟨?_,pth_ch h e.2.2⟩
  have ea:(wayAt (wsOf r ks) k).a=s:=e.2.1
  show (s,(wayAt (wsOf r ks) k).b)∈leadsR r
  rw [← ea,hk]
  exact (h.mem p).mp (List.mem_of_getElem? hp)
noncomputable def oneW (r:Rg) (ks:List (Int×Int)) (a b:Int) (j:Nat):Bool:=decide ((wayAt (wsOf r ks) ((j:Nat):Int)).a=a)&&decide ((wayAt (wsOf r ks) ((j:Nat):Int)).b=b)
theorem one_way {r:Rg}{m:Nat}{ks:List (Int×Int)}{a b:Int}(h:KsOk r m ks) (hl:(a,b)∈leadsR r):∃ i:Nat,i<(wsOf r ks).length∧(wayAt (wsOf r ks) (i:Int)).a=a∧(wayAt (wsOf r ks) (i:Int)).b=b∧(List.range (wsOf r ks).length).filter (oneW r ks a b)=[i]:=by
 obtain ⟨i,hi,e1,e2⟩:=one_at h.nd ((h.mem _).mpr hl)
 have wl:(wsOf r ks).length=ks.length:=List.length_map _
 have at1:∀ j,j<ks.length→wayAt (wsOf r ks) ((j:Nat):Int)=wayK' r (ks.getD j (0,0)):=fun j hj=>by
  obtain ⟨p,hp,hk⟩:=ws_at (r:=r) (ks:=ks) (k:=(j:Int)) (by omega) (by rw [wl];omega)
  rw [Int.toNat_natCast] at hp
  rw [hk,List.getD_eq_getElem?_getD,hp]
  rfl
 have gi:ks.getD i (0,0)=(a,b):=by rw [List.getD_eq_getElem?_getD,e1];rfl
 refine ⟨i,by rw [wl];exact hi,by rw [at1 i hi,gi];rfl,by rw [at1 i hi,gi];rfl,?_⟩
 rw [wl,← e2]
 refine List.filter_congr fun j hj=>?_
 have hj:=List.mem_range.mp hj
 unfold oneW
 rw [at1 j hj,List.getD_eq_getElem?_getD,List.getElem?_eq_getElem hj]
 show (decide (ks[j].1=a)&&decide (ks[j].2=b))=decide (some ks[j]=some (a,b))
 rw [Bool.eq_iff_iff,Bool.and_eq_true,decide_eq_true_iff,decide_eq_true_iff,decide_eq_true_iff]
 exact ⟨fun ⟨h1,h2⟩=>congrArg some (Prod.ext h1 h2),fun h=>by have:=Option.some.inj h;rw [this];exact ⟨rfl,rfl⟩⟩
end My
set_option synthInstance.maxSize 100000
set_option synthInstance.maxHeartbeats 4000000
namespace My
open PySem PySem.Spec PyProof.Rows L2
noncomputable def top (i:Nat):Stmt:=PySem.Challenge.pw_fallsum_k65_whole_walks_are_rows.main.body.getD i (.Pass ⟨0,0,0,0⟩)
noncomputable abbrev s_is_whole:Stmt:=top 5
noncomputable abbrev s_is_between:Stmt:=top 6
noncomputable abbrev s_is_tuple_of:Stmt:=top 7
noncomputable abbrev s_are_gains:Stmt:=top 8
noncomputable abbrev s_is_way:Stmt:=top 9
noncomputable abbrev s_is_book:Stmt:=top 10
noncomputable abbrev s_has_way:Stmt:=top 11
noncomputable abbrev s_is_made_as_word:Stmt:=top 15
noncomputable abbrev s_inner_words:Stmt:=top 16
noncomputable abbrev s_is_word:Stmt:=top 17
noncomputable abbrev s_every_pair:Stmt:=top 18
noncomputable abbrev s_one_behind_other:Stmt:=top 19
noncomputable abbrev s_one_or_other:Stmt:=top 20
noncomputable abbrev s_over_and_over:Stmt:=top 21
noncomputable abbrev s_read_word:Stmt:=top 22
noncomputable abbrev s_word_book:Stmt:=top 23
noncomputable abbrev s_is_walk:Stmt:=top 25
noncomputable abbrev s_ends_of:Stmt:=top 26
noncomputable abbrev s_law_mix:Stmt:=top 28
noncomputable abbrev s_law_jar:Stmt:=top 29
noncomputable abbrev s_law_pick:Stmt:=top 30
noncomputable abbrev s_law_split:Stmt:=top 31
noncomputable abbrev s_law_word_of:Stmt:=top 32
noncomputable abbrev s_law_within:Stmt:=top 33
noncomputable abbrev s_law_some_word:Stmt:=top 34
noncomputable abbrev s_law_numbered:Stmt:=top 35
noncomputable abbrev s_law_row:Stmt:=top 36
noncomputable abbrev s_law_over:Stmt:=top 37
noncomputable abbrev s_law_gone:Stmt:=top 38
noncomputable abbrev s_law:Stmt:=top 39
structure Txt (mg:Str→Option Value):Prop where
 b_isinstance:mg "isinstance" = none
 b_int:mg "int" = none
 b_bool:mg "bool" = none
 b_str:mg "str" = none
 b_tuple:mg "tuple" = none
 b_len:mg "len" = none
 b_all:mg "all" = none
 b_sum:mg "sum" = none
 b_range:mg "range" = none
 b_list:mg "list" = none
 b_zip:mg "zip" = none
 b_enumerate:mg "enumerate" = none
 b_max:mg "max" = none
 b_repr:mg "repr" = none
 b_sorted:mg "sorted" = none
 b_set:mg "set" = none
 g_MOST_GAIN:GInt mg "MOST_GAIN" 99
 g_MOST_ROOMS:GInt mg "MOST_ROOMS" 12
 g_MOST_PURSES:GInt mg "MOST_PURSES" 6
 g_MOST_WAYS:GInt mg "MOST_WAYS" 60
 g_MOST_PUTS:GInt mg "MOST_PUTS" 7
 g_MOST_WITHIN:GInt mg "MOST_WITHIN" 10
section
variable {P:Program}{w:World}{K:PySem.W.Frag}{mg:Str→Option Value}{base:Heap}
theorem sc_law_mix:FnScope ["one"] ["one"] (defScope s_law_mix):=⟨rfl,rfl,rfl,by decide +kernel,rfl,by decide +kernel,by decide +kernel⟩
theorem ok_law_mix (T:Txt mg) (D:Def K mg "_law_mix" s_law_mix ["one"]):Cal P w K mg base "_law_mix" 1 ["one"] spMix:=by
 refine D.cal fun f fd F=>F.ok sc_law_mix (fun vs H Q E h=>?_) (fun cdv A outer s H vs Q E hr h=>?_)
 · obtain ⟨n,rfl,_⟩:=h
   rfl
 obtain ⟨n,rfl,h0,h1,q⟩:=h
 refine ⟨_,(@pss_cons _ _ _ _ _ (ps_set (i:=0) sc_law_mix.nd rfl (Or.inl rfl) (pe_op op_mod (pe_op op_mul (pe_op op_xor (pv 0) (pe_op op_fdivB (pv 0) pe_int)) pe_int) pe_int))
  (@pss_cons _ _ _ _ _ (ps_set (i:=0) sc_law_mix.nd rfl (Or.inl rfl) (pe_op op_mod (pe_op op_mul (pe_op op_xor (pv 0) (pe_op op_fdivB (pv 0) pe_int)) pe_int) pe_int))
  (@pss_one _ _ _ (@ps_ret _ _ _ _ (pe_op op_xor (pv 0) (pe_op op_fdivB (pv 0) pe_int)))))),?_⟩
 have m:∀ z:Int,0≤z%18446744073709551616∧z%18446744073709551616<18446744073709551616:=fun z=>⟨Int.emod_nonneg _ (by decide),Int.emod_lt_of_pos _ (by decide)⟩
 have xb:∀ z:Int,(0≤z∧z<18446744073709551616)→0≤Builtin.bitXor z (z/2147483648)∧Builtin.bitXor z (z/2147483648)<2^64:=fun z hz=>xor_bound (by omega) (by omega) (by omega) (by omega)
 refine ⟨_,rfl,_,rfl,_,_,rfl,rfl,cdivB_of (by decide) (by decide +kernel),_,_,rfl,rfl,_,_,rfl,rfl,.inr ⟨by decide,by decide⟩,_,_,rfl,rfl,(show (0:Int)<18446744073709551616 by decide),?_⟩
 refine ⟨_,rfl,_,rfl,_,_,rfl,rfl,cdivB_of (by decide) (by decide +kernel),_,_,rfl,rfl,_,_,rfl,rfl,.inr ⟨by decide,by decide⟩,_,_,rfl,rfl,(show (0:Int)<18446744073709551616 by decide),?_⟩
 refine ⟨_,rfl,_,rfl,_,_,rfl,rfl,cdivB_of (by decide) (by decide +kernel),_,_,rfl,rfl,?_⟩
 exact q _ (xb _ (m _)).1 (xb _ (m _)).2
theorem sc_law_jar:FnScope ["script","seed","cell"] ["script"] (defScope s_law_jar):=⟨rfl,rfl,rfl,by decide +kernel,rfl,by decide +kernel,by decide +kernel⟩
theorem ok_law_jar (T:Txt mg) (D:Def K mg "_law_jar" s_law_jar ["script"]) (c__law_mix:Cal P w K mg base "_law_mix" 1 ["one"] spMix):Cal P w K mg base "_law_jar" 2 ["script"] (spJar K):=by
 refine D.cal fun f fd F=>F.ok sc_law_jar (fun vs H Q E h=>?_) (fun cdv A outer s H vs Q E hr h=>?_)
 · obtain ⟨a,ns,rfl,_⟩:=h
   rfl
 obtain ⟨a,ns,rfl,hS,hlen,q⟩:=h
 refine ⟨_,(@pss_cons _ _ _ _ _ (ps_set (i:=1) sc_law_jar.nd rfl (Or.inl rfl) pe_int)
  (@pss_cons _ _ _ _ _ (ps_for PassesOwn.never rfl (pi_list (pe_slice sl_list (pv 0) po_none (po_some pe_int))) (pg_name (i:=2) sc_law_jar.nd rfl (Or.inl rfl) (Or.inl rfl))
  (@pss_one _ _ _ (ps_set (i:=1) sc_law_jar.nd rfl (Or.inl rfl) (pe_c c__law_mix (hr.mono (by decide)) rfl (pa_binop (pe_op op_mod (pe_op op_add (pe_op op_mul (pv 1) pe_int) (pv 2)) pe_int) pa_nil)))))
  (@pss_one _ _ _ (@ps_ret _ _ _ _ (pe_disp (pps_cons pe_str (pe_callTy call_list_of rfl T.b_list boot_list (pa_sub (pe_slice sl_list (pv 0) po_none (po_some pe_int)) pa_nil)) (pps_cons pe_str pe_int (pps_cons pe_str (pv 1) (pps_cons pe_str pe_int pps_nil)))) rfl rfl (by simp) (by simp)))))),?_⟩
 obtain ⟨ms,ems,lms⟩:=cutV_ints ns none (some 63)
 refine seq_by (fun σ' H'=>∃ (x:Option V) (sd:Int),σ'=[some (.ref a),some (.int sd),x]∧Kp [] H H'∧0≤sd∧sd<2^64) (fun N hN=>hN _ _ ⟨none,2545678901234567,rfl,.refl,by decide,by decide⟩) ?_
 rintro σ1 H1 ⟨x1,sd1,rfl,k1,b1,b2⟩
 have hS1:SqL K H1 a (ns.map V.int):=(show Same H H1 from fun b o e=>k1 b o e (by simp)).seq hS
 refine seq_by (fun σ' H'=>∃ (x:Option V) (sd:Int),σ'=[some (.ref a),some (.int sd),x]∧Kp [] H H'∧0≤sd∧sd<2^64) (fun N hN=>?_) ?_
 · refine ⟨_,rfl,_,rfl,a,_,rfl,hS1,fun p hp=>?_⟩
   rw [ems]
   refine ⟨p,rfl,⟨_,SqL.of upd_same⟩,for_list (K:=K) (a:=p) (xs:=ms.map V.int) (fun i σ H2=>∃ (x:Option V) (sd:Int),σ = [some (.ref a),some (.int sd),x]∧Kp [] (upd H1 p (.lst (ms.map V.int))) H2∧0≤sd∧sd<2^64)
    ⟨x1,sd1,rfl,.refl,b1,b2⟩ (fun i σ H2 _ ⟨_,_,_,k2,_⟩=>SqL.of (k2 _ _ upd_same (by simp))) ?_ ?_⟩
   · rintro i y σ H2 hi ⟨x2,sd2,rfl,k2,c1,c2⟩
     obtain ⟨z,rfl⟩:∃ z,y=V.int z:=by
      rw [List.getElem?_map] at hi
      cases e:ms[i]? with
      | none=>rw [e] at hi;cases hi
      | some z=>rw [e] at hi;exact ⟨z,(Option.some.inj hi).symm⟩
     refine ⟨_,rfl,_,_,rfl,rfl,.inr ⟨by decide,by decide⟩,_,rfl,_,_,rfl,rfl,_,_,rfl,rfl,(show (0:Int)<18446744073709551616 by decide),_,rfl,Int.emod_nonneg _ (by decide),Int.emod_lt_of_pos _ (by decide),fun r r0 r1=>?_⟩
     exact ⟨_,r,rfl,k2,r0,r1⟩
   · rintro σ H2 ⟨x2,sd2,rfl,k2,c1,c2⟩
     exact hN _ _ ⟨x2,sd2,rfl,k1.trans ((Kp.new hp _).trans k2),c1,c2⟩
 · rintro σ2 H2 ⟨x2,sd2,rfl,k2,c1,c2⟩
   have hS2:SqL K H2 a (ns.map V.int):=(show Same H H2 from fun b o e=>k2 b o e (by simp)).seq hS
   intro p hp
   have kp:Kp [] H2 (upd H2 p (.dK [])):=Kp.new hp _
   refine ⟨_,rfl,_,rfl,a,_,rfl,(show Same H2 _ from fun b o e=>kp b o e (by simp)).seq hS2,fun l1 hl1=>?_⟩
   rw [ems]
   refine ⟨l1,_,rfl,.inl (SqL.of upd_same),fun l2 hl2=>?_⟩
   have n1:l1≠p:=fun z=>by rw [z,upd_same] at hl1;cases hl1
   have n2:l2≠p:=fun z=>by rw [z,upd_ne (Ne.symm n1),upd_same] at hl2;cases hl2
   refine ⟨_,rfl,?_⟩
   refine ⟨by rw [upd_ne (Ne.symm n2),upd_ne (Ne.symm n1),upd_same],[(Sum.inr "cells",V.ref l2),(Sum.inr "rest",V.int 0),(Sum.inr "seed",V.int sd2),(Sum.inr "turn",V.int 0)],rfl,(show 4≤15 by decide),?_⟩
   have k3:Kp [] H2 (upd (upd (upd H2 p (.dK [])) l1 (.lst (ms.map V.int))) l2 (.lst (ms.map V.int))):=kp.trans ((Kp.new hl1 _).trans (Kp.new hl2 _))
   have hl2':H2 l2=none:=by
    rw [upd_ne (fun z=>by rw [z,upd_same] at hl2;cases hl2),upd_ne n2] at hl2;exact hl2
   refine q p l2 _ (k2.trans (fun b o e _=>?_)) ?_ ?_ ⟨ms,0,sd2,(0,none),?_,?_,by omega,c1,c2⟩
   · rw [upd_ne (ne_of_none e hp)];exact k3 b o e (by simp)
   · exact (show Same H H2 from fun b o e=>k2 b o e (by simp)).free hp
   · exact (show Same H H2 from fun b o e=>k2 b o e (by simp)).free hl2'
   · rw [upd_same,← jar_made]
   · rw [upd_ne n2,upd_same]
theorem sc_law_pick:FnScope ["jar","many","cell","one","found"] ["jar","many"] (defScope s_law_pick):=⟨rfl,rfl,rfl,by decide +kernel,rfl,by decide +kernel,by decide +kernel⟩
theorem ok_law_pickE (T:Txt mg) (D:Def K mg "_law_pick" s_law_pick ["jar","many"]) (c__law_mix:Cal P w K mg base "_law_mix" 1 ["one"] spMix):Cal P w K mg base "_law_pick" 2 ["jar","many"] spPickE:=by
 refine D.cal fun f fd F=>F.ok sc_law_pick (fun vs H Q E h=>?_) (fun cdv A outer s H vs Q E hr h=>?_)
 · obtain ⟨p,c,n,e,rfl,_⟩:=h
   rfl
 obtain ⟨p,c,n,e,rfl,J,h0,h1,q⟩:=h
 refine ⟨_,(@pss_cons _ _ _ _ _ (ps_if (pt_cmpR op_lt (pe_dget (hu_of hr) (pv 0) pe_str (fun _ _=>rfl)) (pv 1) (nomark _)) (@pss_cons _ _ _ _ _ (ps_dput (hu_of hr) (pv 0) pe_str (pe_op op_add (pe_dget (hu_of hr) (pv 0) pe_str (fun _ _=>rfl)) pe_int) rfl)
  (@pss_one _ _ _ (ps_if (pt_cmpR (op_neD hr.units) (pe_dget (hu_of hr) (pv 0) pe_str (fun _ _=>rfl)) (@PEs.out _ _ _ (pes_lst pas_nil)) (nomark _)) (@pss_cons _ _ _ _ _ (ps_set (i:=2) sc_law_pick.nd rfl (Or.inl rfl) (pe_bm PySem.F.plainAttrs_list PySem.F.slot_list_pop PySem.F.type_list_pop mt_popAt (pe_dget (hu_of hr) (pv 0) pe_str (fun _ _=>rfl)) (pa_const pe_int pa_nil)))
  (@pss_cons _ _ _ _ _ (ps_dput (hu_of hr) (pv 0) pe_str (pv 2) rfl)
  (@pss_one _ _ _ (ps_if (pt_cmpR op_lt (pv 2) (pe_op op_pow pe_int pe_int) (nomark _)) (@pss_cons _ _ _ _ _ (ps_set (i:=3) sc_law_pick.nd rfl (Or.inl rfl) (pe_c c__law_mix (hr.mono (by decide)) rfl (pa_binop (pe_op op_mod (pe_op op_add (pe_op op_mul (pv 2) pe_int) (pe_dget (hu_of hr) (pv 0) pe_str (fun _ _=>rfl))) pe_int) pa_nil)))
  (@pss_one _ _ _ (ps_dput (hu_of hr) (pv 0) pe_str (pe_op op_add (pe_op op_mul (pv 3) pe_int) (pe_c c__law_mix (hr.mono (by decide)) rfl (pa_binop (pe_op op_xor (pv 3) pe_int) pa_nil))) rfl))) pss_nil)))) (@pss_cons _ _ _ _ _ (ps_dput (hu_of hr) (pv 0) pe_str (pe_c c__law_mix (hr.mono (by decide)) rfl (pa_binop (pe_op op_mod (pe_op op_add (pe_dget (hu_of hr) (pv 0) pe_str (fun _ _=>rfl)) pe_int) pe_int) pa_nil)) rfl)
  (@pss_one _ _ _ (ps_dput (hu_of hr) (pv 0) pe_str (pe_dget (hu_of hr) (pv 0) pe_str (fun _ _=>rfl)) rfl)))))) pss_nil)
  (@pss_cons _ _ _ _ _ (ps_set (i:=4) sc_law_pick.nd rfl (Or.inl rfl) (pe_op op_mod (pe_dget (hu_of hr) (pv 0) pe_str (fun _ _=>rfl)) (pv 1)))
  (@pss_cons _ _ _ _ _ (ps_dput (hu_of hr) (pv 0) pe_str (pe_op op_fdivB (pe_dget (hu_of hr) (pv 0) pe_str (fun _ _=>rfl)) (pv 1)) rfl)
  (@pss_one _ _ _ (@ps_ret _ _ _ _ (pv 4)))))),?_⟩
 refine seq_by (fun σ' H'=>∃ x y:Option V,σ'=[some (.ref p),some (.int n),x,y,none]∧JarE H' p c e∧Kp [p,c] H H') (fun N hN=>?_) ?_
 · obtain ⟨ns,r,sd,tn,X,hl,s0,s1⟩:=J
   refine ⟨_,rfl,p,_,rfl,X.rest,_,rfl,_,_,rfl,rfl,_,rfl,?_⟩
   refine ite_b (fun cc=>?_) (fun cc=>hN _ _ ⟨none,none,rfl,⟨ns,r,sd,tn,X,hl,s0,s1⟩,.refl⟩)
   -- turn
   refine ⟨_,rfl,p,_,rfl,X.turn,_,_,rfl,rfl,_,rfl,p,_,rfl,X.pTurn _,?_⟩
   have X1:=X.put r sd (tn+1,e)
   have k1:Kp [p,c] H (upd H p (.dK (jarKV c r sd (tn+1,e)))):=Kp.at (by simp) _
   generalize upd H p (.dK (jarKV c r sd (tn+1,e)))=H1 at X1 k1 ⊢
   refine ⟨_,rfl,p,_,rfl,X1.cells,(by decide),fun l hl1=>?_⟩
   have X2:JarX (upd H1 l (.lst [])) p c ns r sd (tn+1,e):=X1.new hl1
   have k2:Kp [p,c] H (upd H1 l (.lst [])):=k1.trans (Kp.new hl1 _)
   refine ⟨[],.list (ns.map PyData.int),.list [],.list X2.l (by simp) (by rw [List.length_map];exact Nat.le_trans hl (by decide)) (Reps.ints ns),.list upd_same (by simp) (by simp) .nil,canLay_ints ns,rfl,Nat.le_trans (Nat.min_le_right _ _) (by decide),_,rfl,?_⟩
   rw [eqv_nil]
   generalize upd H1 l (.lst [])=H2 at X2 k2 ⊢
   cases ns with
   | nil=>
    refine iteF ?_
    refine ⟨_,rfl,p,_,rfl,X2.seed,_,_,rfl,rfl,_,_,rfl,rfl,(show (0:Int)<18446744073709551616 by decide),_,rfl,Int.emod_nonneg _ (by decide),Int.emod_lt_of_pos _ (by decide),fun m m0 m1=>?_⟩
    refine ⟨_,rfl,p,_,rfl,X2.pSeed m,?_⟩
    have X3:=X2.put r m (tn+1,e)
    refine ⟨_,rfl,p,_,rfl,X3.seed,_,rfl,p,_,rfl,X3.pRest m,?_⟩
    exact hN _ _ ⟨none,none,rfl,(X3.put m m (tn+1,e)).jarE hl m0 m1,k2.trans ((Kp.at (by simp) _).trans (Kp.at (by simp) _))⟩
   | cons n0 ns=>
    refine iteT ?_
    refine ⟨_,rfl,p,_,rfl,X2.cells,.inl ⟨rfl,_,SqL.of X2.l⟩,c,_,0,0,V.int n0,rfl,rfl,X2.l,by decide,by decide,by rw [List.length_map];exact seqIndex_0 _,rfl,?_⟩
    have X3:JarX (upd H2 c (.lst (List.eraseIdx ((n0::ns).map V.int) 0))) p c ns r sd (tn+1,e):=X2.cut ns
    have k3:Kp [p,c] H (upd H2 c (.lst (List.eraseIdx ((n0::ns).map V.int) 0))):=k2.trans (Kp.at (by simp) _)
    generalize upd H2 c (.lst (List.eraseIdx ((n0::ns).map V.int) 0))=H3 at X3 k3 ⊢
    have hl':ns.length≤63:=by rw [List.length_cons] at hl;omega
    refine ⟨_,rfl,_,rfl,p,_,rfl,X3.pRest n0,?_⟩
    have X4:=X3.put n0 sd (tn+1,e)
    have k4:Kp [p,c] H (upd H3 p (.dK (jarKV c n0 sd (tn+1,e)))):=k3.trans (Kp.at (by simp) _)
    generalize upd H3 p (.dK (jarKV c n0 sd (tn+1,e)))=H4 at X4 k4 ⊢
    refine ⟨_,rfl,_,_,rfl,rfl,⟨by decide,by decide,by decide⟩,_,_,rfl,rfl,_,rfl,?_⟩
    refine ite_b (fun cc=>?_) (fun cc=>hN _ _ ⟨_,none,rfl,X4.jarE hl' s0 s1,k4⟩)
    refine ⟨_,rfl,_,_,rfl,rfl,.inr ⟨by decide,by decide⟩,_,rfl,p,_,rfl,X4.turn,_,_,rfl,rfl,_,_,rfl,rfl,(show (0:Int)<18446744073709551616 by decide),_,rfl,Int.emod_nonneg _ (by decide),Int.emod_lt_of_pos _ (by decide),fun m m0 m1=>?_⟩
    refine ⟨_,rfl,_,_,rfl,rfl,.inl ⟨by omega,by omega⟩,_,rfl,_,_,rfl,rfl,_,rfl,(xor_bound m0 m1 (by decide) (by decide)).1,(xor_bound m0 m1 (by decide) (by decide)).2,fun m' m'0 m'1=>?_⟩
    refine ⟨_,_,rfl,rfl,_,rfl,p,_,rfl,X4.pRest _,?_⟩
    exact hN _ _ ⟨_,_,rfl,(X4.put _ sd (tn+1,e)).jarE hl' s0 s1,k4.trans (Kp.at (by simp) _)⟩
 · rintro σ1 H1 ⟨x,y,rfl,J1,k1⟩
   obtain ⟨ns,r,sd,tn,X,hl,s0,s1⟩:=J1
   refine ⟨_,rfl,p,_,rfl,X.rest,_,rfl,_,_,rfl,rfl,h0,?_⟩
   refine ⟨_,rfl,p,_,rfl,X.rest,_,rfl,_,_,rfl,rfl,cdivB_of h0 h1,_,rfl,p,_,rfl,X.pRest _,?_⟩
   refine ⟨_,rfl,?_⟩
   exact q _ _ (Int.emod_nonneg _ (by omega)) (Int.emod_lt_of_pos _ h0) ((X.put _ sd (tn,e)).jarE hl s0 s1) (k1.trans (Kp.at (by simp) _))
theorem sc_law_split:FnScope ["jar","many","found"] ["jar","many"] (defScope s_law_split):=⟨rfl,rfl,rfl,by decide +kernel,rfl,by decide +kernel,by decide +kernel⟩
theorem ok_law_split (T:Txt mg) (D:Def K mg "_law_split" s_law_split ["jar","many"]) (c__law_pick:Cal P w K mg base "_law_pick" 2 ["jar","many"] (liftV gsPick)):Cal P w K mg base "_law_split" 3 ["jar","many"] (liftN gsSplit):=by
 refine D.cal fun f fd F=>F.ok sc_law_split (lift_lenN ?_) (fun cdv A outer s H vs Q E hr h=>?_)
 · rintro as n P ⟨many,rfl,_⟩
   rfl
 refine ⟨_,(@pss_cons _ _ _ _ _ (@ps_setD _ _ 2 _ _ _ _ sc_law_split.nd rfl (Or.inl rfl) (pes_lst pas_nil) rfl (Or.inl rfl))
  (@pss_cons _ _ _ _ _ (ps_while PassesOwn.never (pt_cmpR op_gt (pv 1) pe_int (nomark _))
  (@pss_cons _ _ _ _ _ (ps_expr (pe_bm PySem.F.plainAttrs_list PySem.F.slot_list_append PySem.F.type_list_append mt_append (pv 2) (pa_binop (pe_op op_add pe_int (pe_c c__law_pick (hr.mono (by decide)) rfl (pa_name (pv 0) (pa_name (pv 1) pa_nil)))) pa_nil)))
  (@pss_one _ _ _ (ps_set (i:=1) sc_law_split.nd rfl (Or.inl rfl) (pe_op op_sub (pv 1) (pe_ix ix_list (pv 2) (pe_un un_neg pe_int) (fun _ _=>rfl)))))))
  (@pss_one _ _ _ (@ps_ret _ _ _ _ (pv 2))))),lift_bodyN h ?_⟩
 rintro as n P ⟨many,rfl,hm,q⟩
 have hs:sizeLine=16777216:=sizeLine_eq
 refine ⟨rfl,Nat.zero_le _,⟨_,.refl,?_⟩⟩
 refine ⟨fun k env j=>j=n∧∃ (ms:List Nat) (left:Nat),env=[.jar,.d (.int (left:Int)),.own (ms.map fun x:Nat=>.int (x:Int))]∧(∀ x∈ms,1≤x)∧ms.sum+left=many∧k=left,⟨many,rfl,[],many,rfl,fun x hx=>(by cases hx),by simp,rfl⟩,?_⟩
 rintro k _ _ ⟨rfl,ms,left,rfl,hp,hsum,rfl⟩
 have hl:=sum_pos hp
 refine ite_b (fun c=>?_) (fun c=>?_)
 · have hpos:0<k:=by have:=of_decide_eq_true c;omega
   refine ⟨(k:Int),rfl,by omega,small9000 (by omega),fun r r0 r1=>⟨by rw [List.length_map];omega,⟨_,.refl,?_⟩⟩⟩
   refine ⟨.int (1+r),at_last (by simp) (by simp),k-(1+r.toNat),by omega,rfl,ms++[1+r.toNat],k-(1+r.toNat),?_,fun x hx=>?_,?_,rfl⟩
   · have h1:((1+r.toNat:Nat):Int)=1+r:=by omega
     have h2:((k-(1+r.toNat):Nat):Int)=(k:Int)-(1+r):=by omega
     rw [List.map_append,List.map_singleton,h1,h2];rfl
   · rcases List.mem_append.mp hx with hx | hx
     · exact hp x hx
     · rw [List.mem_singleton.mp hx];omega
   · rw [List.sum_append,List.sum_cons,List.sum_nil];omega
 · have:k=0:=by have:=of_decide_eq_false c;omega
   exact ⟨_,.refl,q ms hp (by omega)⟩
theorem sc_law_word_of:FnScope ["jar","purses","many","deep","way","far","sizes"] ["jar","purses","many","deep"] (defScope s_law_word_of):=⟨rfl,rfl,rfl,by decide +kernel,rfl,by decide +kernel,by decide +kernel⟩
theorem ok_law_word_of (T:Txt mg) (D:Def K mg "_law_word_of" s_law_word_of ["jar","purses","many","deep"]) (c__law_pick:Cal P w K mg base "_law_pick" 2 ["jar","many"] (liftV gsPick)) (c__law_split:Cal P w K mg base "_law_split" 3 ["jar","many"] (liftN gsSplit)):∀ m:Nat,Cal P w K mg base "_law_word_of" (m+4) ["jar","purses","many","deep"] (liftV (gsWordOf m)):=by
 intro m
 have hs:sizeLine=16777216:=sizeLine_eq
 induction m with
 | zero=>
  refine D.cal fun f fd F=>F.ok sc_law_word_of (lift_len ?_) (fun cdv A outer s H vs Q E hr h=>?_)
  · rintro as n P ⟨U,many,deep,rfl,_⟩
    rfl
  refine ⟨_,(@pss_cons _ _ _ _ _ (ps_set (i:=4) sc_law_word_of.nd rfl (Or.inl rfl) (pe_c c__law_pick (hr.mono (by decide)) rfl (pa_name (pv 0) (pa_const pe_int pa_nil))))
   pss_never),lift_body h ?_⟩
  rintro as n P ⟨U,many,deep,rfl,hU,hm,hd,h1,q⟩
  omega
 | succ m c__law_word_of=>
  refine D.cal fun f fd F=>F.ok sc_law_word_of (lift_len ?_) (fun cdv A outer s H vs Q E hr h=>?_)
  · rintro as n P ⟨U,many,deep,rfl,_⟩
    rfl
  refine ⟨_,(@pss_cons _ _ _ _ _ (ps_set (i:=4) sc_law_word_of.nd rfl (Or.inl rfl) (pe_c c__law_pick (hr.mono (by omega)) rfl (pa_name (pv 0) (pa_const pe_int pa_nil))))
   (@pss_cons _ _ _ _ _ (ps_if (PW.pt (pw_and (pt_cmpR op_eq (pv 2) pe_int (nomark _)) (pw_and1 (PW.pt (pw_or (pt_cmpR op_lt (pv 3) pe_int (nomark _)) (pw_or1 (pt_cmpR op_gt (pv 4) pe_int (nomark _)))))))) (@pss_cons _ _ _ _ _ (ps_set (i:=5) sc_law_word_of.nd rfl (Or.inr rfl) (pe_ix ix_list (@PEs.out _ _ _ (pes_lst (pas_const pes_int (pas_const pes_int (pas_const pes_int pas_nil))))) (pe_c c__law_pick (hr.mono (by omega)) rfl (pa_name (pv 0) (pa_const pe_int pa_nil))) (fun _ _=>rfl)))
   (@pss_one _ _ _ (@ps_ret _ _ _ _ (@PEs.out _ _ _ (pes_tup (pas_const pes_str (pas_call (pes_of (pe_callTy call_tuple_of rfl T.b_tuple boot_tuple (pa_comp (pe_comp (sc:=(defScope s_law_word_of)) (N:=["jar","purses","many","deep","way","far","sizes"]) (N':=["p","jar","far"]) (k:=1) (idx:=[0,5]) rfl (by exact ⟨rfl,by decide +kernel,by decide +kernel,by decide +kernel,by decide +kernel,by decide +kernel,rfl,rfl⟩) rfl rfl (pi_range1 rfl T.b_range (pa_name (pv 1) pa_nil)) (fun _ _ _ _=>(pg_name (i:=0) (show (["p","jar","far"]:List Str).Nodup by decide +kernel) rfl (Or.inl rfl) (Or.inr rfl))) (fun _ _ _ _=>pts_nil) (fun _ _ _ _=>(pe_op op_sub (pe_c c__law_pick (hr.mono (by omega)) rfl (pa_name (pv 1) (pa_name (pv 2) pa_nil))) (pe_op op_fdivB (pv 2) pe_int)))) pa_nil))) pas_nil))))))) pss_nil)
   (@pss_cons _ _ _ _ _ (ps_if (PW.pt (pw_and (pt_cmpR op_eq (pv 4) pe_int (nomark _)) (pw_and1 (pt_cmpR op_gt (pv 3) pe_int (nomark _))))) (@pss_one _ _ _ (@ps_ret _ _ _ _ (@PEs.out _ _ _ (pes_tup (pas_const pes_str (pas_call (pes_of (pe_c c__law_word_of (hr.mono (by omega)) rfl (pa_name (pv 0) (pa_name (pv 1) (pa_name (pv 2) (pa_binop (pe_op op_sub (pv 3) pe_int) pa_nil)))))) pas_nil)))))) pss_nil)
   (@pss_cons _ _ _ _ _ (ps_set (i:=6) sc_law_word_of.nd rfl (Or.inl rfl) (pe_op op_rep (@PEs.out _ _ _ (pes_lst (pas_const pes_int pas_nil))) (pv 2)))
   (@pss_cons _ _ _ _ _ (ps_if (pt_cmpR op_gt (pv 3) pe_int (nomark _)) (@pss_one _ _ _ (ps_set (i:=6) sc_law_word_of.nd rfl (Or.inl rfl) (pe_c c__law_split (hr.mono (by omega)) rfl (pa_name (pv 0) (pa_name (pv 2) pa_nil))))) pss_nil)
   (@pss_one _ _ _ (@ps_ret _ _ _ _ (@PEs.out _ _ _ (pes_tup (pas_sub (pes_of (pe_ix ix_list (@PEs.out _ _ _ (pes_lst (pas_const pes_str (pas_const pes_str pas_nil)))) (pe_op op_mod (pv 4) pe_int) (fun _ _=>rfl))) (pas_call (pes_of (pe_callTy call_tuple_of rfl T.b_tuple boot_tuple (pa_comp (pe_comp (sc:=(defScope s_law_word_of)) (N:=["jar","purses","many","deep","way","far","sizes"]) (N':=["one","jar","purses","deep"]) (k:=1) (idx:=[0,1,3]) rfl (by exact ⟨rfl,by decide +kernel,by decide +kernel,by decide +kernel,by decide +kernel,by decide +kernel,rfl,rfl⟩) rfl rfl (pi_list (pv 6)) (fun _ _ _ _=>(pg_name (i:=0) (show (["one","jar","purses","deep"]:List Str).Nodup by decide +kernel) rfl (Or.inl rfl) (Or.inr rfl))) (fun _ _ _ _=>pts_nil) (fun _ _ _ _=>(pe_c c__law_word_of (hr.mono (by omega)) rfl (pa_name (pv 1) (pa_name (pv 2) (pa_name (pv 0) (pa_binop (pe_op op_sub (pv 3) pe_int) pa_nil))))))) pa_nil))) pas_nil))))))))))),lift_body h ?_⟩
  rintro as n P ⟨U,many,deep,rfl,hU,hm,hd,h1,q⟩
  refine ⟨rfl,5,rfl,by decide,by decide +kernel,fun way w0 w1=>⟨[.jar,.d (.int U),.d (.int (many:Int)),.d (.int (deep:Int)),.d (.int way),.jnk,.jnk],.eq rfl,?_⟩⟩
  refine vseq (fun env k=>k=n∧env=[.jar,.d (.int U),.d (.int (many:Int)),.d (.int (deep:Int)),.d (.int way),.jnk,.jnk]∧2≤deep) (fun N hN=>?_) ?_
  · refine fEq_i (ite_b (fun c=>or_ite (fun c2=>?_) (fun c2=>hN _ _ ⟨rfl,rfl,?_⟩)) (fun c=>iteF (hN _ _ ⟨rfl,rfl,?_⟩)))
    · have hm1:many=1:=by have:=of_decide_eq_true c;omega
      refine ⟨three_line,3,rfl,by decide,by decide +kernel,fun t t0 t1=>?_⟩
      obtain ⟨far,hat,hf⟩:∃ far:Int,atI [PyData.int 7,.int 7,.int 199] t=some (.int far)∧(far=7∨far=199):=by
       have:t=0∨t=1∨t=2:=by omega
       rcases this with rfl | rfl | rfl
       · exact ⟨_,rfl,.inl rfl⟩
       · exact ⟨_,rfl,.inl rfl⟩
       · exact ⟨_,rfl,.inr rfl⟩
      refine ⟨_,hat,_,.refl,U,rfl,⟨by omega,by omega⟩,⟨rfl,by rw [rngD_len];omega⟩,?_⟩
      refine cmpW_inv (fun y=>∃ g:Int,y = .int g∧-99≤g∧g≤99) (fun k=>k=n) (fun x hx k K hk hK=>iteT ⟨far,rfl,by omega,small9000 (by omega),fun r r0 r1=>⟨⟨by decide,by decide⟩,hK _ _ ⟨_,rfl,?_⟩ hk⟩⟩) rfl fun ys k hl hy hk=>?_
      · rcases hf with rfl | rfl
        · exact ⟨by show -99≤r-3;omega,by show r-3≤99;omega⟩
        · exact ⟨by show -99≤r-99;omega,by show r-99≤99;omega⟩
      · subst hk
        obtain ⟨gs,rfl,hg⟩:=ints_of hy
        rw [List.length_map,rngD_len] at hl
        refine ⟨two_line,q (putW gs) ?_⟩
        obtain ⟨deep',rfl⟩:∃ k,deep=k+1:=⟨deep-1,by omega⟩
        exact .inl ⟨gs,rfl,by omega,hg,hm1⟩
    · rw [Bool.or_eq_false_iff] at c2
      have:=of_decide_eq_false c2.1
      omega
    · have:=of_decide_eq_false c
      omega
  rintro _ j ⟨rfl,rfl,hd2⟩
  obtain ⟨dp,rfl⟩:∃ k,deep=k+1:=⟨deep-1,by omega⟩
  have ed:((dp+1:Nat):Int)-1=((dp:Nat):Int):=by omega
  refine ⟨_,.refl,vseq (fun env k=>k=j∧env=[.jar,.d (.int U),.d (.int (many:Int)),.d (.int ((dp+1:Nat):Int)),.d (.int way),.jnk,.jnk]) (fun N hN=>?_) ?_⟩
  · refine fEq_i (ite_b (fun c=>ite_b (fun c2=>?_) (fun c2=>hN _ _ ⟨rfl,rfl⟩)) (fun c=>iteF (hN _ _ ⟨rfl,rfl⟩)))
    have:=of_decide_eq_true c2
    exact ⟨U,many,dp,by rw [← ed],hU,hm,by omega,by omega,fun d hw=>⟨two_line,q _ (.inr (.inl ⟨d,rfl,hw⟩))⟩⟩
  rintro _ j ⟨rfl,rfl⟩
  refine ⟨_,.refl,small4 (Nat.le_of_ble_eq_true rfl),⟨by omega,by omega,by show 1*((many:Int)).toNat≤_;omega⟩,?_⟩
  rw [Int.toNat_natCast,flat_rep1]
  refine ⟨_,.refl,vseq (fun env k=>k=j∧∃ ms:List Nat,env=[.jar,.d (.int U),.d (.int (many:Int)),.d (.int ((dp+1:Nat):Int)),.d (.int way),.jnk,.own (ms.map fun x:Nat=>.int (x:Int))]∧(∀ x∈ms,1≤x)∧ms.sum=many∧(dp=1→∀ x∈ms,x=1)) (fun N hN=>?_) ?_⟩
  · refine ite_b (fun c=>?_) (fun c=>hN _ _ ⟨rfl,List.replicate many 1,by rw [List.map_replicate];rfl,fun x hx=>by rw [(List.mem_replicate.mp hx).2];exact Nat.le_refl _,by simp,fun _ x hx=>(List.mem_replicate.mp hx).2⟩)
    have:=of_decide_eq_true c
    exact ⟨many,rfl,hm,fun ms h1 h2=>hN _ _ ⟨rfl,ms,rfl,h1,h2,fun h=>by omega⟩⟩
  rintro _ _ ⟨rfl,ms,rfl,hp,hsum,hone⟩
  have hml:=sum_pos hp
  obtain ⟨s',hat,hs'⟩:∃ s':Str,atI [PyData.str "row",.str "either"] (way%2)=some (.str s')∧(s' = "row"∨s' = "either"):=by
   have:way%2=0∨way%2=1:=by omega
   rcases this with h | h
   · rw [h];exact ⟨_,rfl,.inl rfl⟩
   · rw [h];exact ⟨_,rfl,.inr rfl⟩
  refine ⟨_,.refl,two_line,⟨show (0:Int)<2 by decide,_,hat,⟨rfl,by rw [List.length_map];omega⟩,?_⟩⟩
  refine cmpW_out (R:=fun x y=>∃ k:Nat,x = .int (k:Int)∧Wd U dp k y) (fun x hx K hK=>?_) fun ys hys=>?_
  · obtain ⟨k,hk,rfl⟩:=List.mem_map.mp hx
    have:=mem_sum hk
    exact iteT ⟨U,k,dp,by rw [← ed],hU,⟨hp k hk,by omega⟩,by omega,fun h=>hone h k hk,fun d hw=>hK d ⟨k,rfl,hw⟩⟩
  · have hl:=hys.length
    refine ⟨two_line,q _ (.inr (.inr ⟨s',ms,ys,hs',rfl,fun z=>?_,all2_nat hys,hsum.symm⟩))⟩
    rw [z,List.length_map,List.length_nil] at hl
    rw [List.length_eq_zero_iff.mp hl,List.sum_nil] at hsum
    omega
theorem sc_law_within:FnScope ["word","parts"] ["word"] (defScope s_law_within):=⟨rfl,rfl,rfl,by decide +kernel,rfl,by decide +kernel,by decide +kernel⟩
theorem ok_law_within (T:Txt mg) (D:Def K mg "_law_within" s_law_within ["word"]):∀ m:Nat,Cal P w K mg base "_law_within" (m+1) ["word"] (liftV (gsWithin m)):=by
 intro lv
 have hs:sizeLine=16777216:=sizeLine_eq
 induction lv with
 | zero=>
  refine D.cal fun f fd F=>F.ok sc_law_within (lift_len ?_) (fun cdv A outer s H vs Q E hr h=>?_)
  · rintro as n P ⟨U,m,d,rfl,_⟩
    rfl
  refine ⟨_,(@pss_cons _ _ _ _ _ (ps_if (pt_cmpR op_eq (pe_ix ix_tup (pv 0) pe_int (fun _ _=>rfl)) pe_str (nomark _)) (@pss_one _ _ _ (@ps_ret _ _ _ _ pe_int)) pss_nil)
   pss_never),lift_body h ?_⟩
  rintro as n P ⟨U,m,d,rfl,hw,hm,q⟩
  exact hw.elim
 | succ lv c__law_within=>
  refine D.cal fun f fd F=>F.ok sc_law_within (lift_len ?_) (fun cdv A outer s H vs Q E hr h=>?_)
  · rintro as n P ⟨U,m,d,rfl,_⟩
    rfl
  refine ⟨_,(@pss_cons _ _ _ _ _ (ps_if (pt_cmpR op_eq (pe_ix ix_tup (pv 0) pe_int (fun _ _=>rfl)) pe_str (nomark _)) (@pss_one _ _ _ (@ps_ret _ _ _ _ pe_int)) pss_nil)
   (@pss_cons _ _ _ _ _ (ps_set (i:=1) sc_law_within.nd rfl (Or.inl rfl) (pe_ifExp (pt_cmpR op_eq (pe_ix ix_tup (pv 0) pe_int (fun _ _=>rfl)) pe_str (nomark _)) (@PEs.out _ _ _ (pes_tup (pas_sub (pes_of (pe_ix ix_tup (pv 0) pe_int (fun _ _=>rfl))) pas_nil))) (pe_ix ix_tup (pv 0) pe_int (fun _ _=>rfl))))
   (@pss_one _ _ _ (@ps_ret _ _ _ _ (pe_op op_add pe_int (pe_callB (call_maxL rfl) rfl T.b_max boot_max (pa_comp (pe_comp (sc:=(defScope s_law_within)) (N:=["word","parts"]) (N':=["part"]) (k:=1) (idx:=[]) rfl (by exact ⟨rfl,by decide +kernel,by decide +kernel,by decide +kernel,by decide +kernel,by decide +kernel,rfl,rfl⟩) rfl rfl (pi_tup (pv 1)) (fun _ _ _ _=>(pg_name (i:=0) (show (["part"]:List Str).Nodup by decide +kernel) rfl (Or.inl rfl) (Or.inr rfl))) (fun _ _ _ _=>pts_nil) (fun _ _ _ _=>(pe_c c__law_within (hr.mono (by omega)) rfl (pa_name (pv 0) pa_nil)))) pa_nil))))))),lift_body h ?_⟩
  rintro as n P ⟨U,m,d,rfl,hw,hm,q⟩
  have lenOk:∀ {ms:List Nat} {ds:List PyData},ms.sum≤7→All2 (Wd U lv) ms ds→ds.length≤7:=fun {ms ds} h ha=>by
   have:=sum_pos (l:=ms) fun x hx=>by
    obtain ⟨i,hi⟩:=List.mem_iff_getElem?.mp hx
    obtain ⟨y,_,hw⟩:=ha.get hi
    exact hw.pos
   rw [← ha.length];omega
  have turnOk:∀ {ms:List Nat} {ds:List PyData},ms.sum≤7→All2 (Wd U lv) ms ds→∀ x∈ds,∀ K:Option PyData→Nat→Prop,(∀ y,DpR U lv x y→K (some y) n)→gsWithin lv [.d x] n fun d n1=>K (some d) n1:=fun {ms ds} h ha x hx K hK=>by
   obtain ⟨mm,hmm,hw⟩:=all2_get ha hx
   have:=mem_sum hmm
   refine ⟨U,mm,x,rfl,hw,by omega,fun k k1 k2 hk=>hK _ ⟨k,rfl,k1,k2,fun m' hm'=>?_⟩⟩
   rw [← hm'.puts,hw.puts];exact hk
  rcases hw with ⟨gs,rfl,hl,hg,rfl⟩ | ⟨e,rfl,hw⟩ | ⟨s,ms,ds,hs',rfl,hne,ha,rfl⟩
  · exact ⟨rfl,_,rfl,fEq_t (iteT (q 1 (by omega) (by omega) (.inl ⟨gs,rfl,hl,hg,rfl⟩)))⟩
  · have ha:All2 (Wd U lv) [m] [e]:=⟨hw,trivial⟩
    have hsm:[m].sum≤7:=by simp;exact hm
    refine ⟨rfl,_,rfl,fEq_f w_again_put (iteF ⟨_,.refl,_,rfl,fEq_t (iteT ⟨_,rfl,small4 (Nat.le_of_ble_eq_true rfl),⟨[.d (againW e),.d (.tuple [e])],.eq rfl,?_⟩⟩)⟩)⟩
    exact ⟨⟨rfl,small4 (Nat.le_of_ble_eq_true rfl)⟩,within_go q (ds:=[e]) (ms:=[m]) (by simp) ha (fun M h=>.inr (.inl ⟨e,rfl,h.1⟩)) fun x hx K hK=>iteT (turnOk hsm ha x hx K hK)⟩
  · have:=lenOk hm ha
    refine ⟨rfl,_,rfl,fEq_f (rs_put hs') (iteF ⟨_,.refl,_,rfl,fEq_f (rs_again hs') (iteF ⟨_,rfl,⟨[.d (rowW s ds),.d (.tuple ds)],.eq rfl,?_⟩⟩)⟩)⟩
    exact ⟨⟨rfl,by omega⟩,within_go q hne ha (fun M h=>.inr (.inr ⟨s,ms,ds,hs',rfl,hne,h,rfl⟩)) fun x hx K hK=>iteT (turnOk hm ha x hx K hK)⟩
theorem sc_law_some_word:FnScope ["jar","purses","word","turn"] ["jar"] (defScope s_law_some_word):=⟨rfl,rfl,rfl,by decide +kernel,rfl,by decide +kernel,by decide +kernel⟩
theorem ok_law_some_word (T:Txt mg) (D:Def K mg "_law_some_word" s_law_some_word ["jar"]) (c__law_pick:Cal P w K mg base "_law_pick" 2 ["jar","many"] (liftV gsPick)) (c__law_word_of:Cal P w K mg base "_law_word_of" 12 ["jar","purses","many","deep"] (liftV (gsWordOf 8))) (c__law_within:Cal P w K mg base "_law_within" 11 ["word"] (liftV (gsWithin 10))):Cal P w K mg base "_law_some_word" 13 ["jar"] (liftV gsSomeWord):=by
 refine D.cal fun f fd F=>F.ok sc_law_some_word (lift_len ?_) (fun cdv A outer s H vs Q E hr h=>?_)
 · rintro as n P ⟨rfl,_⟩
   rfl
 refine ⟨_,(@pss_cons _ _ _ _ _ (ps_set (i:=1) sc_law_some_word.nd rfl (Or.inl rfl) (pe_ix ix_list (@PEs.out _ _ _ (pes_lst (pas_const pes_int (pas_const pes_int (pas_const pes_int (pas_const pes_int (pas_const pes_int pas_nil))))))) (pe_c c__law_pick (hr.mono (by decide)) rfl (pa_name (pv 0) (pa_const pe_int pa_nil))) (fun _ _=>rfl)))
  (@pss_cons _ _ _ _ _ (ps_set (i:=2) sc_law_some_word.nd rfl (Or.inl rfl) (pe_c c__law_word_of (hr.mono (by decide)) rfl (pa_name (pv 0) (pa_name (pv 1) (pa_binop (pe_op op_add pe_int (pe_c c__law_pick (hr.mono (by decide)) rfl (pa_name (pv 0) (pa_const pe_int pa_nil)))) (pa_binop (pe_op op_add pe_int (pe_c c__law_pick (hr.mono (by decide)) rfl (pa_name (pv 0) (pa_const pe_int pa_nil)))) pa_nil))))))
  (@pss_cons _ _ _ _ _ (ps_for PassesOwn.never rfl (pi_range1 rfl T.b_range (pa_binop (pe_op op_mul (pe_c c__law_pick (hr.mono (by decide)) rfl (pa_name (pv 0) (pa_const pe_int pa_nil))) (pe_op op_sub pe_int (pe_c c__law_within (hr.mono (by decide)) rfl (pa_name (pv 2) pa_nil)))) pa_nil)) (pg_name (i:=3) sc_law_some_word.nd rfl (Or.inl rfl) (Or.inl rfl))
  (@pss_one _ _ _ (ps_set (i:=2) sc_law_some_word.nd rfl (Or.inl rfl) (pe_ix ix_list (@PEs.out _ _ _ (pes_lst (pas_tuple (pes_tup (pas_const pes_str (pas_name (pes_of (pv 2)) pas_nil))) (pas_tuple (pes_tup (pas_const pes_str (pas_tuple (pes_tup (pas_name (pes_of (pv 2)) pas_nil)) pas_nil))) (pas_tuple (pes_tup (pas_const pes_str (pas_tuple (pes_tup (pas_name (pes_of (pv 2)) pas_nil)) pas_nil))) pas_nil))))) (pe_c c__law_pick (hr.mono (by decide)) rfl (pa_name (pv 0) (pa_const pe_int pa_nil))) (fun _ _=>rfl)))))
  (@pss_one _ _ _ (@ps_ret _ _ _ _ (@PEs.out _ _ _ (pes_tup (pas_name (pes_of (pv 2)) (pas_name (pes_of (pv 1)) pas_nil))))))))),lift_body h ?_⟩
 rintro as n P ⟨rfl,q⟩
 have hs:sizeLine=16777216:=sizeLine_eq
 refine ⟨rfl,Nat.le_of_ble_eq_true (by rw [hs];rfl),5,rfl,by decide,by decide +kernel,fun t t0 t1=>?_⟩
 obtain ⟨U,hat,hU⟩:∃ U:Int,atI [PyData.int 1,.int 1,.int 2,.int 3,.int 6] t=some (.int U)∧1≤U∧U≤6:=by
  have:t=0∨t=1∨t=2∨t=3∨t=4:=by omega
  rcases this with rfl | rfl | rfl | rfl | rfl<;>exact ⟨_,rfl,by decide,by decide⟩
 refine ⟨_,hat,⟨[.jar,.d (.int U),.jnk,.jnk],.eq rfl,?_⟩⟩
 refine ⟨7,rfl,by decide,by decide +kernel,fun a a0 a1=>⟨7,rfl,by decide,by decide +kernel,fun b b0 b1=>?_⟩⟩
 obtain ⟨many,e1⟩:∃ k:Nat,1+a=(k:Int):=⟨(1+a).toNat,by omega⟩
 obtain ⟨deep,e2⟩:∃ k:Nat,2+b=(k:Int):=⟨(2+b).toNat,by omega⟩
 refine ⟨U,many,deep,by rw [← e1,← e2],hU,by omega,by omega,by omega,fun d hw=>⟨[.jar,.d (.int U),.d d,.jnk],.eq rfl,?_⟩⟩
 refine ⟨2,rfl,by decide,by decide +kernel,fun z z0 z1=>⟨U,many,d,rfl,hw.mono (by omega),by omega,fun k k1 k2 hk=>?_⟩⟩
 have hz:z=0∨z=1:=by omega
 refine ⟨.inl ⟨by omega,by omega⟩,z*(10-(k:Int)),rfl,by rcases hz with rfl | rfl<;>exact ⟨by omega,by omega⟩,?_⟩
 have hle:(z*(10-(k:Int))).toNat≤10-k:=by
  rcases hz with rfl | rfl<;>omega
 refine ⟨fun i env j=>j=n∧∃ (e:PyData) (x3:Vl),env=[.jar,.d (.int U),.d e,x3]∧Wd U (k+i) many e,⟨rfl,d,_,rfl,hk⟩,?_,?_⟩
 · rintro i x env _ hx ⟨rfl,e,x3,rfl,he⟩
   refine ⟨two_line,small4 (Nat.le_of_ble_eq_true rfl),two_line,small4 (Nat.le_of_ble_eq_true rfl),two_line,three_line,3,rfl,by decide,by decide +kernel,fun t t0 t1=>?_⟩
   obtain ⟨e',hat',he'⟩:∃ e',atI [againW e,rowW "row" [e],rowW "either" [e]] t=some e'∧(e'=againW e∨e'=rowW "row" [e]∨e'=rowW "either" [e]):=by
    have:t=0∨t=1∨t=2:=by omega
    rcases this with rfl | rfl | rfl
    · exact ⟨_,rfl,.inl rfl⟩
    · exact ⟨_,rfl,.inr (.inl rfl)⟩
    · exact ⟨_,rfl,.inr (.inr rfl)⟩
   exact ⟨_,hat',rfl,e',_,rfl,he.step he'⟩
 · rintro env _ ⟨rfl,e,x3,rfl,he⟩
   rw [rngD_len] at he
   exact ⟨_,.refl,two_line,q U many e hU (he.mono (by omega)) (by omega)⟩
theorem sc_every_pair:FnScope ["lasts","firsts"] ["lasts","firsts"] (defScope s_every_pair):=⟨rfl,rfl,rfl,by decide +kernel,rfl,by decide +kernel,by decide +kernel⟩
theorem ok_every_pair (T:Txt mg) (D:Def K mg "every_pair" s_every_pair ["lasts","firsts"]):Cal P w K mg base "every_pair" 1 ["lasts","firsts"] (liftN gsEvery):=by
 refine D.cal fun f fd F=>F.ok sc_every_pair (lift_lenN ?_) (fun cdv A outer s H vs Q E hr h=>?_)
 · rintro as n P ⟨ls,fs,rfl,_⟩
   rfl
 refine ⟨_,(@pss_one _ _ _ (@ps_ret _ _ _ _ (pe_comp2c (sc:=(defScope s_every_pair)) (N:=["lasts","firsts"]) (N':=["i","j","firsts"]) (k:=2) (idx:=[1]) rfl (by exact ⟨rfl,by decide +kernel,by decide +kernel,by decide +kernel,by decide +kernel,by decide +kernel,rfl,rfl⟩) rfl rfl (pi_list (pv 0)) (fun _ _ _ _=>(pg_name (i:=0) (show (["i","j","firsts"]:List Str).Nodup by decide +kernel) rfl (Or.inl rfl) (Or.inr rfl))) (fun _ _ _ _=>pi_listK2 (K':=K) rfl (pv 2)) (fun _ _ _ _=>(pg_name (i:=1) (show (["i","j","firsts"]:List Str).Nodup by decide +kernel) rfl (Or.inl rfl) (Or.inr rfl))) (fun _ _ _ _=>(@PEs.out _ _ _ (pes_tup (pas_name (pes_of (pv 0)) (pas_name (pes_of (pv 1)) pas_nil)))))))),lift_bodyN h ?_⟩
 rintro as n P ⟨ls,fs,rfl,hl,hf,q⟩
 have hs:sizeLine=16777216:=sizeLine_eq
 refine ⟨rfl,⟨rfl,rfl,by rw [List.length_map];omega⟩,?_⟩
 refine flW_mapG (g:=PyData.int) (fun i=>fs.map fun j=>prD (i,j)) (fun i hi n K hK=>⟨⟨rfl,fun j hj=>by rw [List.mem_singleton.mp hj];rfl⟩,by rw [List.length_map];omega,?_⟩) ?_
 · exact cmpW_mapG (f:=PyData.int) (fun j=>prD (i,j)) (fun j hj m K hK=>⟨two_line,hK⟩) hK
 · have e:ls.flatMap (fun i=>fs.map fun j=>prD (i,j))=(crs ls fs).map prD:=by
    unfold crs
    rw [List.map_flatMap]
    congr 1
    funext i
    rw [List.map_map]
    rfl
   rw [e]
   exact q
theorem sc_one_behind_other:FnScope ["one","other","gains","none","firsts","lasts","pairs","more_gains","then_none","then_firsts","then_lasts","then_pairs"] ["one","other"] (defScope s_one_behind_other):=⟨rfl,rfl,rfl,by decide +kernel,rfl,by decide +kernel,by decide +kernel⟩
theorem ok_one_behind_other (T:Txt mg) (D:Def K mg "one_behind_other" s_one_behind_other ["one","other"]) (c_every_pair:Cal P w K mg base "every_pair" 1 ["lasts","firsts"] (liftN gsEvery)):Cal P w K mg base "one_behind_other" 2 ["one","other"] (liftV gsBehindR):=by
 refine D.cal fun f fd F=>F.ok sc_one_behind_other (lift_len ?_) (fun cdv A outer s H vs Q E hr h=>?_)
 · rintro as n P ⟨a,b,rfl,_⟩
   rfl
 refine ⟨_,(@pss_cons _ _ _ _ _ (ps_asg (pv 0) (pg_tup (n:=5) rfl (pgs_cons (pg_name (i:=2) sc_one_behind_other.nd rfl (Or.inl rfl) (Or.inl rfl)) (pgs_cons (pg_name (i:=3) sc_one_behind_other.nd rfl (Or.inl rfl) (Or.inl rfl)) (pgs_cons (pg_name (i:=4) sc_one_behind_other.nd rfl (Or.inl rfl) (Or.inl rfl)) (pgs_cons (pg_name (i:=5) sc_one_behind_other.nd rfl (Or.inl rfl) (Or.inl rfl)) (pgs_cons (pg_name (i:=6) sc_one_behind_other.nd rfl (Or.inl rfl) (Or.inl rfl)) pgs_nil)))))))
  (@pss_cons _ _ _ _ _ (ps_asg (pv 1) (pg_tup (n:=5) rfl (pgs_cons (pg_name (i:=7) sc_one_behind_other.nd rfl (Or.inl rfl) (Or.inl rfl)) (pgs_cons (pg_name (i:=8) sc_one_behind_other.nd rfl (Or.inl rfl) (Or.inl rfl)) (pgs_cons (pg_name (i:=9) sc_one_behind_other.nd rfl (Or.inl rfl) (Or.inl rfl)) (pgs_cons (pg_name (i:=10) sc_one_behind_other.nd rfl (Or.inl rfl) (Or.inl rfl)) (pgs_cons (pg_name (i:=11) sc_one_behind_other.nd rfl (Or.inl rfl) (Or.inl rfl)) pgs_nil)))))))
  (@pss_one _ _ _ (@ps_ret _ _ _ _ (@PEs.out _ _ _ (pes_tup (pas_binop (pes_of (pe_op op_cat (pv 2) (pv 7))) (pas_bool (pes_of (pe_and (pv 3) (pe_one (pv 8)))) (pas_if (pes_of (pe_ifExp (pt_val (pv 3)) (pe_op op_cat (pv 4) (pv 9)) (pv 4))) (pas_if (pes_of (pe_ifExp (pt_val (pv 8)) (pe_op op_cat (pv 5) (pv 10)) (pv 10))) (pas_binop (pes_of (pe_op op_cat (pe_op op_cat (pv 6) (pv 11)) (pe_c c_every_pair (hr.mono (by decide)) rfl (pa_name (pv 5) (pa_name (pv 9) pa_nil))))) pas_nil))))))))))),lift_body h ?_⟩
 rintro as n P ⟨a,b,rfl,ha,hb,q⟩
 have hs:sizeLine=16777216:=sizeLine_eq
 obtain ⟨ag,an,af,al,ap⟩:=a
 obtain ⟨bg,bn,bf,bl,bp⟩:=b
 obtain ⟨a1,a2,a3,a4⟩:=ha
 obtain ⟨b1,b2,b3,b4⟩:=hb
 simp only at a1 a2 a3 a4 b1 b2 b3 b4
 have cl:(crs al bf).length≤10000:=by rw [crs_len];exact Nat.mul_le_mul a3 b2
 unfold rBehind rgD at q
 simp only [List.map_append] at q
 refine ⟨rfl,rfl,rfl,[.d (rgD ⟨ag,an,af,al,ap⟩),.d (rgD ⟨bg,bn,bf,bl,bp⟩),.d (.list (ag.map gD)),.d (.bool an),.d (.list (af.map .int)),.d (.list (al.map .int)),.d (.list (ap.map prD)),.jnk,.jnk,.jnk,.jnk,.jnk],.eq rfl,?_⟩
 refine ⟨rfl,rfl,[.d (rgD ⟨ag,an,af,al,ap⟩),.d (rgD ⟨bg,bn,bf,bl,bp⟩),.d (.list (ag.map gD)),.d (.bool an),.d (.list (af.map .int)),.d (.list (al.map .int)),.d (.list (ap.map prD)),.d (.list (bg.map gD)),.d (.bool bn),.d (.list (bf.map .int)),.d (.list (bl.map .int)),.d (.list (bp.map prD))],.eq rfl,?_⟩
 generalize rgD ⟨ag,an,af,al,ap⟩=da
 generalize rgD ⟨bg,bn,bf,bl,bp⟩=db
 have n1:(ag.map gD).length+(bg.map gD).length≤sizeLine:=by simp only [List.length_map];omega
 have n2:(af.map PyData.int).length+(bf.map PyData.int).length≤sizeLine:=by simp only [List.length_map];omega
 have n3:(al.map PyData.int).length+(bl.map PyData.int).length≤sizeLine:=by simp only [List.length_map];omega
 have n4:(ap.map prD).length+(bp.map prD).length≤sizeLine:=by simp only [List.length_map];omega
 have n5:(ap.map prD++bp.map prD).length+((crs al bf).map prD).length≤sizeLine:=by simp only [List.length_map,List.length_append];omega
 cases an<;>cases bn<;>simp only [if_true,if_false,Bool.false_eq_true,List.map_append] at q
 · exact ⟨n1,iteF (iteF (iteF ⟨n4,al,bf,rfl,a3,b2,n5,small4 (Nat.le_of_ble_eq_true rfl),q⟩))⟩
 · exact ⟨n1,iteF (iteF (iteT ⟨n3,n4,al,bf,rfl,a3,b2,n5,small4 (Nat.le_of_ble_eq_true rfl),q⟩))⟩
 · exact ⟨n1,iteT (iteT ⟨n2,iteF ⟨n4,al,bf,rfl,a3,b2,n5,small4 (Nat.le_of_ble_eq_true rfl),q⟩⟩)⟩
 · exact ⟨n1,iteT (iteT ⟨n2,iteT ⟨n3,n4,al,bf,rfl,a3,b2,n5,small4 (Nat.le_of_ble_eq_true rfl),q⟩⟩)⟩
theorem sc_one_or_other:FnScope ["one","other","gains","none","firsts","lasts","pairs","more_gains","then_none","then_firsts","then_lasts","then_pairs"] ["one","other"] (defScope s_one_or_other):=⟨rfl,rfl,rfl,by decide +kernel,rfl,by decide +kernel,by decide +kernel⟩
theorem ok_one_or_other (T:Txt mg) (D:Def K mg "one_or_other" s_one_or_other ["one","other"]):Cal P w K mg base "one_or_other" 1 ["one","other"] (liftV gsEitherR):=by
 refine D.cal fun f fd F=>F.ok sc_one_or_other (lift_len ?_) (fun cdv A outer s H vs Q E hr h=>?_)
 · rintro as n P ⟨a,b,rfl,_⟩
   rfl
 refine ⟨_,(@pss_cons _ _ _ _ _ (ps_asg (pv 0) (pg_tup (n:=5) rfl (pgs_cons (pg_name (i:=2) sc_one_or_other.nd rfl (Or.inl rfl) (Or.inl rfl)) (pgs_cons (pg_name (i:=3) sc_one_or_other.nd rfl (Or.inl rfl) (Or.inl rfl)) (pgs_cons (pg_name (i:=4) sc_one_or_other.nd rfl (Or.inl rfl) (Or.inl rfl)) (pgs_cons (pg_name (i:=5) sc_one_or_other.nd rfl (Or.inl rfl) (Or.inl rfl)) (pgs_cons (pg_name (i:=6) sc_one_or_other.nd rfl (Or.inl rfl) (Or.inl rfl)) pgs_nil)))))))
  (@pss_cons _ _ _ _ _ (ps_asg (pv 1) (pg_tup (n:=5) rfl (pgs_cons (pg_name (i:=7) sc_one_or_other.nd rfl (Or.inl rfl) (Or.inl rfl)) (pgs_cons (pg_name (i:=8) sc_one_or_other.nd rfl (Or.inl rfl) (Or.inl rfl)) (pgs_cons (pg_name (i:=9) sc_one_or_other.nd rfl (Or.inl rfl) (Or.inl rfl)) (pgs_cons (pg_name (i:=10) sc_one_or_other.nd rfl (Or.inl rfl) (Or.inl rfl)) (pgs_cons (pg_name (i:=11) sc_one_or_other.nd rfl (Or.inl rfl) (Or.inl rfl)) pgs_nil)))))))
  (@pss_one _ _ _ (@ps_ret _ _ _ _ (@PEs.out _ _ _ (pes_tup (pas_binop (pes_of (pe_op op_cat (pv 2) (pv 7))) (pas_bool (pes_of (pe_or (pv 3) (pe_one (pv 8)))) (pas_binop (pes_of (pe_op op_cat (pv 4) (pv 9))) (pas_binop (pes_of (pe_op op_cat (pv 5) (pv 10))) (pas_binop (pes_of (pe_op op_cat (pv 6) (pv 11))) pas_nil))))))))))),lift_body h ?_⟩
 rintro as n P ⟨a,b,rfl,ha,hb,q⟩
 have hs:sizeLine=16777216:=sizeLine_eq
 obtain ⟨ag,an,af,al,ap⟩:=a
 obtain ⟨bg,bn,bf,bl,bp⟩:=b
 obtain ⟨a1,a2,a3,a4⟩:=ha
 obtain ⟨b1,b2,b3,b4⟩:=hb
 simp only at a1 a2 a3 a4 b1 b2 b3 b4
 unfold rEither rgD at q
 simp only [List.map_append] at q
 refine ⟨rfl,rfl,rfl,[.d (rgD ⟨ag,an,af,al,ap⟩),.d (rgD ⟨bg,bn,bf,bl,bp⟩),.d (.list (ag.map gD)),.d (.bool an),.d (.list (af.map .int)),.d (.list (al.map .int)),.d (.list (ap.map prD)),.jnk,.jnk,.jnk,.jnk,.jnk],.eq rfl,?_⟩
 refine ⟨rfl,rfl,[.d (rgD ⟨ag,an,af,al,ap⟩),.d (rgD ⟨bg,bn,bf,bl,bp⟩),.d (.list (ag.map gD)),.d (.bool an),.d (.list (af.map .int)),.d (.list (al.map .int)),.d (.list (ap.map prD)),.d (.list (bg.map gD)),.d (.bool bn),.d (.list (bf.map .int)),.d (.list (bl.map .int)),.d (.list (bp.map prD))],.eq rfl,?_⟩
 generalize rgD ⟨ag,an,af,al,ap⟩=da
 generalize rgD ⟨bg,bn,bf,bl,bp⟩=db
 have n1:(ag.map gD).length+(bg.map gD).length≤sizeLine:=by simp only [List.length_map];omega
 have n2:(af.map PyData.int).length+(bf.map PyData.int).length≤sizeLine:=by simp only [List.length_map];omega
 have n3:(al.map PyData.int).length+(bl.map PyData.int).length≤sizeLine:=by simp only [List.length_map];omega
 have n4:(ap.map prD).length+(bp.map prD).length≤sizeLine:=by simp only [List.length_map];omega
 cases an<;>cases bn
 · exact ⟨n1,iteF ⟨n2,n3,n4,small4 (Nat.le_of_ble_eq_true rfl),q⟩⟩
 · exact ⟨n1,iteF ⟨n2,n3,n4,small4 (Nat.le_of_ble_eq_true rfl),q⟩⟩
 · exact ⟨n1,iteT ⟨n2,n3,n4,small4 (Nat.le_of_ble_eq_true rfl),q⟩⟩
 · exact ⟨n1,iteT ⟨n2,n3,n4,small4 (Nat.le_of_ble_eq_true rfl),q⟩⟩
theorem sc_over_and_over:FnScope ["reading","gains","none","firsts","lasts","pairs"] ["reading"] (defScope s_over_and_over):=⟨rfl,rfl,rfl,by decide +kernel,rfl,by decide +kernel,by decide +kernel⟩
theorem ok_over_and_over (T:Txt mg) (D:Def K mg "over_and_over" s_over_and_over ["reading"]) (c_every_pair:Cal P w K mg base "every_pair" 1 ["lasts","firsts"] (liftN gsEvery)):Cal P w K mg base "over_and_over" 2 ["reading"] (liftV gsOverR):=by
 refine D.cal fun f fd F=>F.ok sc_over_and_over (lift_len ?_) (fun cdv A outer s H vs Q E hr h=>?_)
 · rintro as n P ⟨a,rfl,_⟩
   rfl
 refine ⟨_,(@pss_cons _ _ _ _ _ (ps_asg (pv 0) (pg_tup (n:=5) rfl (pgs_cons (pg_name (i:=1) sc_over_and_over.nd rfl (Or.inl rfl) (Or.inl rfl)) (pgs_cons (pg_name (i:=2) sc_over_and_over.nd rfl (Or.inl rfl) (Or.inl rfl)) (pgs_cons (pg_name (i:=3) sc_over_and_over.nd rfl (Or.inl rfl) (Or.inl rfl)) (pgs_cons (pg_name (i:=4) sc_over_and_over.nd rfl (Or.inl rfl) (Or.inl rfl)) (pgs_cons (pg_name (i:=5) sc_over_and_over.nd rfl (Or.inl rfl) (Or.inl rfl)) pgs_nil)))))))
  (@pss_one _ _ _ (@ps_ret _ _ _ _ (@PEs.out _ _ _ (pes_tup (pas_name (pes_of (pv 1)) (pas_const pes_bl (pas_name (pes_of (pv 3)) (pas_name (pes_of (pv 4)) (pas_binop (pes_of (pe_op op_cat (pv 5) (pe_c c_every_pair (hr.mono (by decide)) rfl (pa_name (pv 4) (pa_name (pv 3) pa_nil))))) pas_nil)))))))))),lift_body h ?_⟩
 rintro as n P ⟨a,rfl,ha,q⟩
 have hs:sizeLine=16777216:=sizeLine_eq
 obtain ⟨ag,an,af,al,ap⟩:=a
 obtain ⟨a1,a2,a3,a4⟩:=ha
 simp only at a1 a2 a3 a4
 have cl:(crs al af).length≤10000:=by rw [crs_len];exact Nat.mul_le_mul a3 a2
 unfold rOver rgD at q
 simp only [List.map_append] at q
 refine ⟨rfl,rfl,rfl,[.d (rgD ⟨ag,an,af,al,ap⟩),.d (.list (ag.map gD)),.d (.bool an),.d (.list (af.map .int)),.d (.list (al.map .int)),.d (.list (ap.map prD))],.eq rfl,?_⟩
 generalize rgD ⟨ag,an,af,al,ap⟩=da
 exact ⟨al,af,rfl,a3,a2,(by simp only [List.length_map];omega),small4 (Nat.le_of_ble_eq_true rfl),q⟩
theorem sc_read_word:FnScope ["word","ahead","room","reading","part","then"] ["word","ahead"] (defScope s_read_word):=⟨rfl,rfl,rfl,by decide +kernel,rfl,by decide +kernel,by decide +kernel⟩
theorem ok_read_word (T:Txt mg) (D:Def K mg "read_word" s_read_word ["word","ahead"]) (c_over_and_over:Cal P w K mg base "over_and_over" 2 ["reading"] (liftV gsOverR)) (c_one_behind_other:Cal P w K mg base "one_behind_other" 2 ["one","other"] (liftV gsBehindR)) (c_one_or_other:Cal P w K mg base "one_or_other" 1 ["one","other"] (liftV gsEitherR)):∀ m:Nat,Cal P w K mg base "read_word" (m+3) ["word","ahead"] (liftV (gsReadW m)):=by
 intro lv
 have hs:sizeLine=16777216:=sizeLine_eq
 induction lv with
 | zero=>
  refine D.cal fun f fd F=>F.ok sc_read_word (lift_len ?_) (fun cdv A outer s H vs Q E hr h=>?_)
  · rintro as n P ⟨U,m,d,a,rfl,_⟩
    rfl
  refine ⟨_,(@pss_cons _ _ _ _ _ (ps_if (pt_cmpR op_eq (pe_ix ix_tup (pv 0) pe_int (fun _ _=>rfl)) pe_str (nomark _)) (@pss_cons _ _ _ _ _ (ps_set (i:=2) sc_read_word.nd rfl (Or.inl rfl) (pe_op op_add (pv 1) pe_int))
   (@pss_one _ _ _ (@ps_ret _ _ _ _ (@PEs.out _ _ _ (pes_tup (pas_list (pes_lst (pas_sub (pes_of (pe_ix ix_tup (pv 0) pe_int (fun _ _=>rfl))) pas_nil)) (pas_const pes_bl (pas_list (pes_lst (pas_name (pes_of (pv 2)) pas_nil)) (pas_list (pes_lst (pas_name (pes_of (pv 2)) pas_nil)) (pas_list (pes_lst pas_nil) pas_nil)))))))))) pss_nil)
   pss_never),lift_body h ?_⟩
  rintro as n P ⟨U,m,d,a,rfl,hw,_⟩
  exact hw.elim
 | succ lv c_read_word=>
  refine D.cal fun f fd F=>F.ok sc_read_word (lift_len ?_) (fun cdv A outer s H vs Q E hr h=>?_)
  · rintro as n P ⟨U,m,d,a,rfl,_⟩
    rfl
  refine ⟨_,(@pss_cons _ _ _ _ _ (ps_if (pt_cmpR op_eq (pe_ix ix_tup (pv 0) pe_int (fun _ _=>rfl)) pe_str (nomark _)) (@pss_cons _ _ _ _ _ (ps_set (i:=2) sc_read_word.nd rfl (Or.inl rfl) (pe_op op_add (pv 1) pe_int))
   (@pss_one _ _ _ (@ps_ret _ _ _ _ (@PEs.out _ _ _ (pes_tup (pas_list (pes_lst (pas_sub (pes_of (pe_ix ix_tup (pv 0) pe_int (fun _ _=>rfl))) pas_nil)) (pas_const pes_bl (pas_list (pes_lst (pas_name (pes_of (pv 2)) pas_nil)) (pas_list (pes_lst (pas_name (pes_of (pv 2)) pas_nil)) (pas_list (pes_lst pas_nil) pas_nil)))))))))) pss_nil)
   (@pss_cons _ _ _ _ _ (ps_if (pt_cmpR op_eq (pe_ix ix_tup (pv 0) pe_int (fun _ _=>rfl)) pe_str (nomark _)) (@pss_one _ _ _ (@ps_ret _ _ _ _ (pe_c c_over_and_over (hr.mono (by omega)) rfl (pa_call (pe_c c_read_word (hr.mono (by omega)) rfl (pa_sub (pe_ix ix_tup (pv 0) pe_int (fun _ _=>rfl)) (pa_name (pv 1) pa_nil))) pa_nil)))) pss_nil)
   (@pss_cons _ _ _ _ _ (@ps_setD _ _ 3 _ _ _ _ sc_read_word.nd rfl (Or.inl rfl) (pes_tup (pas_list (pes_lst pas_nil) (pas_cmp (pes_of (pe_cmpR op_eq (pe_ix ix_tup (pv 0) pe_int (fun _ _=>rfl)) pe_str (nomark _))) (pas_list (pes_lst pas_nil) (pas_list (pes_lst pas_nil) (pas_list (pes_lst pas_nil) pas_nil)))))) rfl (Or.inl rfl))
   (@pss_cons _ _ _ _ _ (ps_for PassesOwn.never rfl (pi_tup (pe_ix ix_tup (pv 0) pe_int (fun _ _=>rfl))) (pg_name (i:=4) sc_read_word.nd rfl (Or.inl rfl) (Or.inl rfl))
   (@pss_cons _ _ _ _ _ (ps_set (i:=5) sc_read_word.nd rfl (Or.inl rfl) (pe_c c_read_word (hr.mono (by omega)) rfl (pa_name (pv 4) (pa_binop (pe_op op_add (pv 1) (pe_callB call_len_seq rfl T.b_len PySem.boot_len (pa_sub (pe_ix ix_tup (pv 3) pe_int (fun _ _=>rfl)) pa_nil))) pa_nil))))
   (@pss_one _ _ _ (ps_set (i:=3) sc_read_word.nd rfl (Or.inl rfl) (pe_ifExp (pt_cmpR op_eq (pe_ix ix_tup (pv 0) pe_int (fun _ _=>rfl)) pe_str (nomark _)) (pe_c c_one_behind_other (hr.mono (by omega)) rfl (pa_name (pv 3) (pa_name (pv 5) pa_nil))) (pe_c c_one_or_other (hr.mono (by omega)) rfl (pa_name (pv 3) (pa_name (pv 5) pa_nil))))))))
   (@pss_one _ _ _ (@ps_ret _ _ _ _ (pv 3))))))),lift_body h ?_⟩
  rintro as n P ⟨U,m,d,a,rfl,hw,hm,hlv,q⟩
  rcases hw with ⟨gs,rfl,hl,hg,rfl⟩ | ⟨e,rfl,hw⟩ | ⟨s,ms,ds,hs',rfl,hne,ha,rfl⟩
  · rw [rd_put] at q
    exact ⟨rfl,_,rfl,fEq_t (iteT ⟨_,.refl,_,rfl,small4 (Nat.le_of_ble_eq_true rfl),small4 (Nat.le_of_ble_eq_true rfl),small4 (Nat.le_of_ble_eq_true rfl),Nat.zero_le _,small4 (Nat.le_of_ble_eq_true rfl),q⟩)⟩
  · rw [rd_again] at q
    exact ⟨rfl,_,rfl,fEq_f w_again_put (iteF ⟨_,.refl,_,rfl,fEq_t (iteT ⟨_,rfl,U,m,e,a,rfl,hw,hm,by omega,rdW lv e a,rfl,(rd_b hw).s hm (by omega),q⟩)⟩)⟩
  · rw [rd_row hs'] at q
    refine ⟨rfl,_,rfl,fEq_f (rs_put hs') (iteF ⟨_,.refl,_,rfl,fEq_f (rs_again hs') (iteF ⟨_,.refl,Nat.zero_le _,_,rfl,fEq_ss ⟨Nat.zero_le _,Nat.zero_le _,Nat.zero_le _,small4 (Nat.le_of_ble_eq_true rfl),⟨[.d (rowW s ds),.d (.int a),.jnk,.d (rgD (rg0 s)),.jnk,.jnk],.eq rfl,_,rfl,?_⟩⟩⟩)⟩)⟩
    refine ⟨fun i env k=>k=n∧∃ x y z:Vl,env=[.d (rowW s ds),.d (.int a),x,.d (rgD (rdF lv s a (ds.take i))),y,z],⟨rfl,_,_,_,rfl⟩,?_,?_⟩
    · rintro i x env k hx ⟨rfl,x',y',z',rfl⟩
      obtain ⟨mm,hmm,hwx⟩:=all2_get ha (List.mem_of_getElem? hx)
      have mle:=mem_sum hmm
      have S1:RgS (rdF lv s a (ds.take i)):=(rdF_b (s:=s) (a:=a) (all2_takeH i ha)).s (Nat.le_trans (sum_takeH ms i) hm) (by omega)
      have et:ds.take (i+1)=ds.take i++[x]:=by rw [List.take_add_one,hx];rfl
      generalize hr:rdF lv s a (ds.take i)=r at S1
      have er:rdF lv s a (ds.take (i+1))=rComb s r (rdW lv x (a+(r.gs.length:Int))):=by rw [et,rdF_snoc,hr]
      have S2:RgS (rdW lv x (a+(r.gs.length:Int))):=(rd_b hwx).s (by omega) (by omega)
      refine ⟨_,rfl,U,mm,x,a+(r.gs.length:Int),?_,hwx,by omega,by omega,?_⟩
      · show [_,Vl.d (.int (a+(((r.gs.map gD).length:Nat):Int)))]=_
        rw [List.length_map]
      generalize rdW lv x (a+(r.gs.length:Int))=t at S2 er ⊢
      refine ⟨[.d (rowW s ds),.d (.int a),x',.d (rgD r),.d x,.d (rgD t)],.eq rfl,_,rfl,fEq_ss (ite_b (fun c=>⟨r,t,rfl,S1,S2,rfl,x',.d x,.d (rgD t),?_⟩) (fun c=>⟨r,t,rfl,S1,S2,rfl,x',.d x,.d (rgD t),?_⟩))⟩
      · rw [er]
        unfold rComb
        rw [if_pos (of_decide_eq_true c)]
        rfl
      · rw [er]
        unfold rComb
        rw [if_neg (of_decide_eq_false c)]
        rfl
    · rintro env k ⟨rfl,x',y',z',rfl⟩
      rw [List.take_length]
      exact ⟨_,.refl,q⟩
theorem sc_word_book:FnScope ["word","gains","none","firsts","lasts","pairs","leads","ways","over"] ["word"] (defScope s_word_book):=⟨rfl,rfl,rfl,by decide +kernel,rfl,by decide +kernel,by decide +kernel⟩
theorem ok_word_book (T:Txt mg) (D:Def K mg "word_book" s_word_book ["word"]) (c_read_word:Cal P w K mg base "read_word" 13 ["word","ahead"] (liftV (gsReadW 10))) (c_every_pair:Cal P w K mg base "every_pair" 1 ["lasts","firsts"] (liftN gsEvery)):Cal P w K mg base "word_book" 14 ["word"] (liftV gsWordBook):=by
 refine D.cal fun f fd F=>F.ok sc_word_book (lift_len ?_) (fun cdv A outer s H vs Q E hr h=>?_)
 · rintro as n P ⟨U,m,d,rfl,_⟩
   rfl
 refine ⟨_,(@pss_cons _ _ _ _ _ (ps_asg (pe_c c_read_word (hr.mono (by decide)) rfl (pa_name (pv 0) (pa_const pe_int pa_nil))) (pg_tup (n:=5) rfl (pgs_cons (pg_name (i:=1) sc_word_book.nd rfl (Or.inr rfl) (Or.inl rfl)) (pgs_cons (pg_name (i:=2) sc_word_book.nd rfl (Or.inl rfl) (Or.inl rfl)) (pgs_cons (pg_name (i:=3) sc_word_book.nd rfl (Or.inl rfl) (Or.inl rfl)) (pgs_cons (pg_name (i:=4) sc_word_book.nd rfl (Or.inl rfl) (Or.inl rfl)) (pgs_cons (pg_name (i:=5) sc_word_book.nd rfl (Or.inl rfl) (Or.inl rfl)) pgs_nil)))))))
  (@pss_cons _ _ _ _ _ (ps_set (i:=6) sc_word_book.nd rfl (Or.inl rfl) (pe_sortSetP rfl hr.units rfl T.b_sorted boot_sorted rfl T.b_set boot_set (pa_binop (pe_op op_cat (pe_c c_every_pair (hr.mono (by decide)) rfl (pa_list (@PEs.out _ _ _ (pes_lst (pas_const pes_int pas_nil))) (pa_name (pv 3) pa_nil))) (pv 5)) pa_nil)))
  (@pss_cons _ _ _ _ _ (ps_set (i:=7) sc_word_book.nd rfl (Or.inl rfl) (pe_callTy call_tuple_of rfl T.b_tuple boot_tuple (pa_comp (pe_comp (sc:=(defScope s_word_book)) (N:=["word","gains","none","firsts","lasts","pairs","leads","ways","over"]) (N':=["i","j","gains"]) (k:=2) (idx:=[1]) rfl (by exact ⟨rfl,by decide +kernel,by decide +kernel,by decide +kernel,by decide +kernel,by decide +kernel,rfl,rfl⟩) rfl rfl (pi_list (pv 6)) (fun _ _ _ _=>(pg_pair (K':=K) (i:=0) (j:=1) rfl (show (["i","j","gains"]:List Str).Nodup by decide +kernel) ⟨rfl,(Or.inl rfl),(Or.inr rfl)⟩ ⟨rfl,(Or.inl rfl),(Or.inr rfl)⟩ rfl)) (fun _ _ _ _=>pts_nil) (fun _ _ _ _=>(@PEs.out _ _ _ (pes_tup (pas_name (pes_of (pv 0)) (pas_name (pes_of (pv 1)) (pas_sub (pes_of (pe_ix (ix_listK (K':=K) rfl) (pv 2) (pe_op op_sub (pv 1) pe_int) (fun _ _=>rfl))) pas_nil))))))) pa_nil)))
  (@pss_cons _ _ _ _ _ (ps_set (i:=8) sc_word_book.nd rfl (Or.inl rfl) (pe_callB call_sortI rfl T.b_sorted boot_sorted (pa_if (pe_ifExp (pt_val (pv 2)) (pe_op op_cat (pv 4) (@PEs.out _ _ _ (pes_lst (pas_const pes_int pas_nil)))) (pv 4)) pa_nil)))
  (@pss_one _ _ _ (@ps_ret _ _ _ _ (@PEs.out _ _ _ (pes_tup (pas_tuple (pes_tup (pas_binop (pes_of (pe_op op_add (pe_callB call_len_seq rfl T.b_len PySem.boot_len (pa_name (pv 1) pa_nil)) pe_int)) (pas_call (pes_of (pe_callB call_len_seq rfl T.b_len PySem.boot_len (pa_sub (pe_ix ix_list (pv 1) pe_int (fun _ _=>rfl)) pa_nil))) (pas_name (pes_of (pv 7)) pas_nil)))) (pas_name (pes_of (pv 8)) pas_nil)))))))))),lift_body h ?_⟩
 rintro as n P ⟨U,m,d,rfl,hw,hm,q⟩
 have hs:sizeLine=16777216:=sizeLine_eq
 have b:=rd_b (a:=0) hw
 have m1:=hw.pos
 refine ⟨rfl,U,m,d,0,rfl,hw,hm,by omega,rfl,rfl,?_⟩
 generalize rdW 10 d 0=r at b q
 have S:=b.s hm (by omega)
 refine ⟨[.d d,.d (.list (r.gs.map gD)),.d (.bool r.no),.d (.list (r.fs.map .int)),.d (.list (r.ls.map .int)),.d (.list (r.ps.map prD)),.jnk,.jnk,.jnk],.eq rfl,?_⟩
 have cl:(crs [0] r.fs).length≤100:=by rw [crs_len,List.length_singleton,Nat.one_mul];exact S.f
 have sp:=S.p
 have sl:=S.l
 have el:(crs [0] r.fs).map prD++r.ps.map prD=(leadsR r).map prD:=by unfold leadsR;rw [List.map_append]
 have lsm:∀ k∈leadsR r,SmallP k∧k.2≠0∧1≤k.2∧k.2≤(m:Int):=fun k hk=>by
  unfold leadsR at hk
  rcases List.mem_append.mp hk with hk | hk
  · obtain ⟨c1,c2⟩:=crs_mem.mp hk
    have e1:k.1=0:=List.mem_singleton.mp c1
    have:=b.fb _ c2
    exact ⟨⟨⟨by omega,by omega⟩,by omega,by omega⟩,by omega,by omega,by omega⟩
  · have:=b.pb k hk
    exact ⟨⟨⟨by omega,by omega⟩,by omega,by omega⟩,by omega,by omega,by omega⟩
 refine ⟨small4 (Nat.le_of_ble_eq_true rfl),[0],r.fs,rfl,by decide,S.f,by simp only [List.length_map];omega,leadsR r,by rw [← el],fun k hk=>⟨(lsm k hk).1,(lsm k hk).2.1⟩,fun ks hmem hrise h64=>?_⟩
 refine ⟨[.d d,.d (.list (r.gs.map gD)),.d (.bool r.no),.d (.list (r.fs.map .int)),.d (.list (r.ls.map .int)),.d (.list (r.ps.map prD)),.own (ks.map prD),.jnk,.jnk],.eq rfl,⟨rfl,by rw [List.length_map];omega⟩,?_⟩
 refine cmpW_mapG (f:=prD) (fun k=>.tuple [.int k.1,.int k.2,gD (r.gs.getD (k.2-1).toNat [])]) (fun k hk n K hK=>⟨rfl,rfl,iteT ⟨_,?_,three_line,hK⟩⟩) ?_
 · obtain ⟨_,_,k1,k2⟩:=lsm k ((hmem k).mp hk)
   have hg:=b.g
   refine at_getD (by omega) ?_
   rw [List.getElem?_map,List.getD_eq_getElem?_getD,List.getElem?_eq_getElem (show (k.2-1).toNat<r.gs.length by omega)]
   rfl
 obtain ⟨g0,gr,eg⟩:∃ g0 gr,r.gs=g0::gr:=by
  cases e:r.gs with
  | nil=>have:=b.g;rw [e] at this;simp at this;omega
  | cons g0 gr=>exact ⟨g0,gr,rfl⟩
 have gl0:(g0.length:Int)=U:=b.gl g0 (by rw [eg];exact List.mem_cons_self)
 have at0:atI (r.gs.map gD) 0=some (gD g0):=at_getD (by decide) (by rw [eg];rfl)
 generalize hWS:(ks.map fun k=>PyData.tuple [.int k.1,.int k.2,gD (r.gs.getD (k.2-1).toNat [])])=WS
 have fin:∀ os:List Int,os.Perm (if r.no=true then r.ls++[0] else r.ls)→os.Pairwise (·≤·)→P (.tuple [.tuple [.int ((((r.gs.map gD).length:Nat):Int)+1),.int (((g0.map PyData.int).length:Nat):Int),.tuple WS],.list (os.map .int)]) n:=fun os h1 h2=>by
  have:=q ks os hmem hrise h1 h2
  unfold bookW at this
  rw [hWS] at this
  rw [List.length_map,List.length_map,gl0]
  exact this
 cases hno:r.no with
 | true=>
  rw [hno] at fin
  refine ⟨[.d d,.d (.list (r.gs.map gD)),.d (.bool true),.d (.list (r.fs.map .int)),.d (.list (r.ls.map .int)),.d (.list (r.ps.map prD)),.own (ks.map prD),.d (.tuple WS),.jnk],.eq rfl,iteT ⟨small4 (Nat.le_of_ble_eq_true rfl),by rw [List.length_map];show _+1≤sizeLine;omega,r.ls++[0],by rw [List.map_append];rfl,by rw [List.length_append,List.length_singleton];have:=b.ln;omega,fun os h1 h2=>?_⟩⟩
  exact ⟨_,.fz 8 _ rfl .refl,_,at0,three_line,two_line,fin os h1 h2⟩
 | false=>
  rw [hno] at fin
  refine ⟨[.d d,.d (.list (r.gs.map gD)),.d (.bool false),.d (.list (r.fs.map .int)),.d (.list (r.ls.map .int)),.d (.list (r.ps.map prD)),.own (ks.map prD),.d (.tuple WS),.jnk],.eq rfl,iteF ⟨r.ls,rfl,by have:=b.ln;omega,fun os h1 h2=>?_⟩⟩
  exact ⟨_,.fz 8 _ rfl .refl,_,at0,three_line,two_line,fin os h1 h2⟩
theorem sc_law_numbered:FnScope ["word","first","inner","parts","part"] ["word","first"] (defScope s_law_numbered):=⟨rfl,rfl,rfl,by decide +kernel,rfl,by decide +kernel,by decide +kernel⟩
theorem ok_law_numbered (T:Txt mg) (D:Def K mg "_law_numbered" s_law_numbered ["word","first"]):∀ m:Nat,Cal P w K mg base "_law_numbered" (m+1) ["word","first"] (liftV (gsNum m)):=by
 intro lv
 have hs:sizeLine=16777216:=sizeLine_eq
 induction lv with
 | zero=>
  refine D.cal fun f fd F=>F.ok sc_law_numbered (lift_len ?_) (fun cdv A outer s H vs Q E hr h=>?_)
  · rintro as n P ⟨U,m,d,a,rfl,_⟩
    rfl
  refine ⟨_,(@pss_cons _ _ _ _ _ (ps_if (pt_cmpR op_eq (pe_ix ix_tup (pv 0) pe_int (fun _ _=>rfl)) pe_str (nomark _)) (@pss_one _ _ _ (@ps_ret _ _ _ _ (@PEs.out _ _ _ (pes_tup (pas_tuple (pes_tup (pas_const pes_str (pas_name (pes_of (pv 1)) pas_nil))) (pas_binop (pes_of (pe_op op_add (pv 1) pe_int)) pas_nil)))))) pss_nil)
   pss_never),lift_body h ?_⟩
  rintro as n P ⟨U,m,d,a,rfl,hw,_⟩
  exact hw.elim
 | succ lv c__law_numbered=>
  refine D.cal fun f fd F=>F.ok sc_law_numbered (lift_len ?_) (fun cdv A outer s H vs Q E hr h=>?_)
  · rintro as n P ⟨U,m,d,a,rfl,_⟩
    rfl
  refine ⟨_,(@pss_cons _ _ _ _ _ (ps_if (pt_cmpR op_eq (pe_ix ix_tup (pv 0) pe_int (fun _ _=>rfl)) pe_str (nomark _)) (@pss_one _ _ _ (@ps_ret _ _ _ _ (@PEs.out _ _ _ (pes_tup (pas_tuple (pes_tup (pas_const pes_str (pas_name (pes_of (pv 1)) pas_nil))) (pas_binop (pes_of (pe_op op_add (pv 1) pe_int)) pas_nil)))))) pss_nil)
   (@pss_cons _ _ _ _ _ (ps_if (pt_cmpR op_eq (pe_ix ix_tup (pv 0) pe_int (fun _ _=>rfl)) pe_str (nomark _)) (@pss_cons _ _ _ _ _ (ps_asg (pe_c c__law_numbered (hr.mono (by omega)) rfl (pa_sub (pe_ix ix_tup (pv 0) pe_int (fun _ _=>rfl)) (pa_name (pv 1) pa_nil))) (pg_pair (K':=K) (i:=2) (j:=1) rfl sc_law_numbered.nd ⟨rfl,(Or.inl rfl),(Or.inl rfl)⟩ ⟨rfl,(Or.inl rfl),(Or.inl rfl)⟩ rfl))
   (@pss_one _ _ _ (@ps_ret _ _ _ _ (@PEs.out _ _ _ (pes_tup (pas_tuple (pes_tup (pas_const pes_str (pas_name (pes_of (pv 2)) pas_nil))) (pas_name (pes_of (pv 1)) pas_nil))))))) pss_nil)
   (@pss_cons _ _ _ _ _ (@ps_setD _ _ 3 _ _ _ _ sc_law_numbered.nd rfl (Or.inl rfl) (pes_lst pas_nil) rfl (Or.inl rfl))
   (@pss_cons _ _ _ _ _ (ps_for PassesOwn.never rfl (pi_tup (pe_ix ix_tup (pv 0) pe_int (fun _ _=>rfl))) (pg_name (i:=4) sc_law_numbered.nd rfl (Or.inl rfl) (Or.inl rfl))
   (@pss_cons _ _ _ _ _ (ps_asg (pe_c c__law_numbered (hr.mono (by omega)) rfl (pa_name (pv 4) (pa_name (pv 1) pa_nil))) (pg_pair (K':=K) (i:=2) (j:=1) rfl sc_law_numbered.nd ⟨rfl,(Or.inl rfl),(Or.inl rfl)⟩ ⟨rfl,(Or.inl rfl),(Or.inl rfl)⟩ rfl))
   (@pss_one _ _ _ (ps_expr (pe_bm PySem.F.plainAttrs_list PySem.F.slot_list_append PySem.F.type_list_append mt_append (pv 3) (pa_name (pv 2) pa_nil))))))
   (@pss_one _ _ _ (@ps_ret _ _ _ _ (@PEs.out _ _ _ (pes_tup (pas_tuple (pes_tup (pas_sub (pes_of (pe_ix ix_tup (pv 0) pe_int (fun _ _=>rfl))) (pas_call (pes_of (pe_callTy call_tuple_of rfl T.b_tuple boot_tuple (pa_name (pv 3) pa_nil))) pas_nil))) (pas_name (pes_of (pv 1)) pas_nil)))))))))),lift_body h ?_⟩
  rintro as n P ⟨U,m,d,a,rfl,hw,hm,q⟩
  rcases hw with ⟨gs,rfl,hl,hg,rfl⟩ | ⟨e,rfl,hw⟩ | ⟨s,ms,ds,hs',rfl,hne,ha,rfl⟩
  · rw [num_put] at q
    exact ⟨rfl,_,rfl,fEq_t (iteT ⟨two_line,two_line,q⟩)⟩
  · rw [num_again] at q
    refine ⟨rfl,_,rfl,fEq_f w_again_put (iteF ⟨_,.refl,_,rfl,fEq_t (iteT ⟨_,rfl,U,m,e,a,rfl,hw,hm,rfl,rfl,?_⟩)⟩)⟩
    exact ⟨_,.refl,two_line,two_line,q⟩
  · rw [num_row hs'] at q
    refine ⟨rfl,_,rfl,fEq_f (rs_put hs') (iteF ⟨_,.refl,_,rfl,fEq_f (rs_again hs') (iteF ⟨_,.refl,Nat.zero_le _,⟨[.d (rowW s ds),.d (.int (a+1)),.jnk,.own [],.jnk],.eq rfl,_,rfl,?_⟩⟩)⟩)⟩
    have Sg:∀ i,(rdF lv s a (ds.take i)).gs.length=(ms.take i).sum:=fun i=>(rdF_b (s:=s) (a:=a) (all2_takeH i ha)).g
    refine ⟨fun i env k=>k=n∧∃ x2 x4:Vl,env=[.d (rowW s ds),.d (.int (a+(((rdF lv s a (ds.take i)).gs.length:Nat):Int)+1)),x2,.own ((numL (numW lv) (cntW lv) a ds).take i),x4],⟨rfl,.jnk,.jnk,?_⟩,?_,?_⟩
    · show [_,Vl.d (.int (a+1)),_,_,_]=[_,Vl.d (.int (a+((0:Nat):Int)+1)),_,_,_]
      rw [show a+((0:Nat):Int)+1=a+1 by omega]
      rfl
    · rintro i x env k hx ⟨rfl,x2,x4,rfl⟩
      obtain ⟨mm,hmm,hwx⟩:=all2_get ha (List.mem_of_getElem? hx)
      have mle:=mem_sum hmm
      obtain ⟨hi,_⟩:=List.getElem?_eq_some_iff.mp hx
      have hi2:i<(numL (numW lv) (cntW lv) a ds).length:=by rw [numL_len];exact hi
      obtain ⟨x',hx',hy⟩:=numL_at lv s a (List.getElem?_eq_getElem hi2)
      rw [hx] at hx'
      cases hx'
      have et:(numL (numW lv) (cntW lv) a ds).take (i+1)=(numL (numW lv) (cntW lv) a ds).take i++[numW lv x (a+(((rdF lv s a (ds.take i)).gs.length:Nat):Int))]:=by rw [List.take_add_one,List.getElem?_eq_getElem hi2,hy];rfl
      have e2:(((rdF lv s a (ds.take (i+1))).gs.length:Nat):Int)=(((rdF lv s a (ds.take i)).gs.length:Nat):Int)+(mm:Int):=by
       have:ds.take (i+1)=ds.take i++[x]:=by rw [List.take_add_one,hx];rfl
       rw [this,rdF_snoc,rComb_gs,List.length_append,(rd_b hwx).g]
       omega
      have ln:((numL (numW lv) (cntW lv) a ds).take i).length<sizeLine:=by
       rw [List.length_take]
       have:=wd_len ha
       rw [numL_len];omega
      refine ⟨U,mm,x,a+(((rdF lv s a (ds.take i)).gs.length:Nat):Int),rfl,hwx,by omega,rfl,rfl,?_⟩
      refine ⟨_,.refl,ln,rfl,.d (numW lv x (a+(((rdF lv s a (ds.take i)).gs.length:Nat):Int))),.d x,?_⟩
      rw [et,e2]
      have e3:a+(((rdF lv s a (ds.take i)).gs.length:Nat):Int)+1+(mm:Int)=a+((((rdF lv s a (ds.take i)).gs.length:Nat):Int)+(mm:Int))+1:=by omega
      rw [← e3]
      rfl
    · rintro env k ⟨rfl,x2,x4,rfl⟩
      refine ⟨_,.refl,_,rfl,two_line,two_line,?_⟩
      have e4:a+(((rdF lv s a (ds.take ds.length)).gs.length:Nat):Int)+1=a+1+((ms.sum:Nat):Int):=by
       rw [List.take_length,(rdF_b (s:=s) (a:=a) ha).g];omega
      rw [e4]
      have e5:(numL (numW lv) (cntW lv) a ds).take ds.length=numL (numW lv) (cntW lv) a ds:=List.take_of_length_le (by rw [numL_len];exact Nat.le_refl _)
      rw [e5]
      exact q
theorem sc_law_over:FnScope ["word","row","starts","part","found","fresh","inner"] ["word","row","starts"] (defScope s_law_over):=⟨rfl,rfl,rfl,by decide +kernel,rfl,by decide +kernel,by decide +kernel⟩
theorem ok_law_over (T:Txt mg) (D:Def K mg "_law_over" s_law_over ["word","row","starts"]):∀ m:Nat,Cal P w K mg base "_law_over" (m+1) ["word","row","starts"] (liftV (gsOverL m)):=by
 intro lv
 have hs:sizeLine=16777216:=sizeLine_eq
 induction lv with
 | zero=>
  refine D.cal fun f fd F=>F.ok sc_law_over (lift_len ?_) (fun cdv A outer s H vs Q E hr h=>?_)
  · rintro as n P ⟨U,m,d,a,row,st,rfl,_⟩
    rfl
  refine ⟨_,(@pss_cons _ _ _ _ _ (ps_if (pt_cmpR op_eq (pe_ix ix_tup (pv 0) pe_int (fun _ _=>rfl)) pe_str (nomark _)) (@pss_one _ _ _ (@ps_ret _ _ _ _ (pe_comp (sc:=(defScope s_law_over)) (N:=["word","row","starts","part","found","fresh","inner"]) (N':=["at","row","word"]) (k:=1) (idx:=[1,0]) rfl (by exact ⟨rfl,by decide +kernel,by decide +kernel,by decide +kernel,by decide +kernel,by decide +kernel,rfl,rfl⟩) rfl rfl (pi_list (pv 2)) (fun _ _ _ _=>(pg_name (i:=0) (show (["at","row","word"]:List Str).Nodup by decide +kernel) rfl (Or.inl rfl) (Or.inr rfl))) (fun _ _ _ _=>pts_one (PW.pt (pw_and (pt_cmpR op_lt (pv 0) (pe_callB (call_len_seqK (K':=K) rfl) rfl T.b_len PySem.boot_len (pa_name (pv 1) pa_nil)) (nomark _)) (pw_and1 (pt_cmpR (op_eqD hr.units) (pe_ix (ix_listK (K':=K) rfl) (pv 1) (pv 0) (fun _ _=>rfl)) (pe_ix (ix_tupK (K':=K) rfl) (pv 2) pe_int (fun _ _=>rfl)) (nomark _)))))) (fun _ _ _ _=>(pe_op op_add (pv 0) pe_int))))) pss_nil)
   pss_never),lift_body h ?_⟩
  rintro as n P ⟨U,m,d,a,row,st,rfl,hw,_⟩
  exact hw.elim
 | succ lv c__law_over=>
  refine D.cal fun f fd F=>F.ok sc_law_over (lift_len ?_) (fun cdv A outer s H vs Q E hr h=>?_)
  · rintro as n P ⟨U,m,d,a,row,st,rfl,_⟩
    rfl
  refine ⟨_,(@pss_cons _ _ _ _ _ (ps_if (pt_cmpR op_eq (pe_ix ix_tup (pv 0) pe_int (fun _ _=>rfl)) pe_str (nomark _)) (@pss_one _ _ _ (@ps_ret _ _ _ _ (pe_comp (sc:=(defScope s_law_over)) (N:=["word","row","starts","part","found","fresh","inner"]) (N':=["at","row","word"]) (k:=1) (idx:=[1,0]) rfl (by exact ⟨rfl,by decide +kernel,by decide +kernel,by decide +kernel,by decide +kernel,by decide +kernel,rfl,rfl⟩) rfl rfl (pi_list (pv 2)) (fun _ _ _ _=>(pg_name (i:=0) (show (["at","row","word"]:List Str).Nodup by decide +kernel) rfl (Or.inl rfl) (Or.inr rfl))) (fun _ _ _ _=>pts_one (PW.pt (pw_and (pt_cmpR op_lt (pv 0) (pe_callB (call_len_seqK (K':=K) rfl) rfl T.b_len PySem.boot_len (pa_name (pv 1) pa_nil)) (nomark _)) (pw_and1 (pt_cmpR (op_eqD hr.units) (pe_ix (ix_listK (K':=K) rfl) (pv 1) (pv 0) (fun _ _=>rfl)) (pe_ix (ix_tupK (K':=K) rfl) (pv 2) pe_int (fun _ _=>rfl)) (nomark _)))))) (fun _ _ _ _=>(pe_op op_add (pv 0) pe_int))))) pss_nil)
   (@pss_cons _ _ _ _ _ (ps_if (pt_cmpR op_eq (pe_ix ix_tup (pv 0) pe_int (fun _ _=>rfl)) pe_str (nomark _)) (@pss_cons _ _ _ _ _ (ps_for PassesOwn.never rfl (pi_tup (pe_ix ix_tup (pv 0) pe_int (fun _ _=>rfl))) (pg_name (i:=3) sc_law_over.nd rfl (Or.inl rfl) (Or.inl rfl))
   (@pss_one _ _ _ (ps_set (i:=2) sc_law_over.nd rfl (Or.inl rfl) (pe_c c__law_over (hr.mono (by omega)) rfl (pa_name (pv 3) (pa_name (pv 1) (pa_name (pv 2) pa_nil)))))))
   (@pss_one _ _ _ (@ps_ret _ _ _ _ (pv 2)))) pss_nil)
   (@pss_cons _ _ _ _ _ (ps_if (pt_cmpR op_eq (pe_ix ix_tup (pv 0) pe_int (fun _ _=>rfl)) pe_str (nomark _)) (@pss_cons _ _ _ _ _ (@ps_setD _ _ 4 _ _ _ _ sc_law_over.nd rfl (Or.inr rfl) (pes_lst pas_nil) rfl (Or.inl rfl))
   (@pss_cons _ _ _ _ _ (ps_for PassesOwn.never rfl (pi_tup (pe_ix ix_tup (pv 0) pe_int (fun _ _=>rfl))) (pg_name (i:=3) sc_law_over.nd rfl (Or.inl rfl) (Or.inl rfl))
   (@pss_one _ _ _ (ps_set (i:=4) sc_law_over.nd rfl (Or.inr rfl) (pe_op op_cat (pv 4) (pe_c c__law_over (hr.mono (by omega)) rfl (pa_name (pv 3) (pa_name (pv 1) (pa_name (pv 2) pa_nil))))))))
   (@pss_one _ _ _ (@ps_ret _ _ _ _ (pe_sortSetW rfl rfl T.b_sorted boot_sorted rfl T.b_set boot_set (pa_name (pv 4) pa_nil)))))) pss_nil)
   (@pss_cons _ _ _ _ _ (ps_set (i:=4) sc_law_over.nd rfl (Or.inr rfl) (pe_sortSetW rfl rfl T.b_sorted boot_sorted rfl T.b_set boot_set (pa_name (pv 2) pa_nil)))
   (@pss_cons _ _ _ _ _ (ps_set (i:=5) sc_law_over.nd rfl (Or.inl rfl) (pv 4))
   (@pss_cons _ _ _ _ _ (ps_set (i:=6) sc_law_over.nd rfl (Or.inl rfl) (pe_ix ix_tup (pv 0) pe_int (fun _ _=>rfl)))
   (@pss_cons _ _ _ _ _ (ps_while PassesOwn.never (pt_cmpR op_eq (pe_ix ix_tup (pv 6) pe_int (fun _ _=>rfl)) pe_str (nomark _))
   (@pss_one _ _ _ (ps_next (ps_set (i:=6) sc_law_over.nd rfl (Or.inl rfl) (pe_ix ix_tup (pv 6) pe_int (fun _ _=>rfl))))))
   (@pss_cons _ _ _ _ _ (ps_while PassesOwn.never (pt_cmpR (op_neD hr.units) (pv 5) (@PEs.out _ _ _ (pes_lst pas_nil)) (nomark _))
   (@pss_cons _ _ _ _ _ (ps_setcomp (i:=5) (sc:=(defScope s_law_over)) (N:=["word","row","starts","part","found","fresh","inner"]) (N':=["at","found"]) (k:=1) (idx:=[4]) rfl sc_law_over.nd rfl rfl (by exact ⟨rfl,by decide +kernel,by decide +kernel,by decide +kernel,by decide +kernel,by decide +kernel,rfl,rfl⟩) rfl rfl (pi_list (pe_c c__law_over (hr.mono (by omega)) rfl (pa_name (pv 6) (pa_name (pv 1) (pa_name (pv 5) pa_nil))))) (fun _ _ _ _=>(pg_name (i:=0) (show (["at","found"]:List Str).Nodup by decide +kernel) rfl (Or.inl rfl) (Or.inr rfl))) (fun _ _ _ _=>pts_one (pt_cmpR (op_notIn_seqK (K':=K) rfl) (pv 0) (pv 1) (by with_unfolding_all rfl))) (fun _ _ _ _=>(pv 0)))
   (@pss_cons _ _ _ _ _ (ps_set (i:=5) sc_law_over.nd rfl (Or.inl rfl) (pe_sortSetW rfl rfl T.b_sorted boot_sorted rfl T.b_set boot_set (pa_name (pv 5) pa_nil)))
   (@pss_one _ _ _ (ps_next (ps_set (i:=4) sc_law_over.nd rfl (Or.inr rfl) (pe_op op_cat (pv 4) (pv 5))))))))
   (@pss_one _ _ _ (@ps_ret _ _ _ _ (pe_callB call_sortI rfl T.b_sorted boot_sorted (pa_name (pv 4) pa_nil)))))))))))),lift_body h ?_⟩
  rintro as n P ⟨U,m,d,a,row,st,rfl,hw,hm,ok,q⟩
  have okr:=ok.r
  have okl:=ok.l
  rcases hw with ⟨gs,rfl,hl,hg,rfl⟩ | ⟨e,rfl,hw⟩ | ⟨s,ms,ds,hs',rfl,hne,ha,rfl⟩
  · rw [lg_put] at q
    rw [num_put]
    refine ⟨rfl,_,rfl,fEq_t (iteT ?_)⟩
    refine ⟨⟨rfl,by rw [List.length_map];omega⟩,cmpW_fm (g:=.int) (h:=fun s=>.int (s+1)) (p:=fun s=>decide (s<(row.length:Int))&&decide (row.getD s.toNat 0=a+1)) (fun s hs K k1 k2=>?_) ?_⟩
    · have hb:=ok.b s hs
      refine ite_b (fun c1=>?_) (fun c1=>?_)
      · have c1:decide (s<(((row.map PyData.int).length:Nat):Int))=true:=c1
        rw [List.length_map] at c1
        have c2:=of_decide_eq_true c1
        refine ⟨.int (row.getD s.toNat 0),at_getD hb.1 ?_,_,rfl,?_⟩
        · rw [List.getElem?_map,List.getD_eq_getElem?_getD,List.getElem?_eq_getElem (show s.toNat<row.length by omega)]
          rfl
        refine ⟨⟨rfl,rfl,Nat.le_trans (Nat.min_le_right _ _) (Nat.zero_le _)⟩,ite_b (fun c3=>k1 ?_) (fun c3=>k2 ?_)⟩
        · have c3:decide (row.getD s.toNat 0=a+1)=true:=c3
          rw [c1,c3];rfl
        · have c3:decide (row.getD s.toNat 0=a+1)=false:=c3
          rw [c1,c3];rfl
      · have c1:decide (s<(((row.map PyData.int).length:Nat):Int))=false:=c1
        rw [List.length_map] at c1
        exact iteF (k2 (by rw [c1];rfl))
    · have:=q _ (over_put ok (fun s=>decide (s<(row.length:Int))&&decide (row.getD s.toNat 0=a+1)) fun s hs=>by
       have hb:=ok.b s hs
       rw [Bool.and_eq_true,decide_eq_true_iff,decide_eq_true_iff]
       refine and_congr_right fun c=>?_
       rw [List.getD_eq_getElem?_getD,List.getElem?_eq_getElem (show s.toNat<row.length by omega)]
       exact ⟨fun h=>congrArg some h,fun h=>Option.some.inj h⟩)
      rw [List.map_map] at this
      exact this
  · rw [lg_again] at q
    rw [num_again]
    refine ⟨rfl,_,rfl,fEq_f w_again_put (iteF ⟨_,.refl,_,rfl,fEq_f w_again_row (iteF ⟨_,.refl,_,rfl,fEq_f w_again_either (iteF ⟨_,.refl,?_⟩)⟩)⟩)⟩
    refine ⟨st,rfl,by omega,fun k hk=>by have:=ok.b k hk;omega,fun F h1 h2=>?_⟩
    refine ⟨[.d (.tuple [.str "again",numW lv e a]),.d (.list (row.map .int)),.d (.list (st.map .int)),.jnk,.d (.list (F.map .int)),.jnk,.jnk],.fz 4 _ rfl .refl,?_⟩
    refine ⟨[.d (.tuple [.str "again",numW lv e a]),.d (.list (row.map .int)),.d (.list (st.map .int)),.jnk,.d (.list (F.map .int)),.d (.list (F.map .int)),.jnk],.eq rfl,?_⟩
    refine ⟨_,rfl,⟨[.d (.tuple [.str "again",numW lv e a]),.d (.list (row.map .int)),.d (.list (st.map .int)),.jnk,.d (.list (F.map .int)),.d (.list (F.map .int)),.d (numW lv e a)],.eq rfl,?_⟩⟩
    have ex:∀ w,StarL (LgW lv e a) w↔StarL (LgW lv e a) w:=fun w=>Iff.rfl
    refine vseq (fun env k=>k=n∧∃ e':PyData,Wd U lv m e'∧(∀ w,StarL (LgW lv e' a) w↔StarL (LgW lv e a) w)∧env=[.d (.tuple [.str "again",numW lv e a]),.d (.list (row.map .int)),.d (.list (st.map .int)),.jnk,.d (.list (F.map .int)),.d (.list (F.map .int)),.d (numW lv e' a)]) (fun N hN=>?_) ?_
    · refine ⟨fun k env n'=>n'=n∧∃ e':PyData,Wd U k m e'∧k≤lv∧(∀ w,StarL (LgW k e' a) w↔StarL (LgW lv e a) w)∧env=[.d (.tuple [.str "again",numW lv e a]),.d (.list (row.map .int)),.d (.list (st.map .int)),.jnk,.d (.list (F.map .int)),.d (.list (F.map .int)),.d (numW k e' a)],⟨lv,rfl,e,hw,Nat.le_refl _,ex,rfl⟩,?_⟩
      rintro k env n' ⟨rfl,e',hw',hk,hst,rfl⟩
      cases k with
      | zero=>exact hw'.elim
      | succ k=>
       have out:∀ d,Wd U (k+1) m d→(∀ w,StarL (LgW (k+1) d a) w↔StarL (LgW lv e a) w)→N [.d (.tuple [.str "again",numW lv e a]),.d (.list (row.map .int)),.d (.list (st.map .int)),.jnk,.d (.list (F.map .int)),.d (.list (F.map .int)),.d (numW (k+1) d a)] n':=fun d hd hst=>hN _ _ ⟨rfl,d,hd.mono hk,fun w=>by
        rw [← hst w]
        exact ⟨fun h=>h.mono fun u=>(lg_mono hd hk u).mp,fun h=>h.mono fun u=>(lg_mono hd hk u).mpr⟩,by rw [num_mono hd hk]⟩
       have hw0:=hw'
       rcases hw' with ⟨gs,rfl,hl,hg,rfl⟩ | ⟨e2,rfl,hw2⟩ | ⟨s,ms,ds,hs',rfl,hne,ha,rfl⟩
       · have o:=out _ hw0 hst
         rw [num_put] at o ⊢
         exact ⟨_,rfl,fEq_f w_put_again (iteF o)⟩
       · rw [num_again]
         refine ⟨_,rfl,fEq_t (iteT ⟨_,rfl,⟨_,.refl,k,Nat.lt_succ_self k,rfl,e2,hw2,by omega,fun w=>?_,rfl⟩⟩)⟩
         rw [← hst w,lg_again]
         exact StarL.star.symm
       · have o:=out _ hw0 hst
         rw [num_row hs'] at o ⊢
         exact ⟨_,rfl,fEq_f (rs_again hs') (iteF o)⟩
    rintro _ k ⟨rfl,e',hw',hst,rfl⟩
    refine ⟨_,.refl,?_⟩
    refine vseq (fun env j=>j=k∧∃ (F':List Int),FixI (LgW lv e' a) row st F' []∧env=[.d (.tuple [.str "again",numW lv e a]),.d (.list (row.map .int)),.d (.list (st.map .int)),.jnk,.d (.list (F'.map .int)),.d (.list []),.d (numW lv e' a)]) (fun N hN=>?_) ?_
    · refine ⟨fun j env n'=>n'=k∧∃ F' G:List Int,FixI (LgW lv e' a) row st F' G∧j=2*(50-F'.length)+(if G=[] then 0 else 1)∧env=[.d (.tuple [.str "again",numW lv e a]),.d (.list (row.map .int)),.d (.list (st.map .int)),.jnk,.d (.list (F'.map .int)),.d (.list (G.map .int)),.d (numW lv e' a)],⟨_,rfl,F,F,FixI.start ok h1 h2,rfl,rfl⟩,?_⟩
      rintro j env n' ⟨rfl,F',G,fx,rfl,rfl⟩
      refine ⟨Nat.zero_le _,neNil (ns:=G) (fun hG=>iteT ?_) (fun hG=>iteF ?_)⟩
      · refine ⟨U,m,e',a,row,G,rfl,hw',hm,fx.gok,fun o ho=>?_⟩
        refine ⟨⟨rfl,by rw [List.length_map];have:=ho.2;omega⟩,cmpW_fm (g:=.int) (h:=.int) (p:=fun x=>!decide (x∈F')) (fun x hx K k1 k2=>?_) ?_⟩
        · refine ⟨rfl,scal_is F',?_⟩
          have e1:(if true=true then !inD (.int x) (F'.map .int) else inD (.int x) (F'.map .int)) = !decide (x∈F'):=by rw [if_pos rfl,in_is]
          refine ite_b (fun c=>k1 ?_) (fun c=>k2 ?_)
          · rw [← e1];exact c
          · rw [← e1];exact c
        · have lf:=fx.len
          have ol:=List.length_filter_le (fun x=>!decide (x∈F')) o
          have o2:=ho.2
          refine ⟨_,.fz 5 _ rfl .refl,o.filter (fun x=>!decide (x∈F')),rfl,by omega,fun k hk=>?_,fun G' g1 g2=>?_⟩
          · have:=(Over.ok fx.gok ho).b k (List.mem_filter.mp hk).1
            omega
          have fx':=fx.step ho g1 g2
          have gl:=fx'.gn
          refine ⟨_,.refl,by rw [List.length_map,List.length_map];omega,?_⟩
          rw [← List.map_append]
          refine ⟨[.d (.tuple [.str "again",numW lv e a]),.d (.list (row.map .int)),.d (.list (st.map .int)),.jnk,.d (.list ((F'++G').map .int)),.d (.list (G'.map .int)),.d (numW lv e' a)],.fz 4 _ rfl (.fz 5 _ rfl .refl),?_⟩
          refine ⟨_,?_,rfl,F'++G',G',fx',rfl,rfl⟩
          have l2:=fx'.len
          rw [List.length_append] at l2 ⊢
          rw [if_neg hG]
          cases G' with
          | nil=>rw [if_pos rfl,List.length_nil];omega
          | cons y ys=>rw [List.length_cons] at l2 ⊢;split<;>omega
      · subst hG
        exact hN _ _ ⟨rfl,F',fx,rfl⟩
    rintro _ j ⟨rfl,F',fx,rfl⟩
    refine ⟨_,.refl,F',rfl,by have:=fx.len;omega,fun o o1 o2=>?_⟩
    exact q o ((fx.done o1).congr hst)
  · rw [lg_row hs'] at q
    rw [num_row hs']
    have okp:∀ i x,(numL (numW lv) (cntW lv) a ds)[i]? = some x→∃ d mm,ds[i]? = some d∧x=numW lv d (a+(((rdF lv s a (ds.take i)).gs.length:Nat):Int))∧Wd U lv mm d∧mm≤7:=fun i x hx=>by
     obtain ⟨d,hd,e⟩:=numL_at lv s a hx
     obtain ⟨mm,hmm,hwx⟩:=all2_get ha (List.mem_of_getElem? hd)
     have:=mem_sum hmm
     exact ⟨d,mm,hd,e,hwx,by omega⟩
    rcases hs' with rfl | rfl
    · refine ⟨rfl,_,rfl,fEq_f (rs_put (.inl rfl)) (iteF ⟨_,.refl,_,rfl,fEq_t (iteT ⟨_,rfl,?_⟩)⟩)⟩
      refine ⟨fun i env k=>k=n∧∃ (o:List Int) (x3:Vl),Over (LgF lv "row" a (ds.take i)) row st o∧env=[.d (.tuple [.str "row",.tuple (numL (numW lv) (cntW lv) a ds)]),.d (.list (row.map .int)),.d (.list (o.map .int)),x3,.jnk,.jnk,.jnk],⟨rfl,st,.jnk,?_,rfl⟩,?_,?_⟩
      · rw [List.take_zero,lgF_nil]
        have:lg0 "row" = fun w=>w=[]:=by unfold lg0;rw [if_pos rfl]
        rw [this]
        exact over_nil ok
      · rintro i x env k hx ⟨rfl,o,x3,ho,rfl⟩
        obtain ⟨d,mm,hd,rfl,hwx,hmm⟩:=okp i x hx
        refine ⟨U,mm,d,_,row,o,rfl,hwx,hmm,ho.ok ok,fun out hout=>⟨rfl,out,_,?_,rfl⟩⟩
        have et:ds.take (i+1)=ds.take i++[d]:=by rw [List.take_add_one,hd];rfl
        rw [et,lgF_snoc]
        unfold combL
        rw [if_pos rfl]
        exact over_cat ho hout
      · rintro env k ⟨rfl,o,x3,ho,rfl⟩
        rw [numL_len,List.take_length] at ho
        exact ⟨_,.refl,q o ho⟩
    · refine ⟨rfl,_,rfl,fEq_f (rs_put (.inr rfl)) (iteF ⟨_,.refl,_,rfl,fEq_f w_either_row (iteF ⟨_,.refl,_,rfl,fEq_t (iteT ⟨Nat.zero_le _,⟨[.d (.tuple [.str "either",.tuple (numL (numW lv) (cntW lv) a ds)]),.d (.list (row.map .int)),.d (.list (st.map .int)),.jnk,.own [],.jnk,.jnk],.eq rfl,?_⟩⟩)⟩)⟩)⟩
      refine ⟨_,rfl,?_⟩
      refine ⟨fun i env k=>k=n∧∃ (o:List Int) (x3:Vl),OverB (LgF lv "either" a (ds.take i)) row st o∧o.length≤60*i∧env=[.d (.tuple [.str "either",.tuple (numL (numW lv) (cntW lv) a ds)]),.d (.list (row.map .int)),.d (.list (st.map .int)),x3,.own (o.map .int),.jnk,.jnk],⟨rfl,[],.jnk,?_,Nat.le_refl _,rfl⟩,?_,?_⟩
      · rw [List.take_zero,lgF_nil]
        have:lg0 "either" = fun _=>False:=by unfold lg0;rw [if_neg w_either_row]
        rw [this]
        exact fun e=>⟨fun h=>(by cases h),fun ⟨s,_,hq⟩=>absurd hq spn_no⟩
      · rintro i x env k hx ⟨rfl,o,x3,ho,hol,rfl⟩
        obtain ⟨hi,_⟩:=List.getElem?_eq_some_iff.mp hx
        rw [numL_len] at hi
        have dl:=wd_len ha
        obtain ⟨d,mm,hd,rfl,hwx,hmm⟩:=okp i x hx
        refine ⟨U,mm,d,_,row,st,rfl,hwx,hmm,ok,fun out hout=>?_⟩
        have o2:=hout.2
        refine ⟨by rw [List.length_map,List.length_map];omega,rfl,o++out,_,?_,by rw [List.length_append];omega,by rw [List.map_append];rfl⟩
        have et:ds.take (i+1)=ds.take i++[d]:=by rw [List.take_add_one,hd];rfl
        rw [et,lgF_snoc]
        unfold combL
        rw [if_neg w_either_row]
        exact over_or ho hout
      · rintro env k ⟨rfl,o,x3,ho,hol,rfl⟩
        rw [numL_len,List.take_length] at ho
        rw [numL_len] at hol
        have dl:=wd_len ha
        refine ⟨_,.fz 4 _ rfl .refl,o,rfl,by omega,fun k hk=>?_,fun o2 g1 g2=>q o2 (over_set ok ho g1 g2)⟩
        obtain ⟨s,_,hs⟩:=(ho k).mp hk
        have:=hs.bound
        omega
theorem sc_law_row:FnScope ["jar","word","found","turn","parts","part"] ["jar","word"] (defScope s_law_row):=⟨rfl,rfl,rfl,by decide +kernel,rfl,by decide +kernel,by decide +kernel⟩
theorem ok_law_row (T:Txt mg) (D:Def K mg "_law_row" s_law_row ["jar","word"]) (c__law_pick:Cal P w K mg base "_law_pick" 2 ["jar","many"] (liftV gsPick)):∀ m:Nat,Cal P w K mg base "_law_row" (m+3) ["jar","word"] (liftV (gsRow m)):=by
 intro lv
 have hs:sizeLine=16777216:=sizeLine_eq
 induction lv with
 | zero=>
  refine D.cal fun f fd F=>F.ok sc_law_row (lift_len ?_) (fun cdv A outer s H vs Q E hr h=>?_)
  · rintro as n P ⟨U,m,d,a,rfl,_⟩
    rfl
  refine ⟨_,(@pss_cons _ _ _ _ _ (ps_if (pt_cmpR op_eq (pe_ix ix_tup (pv 1) pe_int (fun _ _=>rfl)) pe_str (nomark _)) (@pss_one _ _ _ (@ps_ret _ _ _ _ (@PEs.out _ _ _ (pes_lst (pas_sub (pes_of (pe_ix ix_tup (pv 1) pe_int (fun _ _=>rfl))) pas_nil))))) pss_nil)
   pss_never),lift_body h ?_⟩
  rintro as n P ⟨U,m,d,a,rfl,hw,_⟩
  exact hw.elim
 | succ lv c__law_row=>
  refine D.cal fun f fd F=>F.ok sc_law_row (lift_len ?_) (fun cdv A outer s H vs Q E hr h=>?_)
  · rintro as n P ⟨U,m,d,a,rfl,_⟩
    rfl
  refine ⟨_,(@pss_cons _ _ _ _ _ (ps_if (pt_cmpR op_eq (pe_ix ix_tup (pv 1) pe_int (fun _ _=>rfl)) pe_str (nomark _)) (@pss_one _ _ _ (@ps_ret _ _ _ _ (@PEs.out _ _ _ (pes_lst (pas_sub (pes_of (pe_ix ix_tup (pv 1) pe_int (fun _ _=>rfl))) pas_nil))))) pss_nil)
   (@pss_cons _ _ _ _ _ (@ps_setD _ _ 2 _ _ _ _ sc_law_row.nd rfl (Or.inl rfl) (pes_lst pas_nil) rfl (Or.inl rfl))
   (@pss_cons _ _ _ _ _ (ps_if (pt_cmpR op_eq (pe_ix ix_tup (pv 1) pe_int (fun _ _=>rfl)) pe_str (nomark _)) (@pss_cons _ _ _ _ _ (ps_for PassesOwn.never rfl (pi_range1 rfl T.b_range (pa_call (pe_c c__law_pick (hr.mono (by omega)) rfl (pa_name (pv 0) (pa_const pe_int pa_nil))) pa_nil)) (pg_name (i:=3) sc_law_row.nd rfl (Or.inl rfl) (Or.inl rfl))
   (@pss_one _ _ _ (ps_if (PW.pt (pw_and (pt_cmpR op_lt (pe_callB call_len_seq rfl T.b_len PySem.boot_len (pa_name (pv 2) pa_nil)) pe_int (nomark _)) (pw_and1 (pt_cmpR op_gt (pe_dget (hu_of hr) (pv 0) pe_str (fun _ _=>rfl)) pe_int (nomark _))))) (@pss_cons _ _ _ _ _ (ps_dput (hu_of hr) (pv 0) pe_str (pe_op op_sub (pe_dget (hu_of hr) (pv 0) pe_str (fun _ _=>rfl)) pe_int) rfl)
   (@pss_one _ _ _ (ps_set (i:=2) sc_law_row.nd rfl (Or.inl rfl) (pe_op op_cat (pv 2) (pe_c c__law_row (hr.mono (by omega)) rfl (pa_name (pv 0) (pa_sub (pe_ix ix_tup (pv 1) pe_int (fun _ _=>rfl)) pa_nil))))))) pss_nil)))
   (@pss_one _ _ _ (@ps_ret _ _ _ _ (pv 2)))) pss_nil)
   (@pss_cons _ _ _ _ _ (ps_set (i:=4) sc_law_row.nd rfl (Or.inl rfl) (pe_ix ix_tup (pv 1) pe_int (fun _ _=>rfl)))
   (@pss_cons _ _ _ _ _ (ps_if (pt_cmpR op_eq (pe_ix ix_tup (pv 1) pe_int (fun _ _=>rfl)) pe_str (nomark _)) (@pss_one _ _ _ (@ps_setD _ _ 4 _ _ _ _ sc_law_row.nd rfl (Or.inl rfl) (pes_tup (pas_sub (pes_of (pe_ix ix_tup (pv 4) (pe_c c__law_pick (hr.mono (by omega)) rfl (pa_name (pv 0) (pa_call (pe_callB call_len_seq rfl T.b_len PySem.boot_len (pa_name (pv 4) pa_nil)) pa_nil))) (fun _ _=>rfl))) pas_nil)) rfl (Or.inl rfl))) pss_nil)
   (@pss_cons _ _ _ _ _ (ps_for PassesOwn.never rfl (pi_tup (pv 4)) (pg_name (i:=5) sc_law_row.nd rfl (Or.inl rfl) (Or.inl rfl))
   (@pss_one _ _ _ (ps_set (i:=2) sc_law_row.nd rfl (Or.inl rfl) (pe_op op_cat (pv 2) (pe_c c__law_row (hr.mono (by omega)) rfl (pa_name (pv 0) (pa_name (pv 5) pa_nil)))))))
   (@pss_one _ _ _ (@ps_ret _ _ _ _ (pv 2))))))))),lift_body h ?_⟩
  rintro as n P ⟨U,m,d,a,rfl,hw,hm,hlv,hn,q⟩
  have p3:=pow3 hlv
  have p3':=pow3 (show lv≤10 by omega)
  have ps:1+19*(lv+1)=(1+19*lv)+19:=by omega
  rcases hw with ⟨gs,rfl,hl,hg,rfl⟩ | ⟨e,rfl,hw⟩ | ⟨s,ms,ds,hs',rfl,hne,ha,rfl⟩
  · rw [lg_put] at q
    rw [num_put]
    exact ⟨rfl,_,rfl,fEq_t (iteT ⟨_,rfl,small4 (Nat.le_of_ble_eq_true rfl),q [a+1] n hn rfl (by rw [Nat.one_mul,List.length_singleton];omega)⟩)⟩
  · rw [lg_again] at q
    rw [num_again]
    refine ⟨rfl,_,rfl,fEq_f w_again_put (iteF ⟨_,.refl,Nat.zero_le _,⟨[.jar,.d (.tuple [.str "again",numW lv e a]),.own [],.jnk,.jnk,.jnk],.eq rfl,_,rfl,fEq_t (iteT ?_)⟩⟩)⟩
    refine ⟨4,rfl,by decide,by decide +kernel,fun t t0 t1=>⟨t,rfl,⟨by omega,by omega⟩,?_⟩⟩
    refine ⟨fun i env k=>0<k∧∃ (o:List Int) (x3:Vl),StarL (LgW lv e a) o∧o.length≤19+m*(1+19*lv)∧env=[.jar,.d (.tuple [.str "again",numW lv e a]),.own (o.map .int),x3,.jnk,.jnk],⟨hn,[],.jnk,.nil,Nat.zero_le _,rfl⟩,?_,?_⟩
    · rintro i x env k hx ⟨hk,o,x3,ho,hol,rfl⟩
      obtain ⟨hi,rfl⟩:=rng_at0 hx
      have keep:=hol
      refine ite_b (fun c1=>?_) (fun c1=>iteF ⟨hk,o,_,ho,keep,rfl⟩)
      refine ⟨hk,ite_b (fun c2=>⟨hk,?_⟩) (fun c2=>⟨hk,o,_,ho,keep,rfl⟩)⟩
      have c2:decide (0<(k:Int)-1)=true:=c2
      have c2:=of_decide_eq_true c2
      refine ⟨by omega,⟨_,.refl,_,rfl,U,m,e,a,rfl,hw,hm,by omega,Nat.succ_pos _,fun row n' hn' hrow hrl=>?_⟩⟩
      have c1:decide ((((o.map PyData.int).length:Nat):Int)<20)=true:=c1
      have c1:=of_decide_eq_true c1
      rw [List.length_map] at c1
      have l2:m*(1+19*lv)≤7*191:=Nat.mul_le_mul hm p3'
      refine ⟨by rw [List.length_map,List.length_map];omega,hn',o++row,_,ho.app (.one hrow),?_,by rw [List.map_append];rfl⟩
      rw [List.length_append]
      omega
    · rintro env k ⟨hk,o,x3,ho,hol,rfl⟩
      refine ⟨_,.fz 2 _ rfl .refl,q o k hk ho (Nat.le_trans hol ?_)⟩
      have e9:m*(1+19*(lv+1))=m*(1+19*lv)+m*19:=by rw [ps];exact Nat.mul_add _ _ _
      rw [e9]
      have:=hw.pos
      omega
  · rw [lg_row hs'] at q
    rw [num_row hs']
    refine ⟨rfl,_,rfl,fEq_f (rs_put hs') (iteF ⟨_,.refl,Nat.zero_le _,⟨[.jar,.d (.tuple [.str s,.tuple (numL (numW lv) (cntW lv) a ds)]),.own [],.jnk,.jnk,.jnk],.eq rfl,_,rfl,fEq_f (rs_again hs') (iteF ⟨_,.refl,_,rfl,⟨[.jar,.d (.tuple [.str s,.tuple (numL (numW lv) (cntW lv) a ds)]),.own [],.jnk,.d (.tuple (numL (numW lv) (cntW lv) a ds)),.jnk],.eq rfl,?_⟩⟩)⟩⟩)⟩
    have dl:=wd_len ha
    have okp:∀ i x,(numL (numW lv) (cntW lv) a ds)[i]? = some x→∃ d mm,ds[i]? = some d∧x=numW lv d (a+(((rdF lv s a (ds.take i)).gs.length:Nat):Int))∧Wd U lv mm d∧ms[i]? = some mm:=fun i x hx=>by
     obtain ⟨d,hd,e⟩:=numL_at lv s a hx
     obtain ⟨mm,hmm,hwx⟩:=all2_at ha hd
     exact ⟨d,mm,hd,e,hwx,hmm⟩
    rcases hs' with rfl | rfl
    · refine ⟨_,rfl,fEq_f w_row_either (iteF ⟨_,.refl,?_⟩)⟩
      refine ⟨fun i env k=>0<k∧∃ (o:List Int) (x5:Vl),LgF lv "row" a (ds.take i) o∧o.length≤(ms.take i).sum*(1+19*lv)∧env=[.jar,.d (.tuple [.str "row",.tuple (numL (numW lv) (cntW lv) a ds)]),.own (o.map .int),.jnk,.d (.tuple (numL (numW lv) (cntW lv) a ds)),x5],⟨hn,[],.jnk,?_,Nat.zero_le _,rfl⟩,?_,?_⟩
      · rw [List.take_zero,lgF_nil]
        unfold lg0
        rw [if_pos rfl]
      · rintro i x env k hx ⟨hk,o,x5,ho,hol,rfl⟩
        obtain ⟨d,mm,hd,rfl,hwx,hmm⟩:=okp i x hx
        have h1:=sum_take_at hmm
        have h2:=sum_takeH ms (i+1)
        refine ⟨U,mm,d,_,rfl,hwx,by omega,by omega,hk,fun row n' hn' hrow hrl=>?_⟩
        have l1:(ms.take i).sum*(1+19*lv)≤7*191:=Nat.mul_le_mul (by omega) p3'
        have l2:mm*(1+19*lv)≤7*191:=Nat.mul_le_mul (by omega) p3'
        refine ⟨by rw [List.length_map,List.length_map];omega,hn',o++row,_,?_,?_,by rw [List.map_append];rfl⟩
        · have et:ds.take (i+1)=ds.take i++[d]:=by rw [List.take_add_one,hd];rfl
          rw [et,lgF_snoc]
          unfold combL
          rw [if_pos rfl]
          exact ⟨o,row,rfl,ho,hrow⟩
        · rw [h1,List.length_append,Nat.add_mul]
          omega
      · rintro env k ⟨hk,o,x5,ho,hol,rfl⟩
        rw [numL_len,List.take_length] at ho
        have h2:=sum_takeH ms (numL (numW lv) (cntW lv) a ds).length
        refine ⟨_,.fz 2 _ rfl .refl,q o k hk ho (Nat.le_trans hol (Nat.mul_le_mul h2 ?_))⟩
        rw [ps];omega
    · have dpos:0<ds.length:=List.length_pos_iff.mpr hne
      refine ⟨_,rfl,fEq_t (iteT ?_)⟩
      refine ⟨(((numL (numW lv) (cntW lv) a ds).length:Nat):Int),rfl,by rw [numL_len];omega,?_,fun t t0 t1=>?_⟩
      · rw [numL_len]
        exact Int.lt_of_le_of_lt (show (ds.length:Int)≤7 by omega) (by decide +kernel)
      rw [numL_len] at t1
      have hi2:t.toNat<(numL (numW lv) (cntW lv) a ds).length:=by rw [numL_len];omega
      obtain ⟨d,mm,hd,hy,hwx,hmm⟩:=okp _ _ (List.getElem?_eq_getElem hi2)
      have h1:=sum_take_at hmm
      have h2:=sum_takeH ms (t.toNat+1)
      refine ⟨numW lv d (a+(((rdF lv "either" a (ds.take t.toNat)).gs.length:Nat):Int)),at_getD t0 (by rw [List.getElem?_eq_getElem hi2,hy]),small4 (Nat.le_of_ble_eq_true rfl),?_⟩
      refine ⟨[.jar,.d (.tuple [.str "either",.tuple (numL (numW lv) (cntW lv) a ds)]),.own [],.jnk,.d (.tuple [numW lv d (a+(((rdF lv "either" a (ds.take t.toNat)).gs.length:Nat):Int))]),.jnk],.eq rfl,?_⟩
      refine ⟨fun i env k=>0<k∧∃ (o:List Int) (x5:Vl),(i=0→o=[])∧(i=1→LgF lv "either" a ds o∧o.length≤mm*(1+19*lv))∧env=[.jar,.d (.tuple [.str "either",.tuple (numL (numW lv) (cntW lv) a ds)]),.own (o.map .int),.jnk,.d (.tuple [numW lv d (a+(((rdF lv "either" a (ds.take t.toNat)).gs.length:Nat):Int))]),x5],⟨hn,[],.jnk,fun _=>rfl,fun h=>(by cases h),rfl⟩,?_,?_⟩
      · rintro i x env k hx ⟨hk,o,x5,ho,_,rfl⟩
        obtain ⟨rfl,rfl⟩:i=0∧x=numW lv d (a+(((rdF lv "either" a (ds.take t.toNat)).gs.length:Nat):Int)):=by
         cases i with
         | zero=>exact ⟨rfl,(Option.some.inj hx).symm⟩
         | succ i=>simp at hx
        rw [ho rfl]
        refine ⟨U,mm,d,_,rfl,hwx,by omega,by omega,hk,fun row n' hn' hrow hrl=>?_⟩
        have l2:mm*(1+19*lv)≤7*191:=Nat.mul_le_mul (by omega) p3'
        exact ⟨by rw [List.length_map,List.length_map,List.length_nil];omega,hn',row,_,fun h=>(by cases h),fun _=>⟨lgF_either hd hrow,hrl⟩,rfl⟩
      · rintro env k ⟨hk,o,x5,_,ho,rfl⟩
        obtain ⟨h3,h4⟩:=ho rfl
        refine ⟨_,.fz 2 _ rfl .refl,q o k hk h3 (Nat.le_trans h4 (Nat.mul_le_mul (by omega) ?_))⟩
        rw [ps];omega
theorem sc_law_gone:FnScope ["jar","book","most","walk","room","turn","some"] ["jar","book","most"] (defScope s_law_gone):=⟨rfl,rfl,rfl,by decide +kernel,rfl,by decide +kernel,by decide +kernel⟩
theorem ok_law_gone (T:Txt mg) (D:Def K mg "_law_gone" s_law_gone ["jar","book","most"]) (c__law_pick:Cal P w K mg base "_law_pick" 2 ["jar","many"] (liftV gsPick)):Cal P w K mg base "_law_gone" 3 ["jar","book","most"] (liftV gsGoneW):=by
 refine D.cal fun f fd F=>F.ok sc_law_gone (lift_len ?_) (fun cdv A outer s H vs Q E hr h=>?_)
 · rintro as n P ⟨R,U,ws,rfl,_⟩
   rfl
 refine ⟨_,(@pss_cons _ _ _ _ _ (@ps_setD _ _ 3 _ _ _ _ sc_law_gone.nd rfl (Or.inl rfl) (pes_lst pas_nil) rfl (Or.inl rfl))
  (@pss_cons _ _ _ _ _ (ps_set (i:=4) sc_law_gone.nd rfl (Or.inr rfl) pe_int)
  (@pss_cons _ _ _ _ _ (ps_for PassesOwn.never rfl (pi_range1 rfl T.b_range (pa_call (pe_c c__law_pick (hr.mono (by decide)) rfl (pa_name (pv 0) (pa_name (pv 2) pa_nil))) pa_nil)) (pg_name (i:=5) sc_law_gone.nd rfl (Or.inl rfl) (Or.inl rfl))
  (@pss_cons _ _ _ _ _ (ps_setcomp (i:=6) (sc:=(defScope s_law_gone)) (N:=["jar","book","most","walk","room","turn","some"]) (N':=["k","way","room"]) (k:=2) (idx:=[4]) rfl sc_law_gone.nd rfl rfl (by exact ⟨rfl,by decide +kernel,by decide +kernel,by decide +kernel,by decide +kernel,by decide +kernel,rfl,rfl⟩) rfl rfl (pi_enum rfl T.b_enumerate (pa_sub (pe_ix ix_tup (pv 1) pe_int (fun _ _=>rfl)) pa_nil)) (fun _ _ _ _=>(pg_pair (K':=K) (i:=0) (j:=1) rfl (show (["k","way","room"]:List Str).Nodup by decide +kernel) ⟨rfl,(Or.inl rfl),(Or.inr rfl)⟩ ⟨rfl,(Or.inl rfl),(Or.inr rfl)⟩ rfl)) (fun _ _ _ _=>pts_one (pt_cmpR op_eq (pe_ix (ix_tupK (K':=K) rfl) (pv 1) pe_int (fun _ _=>rfl)) (pv 2) (nomark _))) (fun _ _ _ _=>(pv 0)))
  (@pss_one _ _ _ (ps_if (pt_cmpR (op_neD hr.units) (pv 6) (@PEs.out _ _ _ (pes_lst pas_nil)) (nomark _)) (@pss_cons _ _ _ _ _ (ps_expr (pe_bm PySem.F.plainAttrs_list PySem.F.slot_list_append PySem.F.type_list_append mt_append (pv 3) (pa_sub (pe_ix ix_list (pv 6) (pe_c c__law_pick (hr.mono (by decide)) rfl (pa_name (pv 0) (pa_call (pe_callB call_len_seq rfl T.b_len PySem.boot_len (pa_name (pv 6) pa_nil)) pa_nil))) (fun _ _=>rfl)) pa_nil)))
  (@pss_one _ _ _ (ps_set (i:=4) sc_law_gone.nd rfl (Or.inr rfl) (pe_ix ix_tup (pe_ix ix_tup (pe_ix ix_tup (pv 1) pe_int (fun _ _=>rfl)) (pe_ix ix_list (pv 3) (pe_un un_neg pe_int) (fun _ _=>rfl)) (fun _ _=>rfl)) pe_int (fun _ _=>rfl))))) pss_nil))))
  (@pss_one _ _ _ (@ps_ret _ _ _ _ (pv 3)))))),lift_body h ?_⟩
 rintro as n P ⟨R,U,ws,rfl,hw,q⟩
 have hs:sizeLine=16777216:=sizeLine_eq
 refine ⟨rfl,Nat.zero_le _,[.jar,.d (bookPD R U ws),.d (.int 30),.own [],.jnk,.jnk,.jnk],.eq rfl,?_⟩
 refine ⟨[.jar,.d (bookPD R U ws),.d (.int 30),.own [],.d (.int 0),.jnk,.jnk],.eq rfl,30,rfl,by decide,by decide +kernel,fun t t0 t1=>⟨t,rfl,⟨by omega,by omega⟩,?_⟩⟩
 refine ⟨fun i env k=>k=n∧∃ (walk:List Int) (room:Int) (x5 x6:Vl),Pth ws 0 walk room∧walk.length≤i∧env=[.jar,.d (bookPD R U ws),.d (.int 30),.own (walk.map .int),.d (.int room),x5,x6],⟨rfl,[],0,.jnk,.jnk,rfl,Nat.le_refl _,rfl⟩,?_,?_⟩
 rotate_left
 · rintro env k ⟨rfl,walk,room,x5,x6,hp,hl,rfl⟩
   rw [rngD_len] at hl
   exact ⟨_,.fz 3 _ rfl .refl,q walk room (by omega) hp⟩
 rintro i x env k hx ⟨rfl,walk,room,x5,x6,hp,hl,rfl⟩
 obtain ⟨hi,rfl⟩:=rng_at0 hx
 refine ⟨_,rfl,_,ws.map wayPD,rfl,rfl,?_⟩
 rw [enumD_ways]
 refine ⟨⟨rfl,by rw [List.length_map,List.length_range];omega⟩,cmpW_fm (h:=fun (i:Nat)=>.int ((i:Nat):Int)) (p:=fun i=>decide ((wayAt ws ((i:Nat):Int)).a=room)) (fun j hj K k1 k2=>?_) ?_⟩
 · refine ⟨rfl,rfl,_,rfl,?_⟩
   refine ite_b (fun c=>k1 ?_) (fun c=>k2 ?_)
   · exact c
   · exact c
 have el:((List.range ws.length).filter fun i=>decide ((wayAt ws ((i:Nat):Int)).a=room)).map (fun (i:Nat)=>PyData.int ((i:Nat):Int))=(fromN ws room).map .int:=by
  unfold fromN
  rw [List.map_map]
  rfl
 rw [el]
 have fl:(fromN ws room).length≤60:=by
  unfold fromN
  rw [List.length_map]
  exact Nat.le_trans (List.length_filter_le _ _) (by rw [List.length_range];exact hw)
 refine ⟨[.jar,.d (bookPD R U ws),.d (.int 30),.own (walk.map .int),.d (.int room),.d (.int (i:Int)),.d (.list ((fromN ws room).map .int))],.fz 6 _ rfl .refl,?_⟩
 refine ⟨Nat.zero_le _,neNil (ns:=fromN ws room) (fun hG=>iteT ?_) (fun hG=>iteF ⟨rfl,walk,room,_,_,hp,Nat.le_succ_of_le hl,rfl⟩)⟩
 have fp:0<(fromN ws room).length:=List.length_pos_iff.mpr hG
 refine ⟨((((fromN ws room).map PyData.int).length:Nat):Int),rfl,by rw [List.length_map];omega,?_,fun u u0 u1=>?_⟩
 · rw [List.length_map]
   exact Int.lt_of_le_of_lt (show ((fromN ws room).length:Int)≤60 by omega) (by decide +kernel)
 rw [List.length_map] at u1
 have hu:u.toNat<(fromN ws room).length:=by omega
 obtain ⟨m1,m2⟩:=fromN_mem (List.getElem_mem hu)
 generalize hkk:(fromN ws room)[u.toNat]=kk at m1 m2
 refine ⟨.int kk,at_getD u0 (by rw [List.getElem?_map,List.getElem?_eq_getElem hu,hkk];rfl),by rw [List.length_map];omega,?_⟩
 have e1:walk.map PyData.int++[.int kk]=(walk++[kk]).map .int:=by rw [List.map_append];rfl
 refine ⟨[.jar,.d (bookPD R U ws),.d (.int 30),.own ((walk++[kk]).map .int),.d (.int room),.d (.int (i:Int)),.d (.list ((fromN ws room).map .int))],.eq (by rw [← e1];rfl),?_⟩
 refine ⟨_,rfl,.int kk,by rw [List.map_append];exact at_snoc _ _,wayPD (wayAt ws kk),at_getD m1.1 ?_,_,rfl,rfl,walk++[kk],(wayAt ws kk).b,_,_,pth_snoc hp m1 m2,by rw [List.length_append,List.length_singleton];omega,rfl⟩
 rw [List.getElem?_map]
 unfold wayAt
 rw [List.getD_eq_getElem?_getD,List.getElem?_eq_getElem (show kk.toNat<ws.length by omega)]
 rfl
theorem sc_is_whole:FnScope ["thing"] ["thing"] (defScope s_is_whole):=⟨rfl,rfl,rfl,by decide +kernel,rfl,by decide +kernel,by decide +kernel⟩
theorem ok_is_whole (T:Txt mg) (D:Def K mg "is_whole" s_is_whole ["thing"]):Cal P w K mg base "is_whole" 1 ["thing"] (liftV gsWhole):=by
 refine D.cal fun f fd F=>F.ok sc_is_whole (lift_len ?_) (fun cdv A outer s H vs Q E hr h=>?_)
 · rintro as n P ⟨x,rfl,_⟩
   rfl
 refine ⟨_,(@pss_one _ _ _ (@ps_ret _ _ _ _ (pe_and (pe_callB call_isD rfl T.b_isinstance boot_isinstance (pa_name (pv 0) (pa_name (pe_bltn rfl T.b_int boot_int (v:=.ty "int") rfl) pa_nil))) (pe_one (pe_not (pe_callB call_isD rfl T.b_isinstance boot_isinstance (pa_name (pv 0) (pa_name (pe_bltn rfl T.b_bool boot_bool (v:=.ty "bool") rfl) pa_nil)))))))),lift_body h ?_⟩
 rintro as n P ⟨x,rfl,q⟩
 exact ⟨rfl,rfl,rfl,q⟩
theorem sc_is_between:FnScope ["thing","least","most"] ["thing","least","most"] (defScope s_is_between):=⟨rfl,rfl,rfl,by decide +kernel,rfl,by decide +kernel,by decide +kernel⟩
theorem ok_is_between (T:Txt mg) (D:Def K mg "is_between" s_is_between ["thing","least","most"]) (c_is_whole:Cal P w K mg base "is_whole" 1 ["thing"] (liftV gsWhole)):Cal P w K mg base "is_between" 2 ["thing","least","most"] (liftV gsBetween):=by
 refine D.cal fun f fd F=>F.ok sc_is_between (lift_len ?_) (fun cdv A outer s H vs Q E hr h=>?_)
 · rintro as n P ⟨x,a,b,rfl,_⟩
   rfl
 refine ⟨_,(@pss_one _ _ _ (@ps_ret _ _ _ _ (pe_and (pe_c c_is_whole (hr.mono (by decide)) rfl (pa_name (pv 0) pa_nil)) (pe_one (pe_chain op_le op_le (pv 1) (pv 0) (pv 2)))))),lift_body h ?_⟩
 rintro as n P ⟨x,a,b,rfl,q⟩
 refine ⟨rfl,x,rfl,?_⟩
 by_cases h:a≤x
 · rw [decide_eq_true h] at q
   show match PyData.bool (decide (a≤x)) with | .bool true=>_ | .bool false=>_ | _=>_
   rw [decide_eq_true h]
   exact q
 · rw [decide_eq_false h] at q
   show match PyData.bool (decide (a≤x)) with | .bool true=>_ | .bool false=>_ | _=>_
   rw [decide_eq_false h]
   exact q
theorem sc_is_tuple_of:FnScope ["thing","many"] ["thing","many"] (defScope s_is_tuple_of):=⟨rfl,rfl,rfl,by decide +kernel,rfl,by decide +kernel,by decide +kernel⟩
theorem ok_is_tuple_of (T:Txt mg) (D:Def K mg "is_tuple_of" s_is_tuple_of ["thing","many"]):Cal P w K mg base "is_tuple_of" 1 ["thing","many"] (liftV gsTup1):=by
 refine D.cal fun f fd F=>F.ok sc_is_tuple_of (lift_len ?_) (fun cdv A outer s H vs Q E hr h=>?_)
 · rintro as n P ⟨xs,m,rfl,_⟩
   rfl
 refine ⟨_,(@pss_one _ _ _ (@ps_ret _ _ _ _ (pe_and (pe_callB call_isD rfl T.b_isinstance boot_isinstance (pa_name (pv 0) (pa_name (pe_bltn rfl T.b_tuple boot_tuple (v:=.ty "tuple") rfl) pa_nil))) (pe_one (pe_cmpR op_eq (pe_callB call_len_seq rfl T.b_len PySem.boot_len (pa_name (pv 0) pa_nil)) (pv 1) (nomark _)))))),lift_body h ?_⟩
 rintro as n P ⟨xs,m,rfl,q⟩
 exact ⟨rfl,rfl,ite_t (show instD (PyData.tuple xs) "tuple" = true from rfl) (fEq_i q)⟩
theorem sc_are_gains:FnScope ["thing","purses"] ["thing","purses"] (defScope s_are_gains):=⟨rfl,rfl,rfl,by decide +kernel,rfl,by decide +kernel,by decide +kernel⟩
theorem ok_are_gains (T:Txt mg) (D:Def K mg "are_gains" s_are_gains ["thing","purses"]) (c_is_tuple_of:Cal P w K mg base "is_tuple_of" 1 ["thing","many"] (liftV gsTup1)) (c_is_between:Cal P w K mg base "is_between" 2 ["thing","least","most"] (liftV gsBetween)):Cal P w K mg base "are_gains" 3 ["thing","purses"] (liftV gsGains1):=by
 refine D.cal fun f fd F=>F.ok sc_are_gains (lift_len ?_) (fun cdv A outer s H vs Q E hr h=>?_)
 · rintro as n P ⟨gs,U,rfl,_⟩
   rfl
 refine ⟨_,(@pss_one _ _ _ (@ps_ret _ _ _ _ (pe_and (pe_c c_is_tuple_of (hr.mono (by decide)) rfl (pa_name (pv 0) (pa_name (pv 1) pa_nil))) (pe_one (pe_callB call_all rfl T.b_all boot_all (pa_comp (pe_comp (sc:=(defScope s_are_gains)) (N:=["thing","purses"]) (N':=["part"]) (k:=1) (idx:=[]) rfl (by exact ⟨rfl,by decide +kernel,by decide +kernel,by decide +kernel,by decide +kernel,by decide +kernel,rfl,rfl⟩) rfl rfl (pi_tup (pv 0)) (fun _ _ _ _=>(pg_name (i:=0) (show (["part"]:List Str).Nodup by decide +kernel) rfl (Or.inl rfl) (Or.inr rfl))) (fun _ _ _ _=>pts_nil) (fun _ _ _ _=>(pe_c c_is_between (hr.mono (by decide)) rfl (pa_name (pv 0) (pa_unary (pe_un un_neg (pe_gint T.g_MOST_GAIN rfl)) (pa_name (pe_gint T.g_MOST_GAIN rfl) pa_nil)))))) pa_nil)))))),lift_body h ?_⟩
 rintro as n P ⟨gs,U,rfl,hl,hU,hg,q⟩
 have hs:sizeLine=16777216:=sizeLine_eq
 refine ⟨rfl,gs.map .int,U,rfl,?_⟩
 rw [decide_eq_true (by rw [List.length_map];exact hl)]
 refine ⟨⟨rfl,by rw [List.length_map];omega⟩,?_⟩
 refine cmpW_mapG (f:=.int) (fun _=>.bool true) (fun x hx n K hk=>iteT ⟨x,-99,99,rfl,?_⟩) ?_
 · rw [betw_b (hg x hx).1 (hg x hx).2]
   exact hk
 refine ⟨gs.map fun _=>true,by rw [List.map_map];rfl,rfl,?_⟩
 rw [all_true]
 exact q
theorem sc_is_way:FnScope ["thing","rooms","purses","a","b","gains"] ["thing","rooms","purses"] (defScope s_is_way):=⟨rfl,rfl,rfl,by decide +kernel,rfl,by decide +kernel,by decide +kernel⟩
theorem ok_is_way (T:Txt mg) (D:Def K mg "is_way" s_is_way ["thing","rooms","purses"]) (c_is_tuple_of:Cal P w K mg base "is_tuple_of" 1 ["thing","many"] (liftV gsTup1)) (c_is_between:Cal P w K mg base "is_between" 2 ["thing","least","most"] (liftV gsBetween)) (c_are_gains:Cal P w K mg base "are_gains" 3 ["thing","purses"] (liftV gsGains1)):Cal P w K mg base "is_way" 4 ["thing","rooms","purses"] (liftV gsIsWay1):=by
 refine D.cal fun f fd F=>F.ok sc_is_way (lift_len ?_) (fun cdv A outer s H vs Q E hr h=>?_)
 · rintro as n P ⟨R,U,wy,rfl,_⟩
   rfl
 refine ⟨_,(@pss_cons _ _ _ _ _ (ps_if (pt_not (pt_val (pe_c c_is_tuple_of (hr.mono (by decide)) rfl (pa_name (pv 0) (pa_const pe_int pa_nil))))) (@pss_one _ _ _ (@ps_ret _ _ _ _ pe_bl)) pss_nil)
  (@pss_cons _ _ _ _ _ (ps_asg (pv 0) (pg_trio (K':=K) (i:=3) (j:=4) (m:=5) rfl sc_is_way.nd ⟨rfl,(Or.inl rfl),(Or.inl rfl)⟩ ⟨rfl,(Or.inl rfl),(Or.inl rfl)⟩ ⟨rfl,(Or.inl rfl),(Or.inl rfl)⟩ rfl))
  (@pss_one _ _ _ (@ps_ret _ _ _ _ (pe_and (pe_c c_is_between (hr.mono (by decide)) rfl (pa_name (pv 3) (pa_const pe_int (pa_binop (pe_op op_sub (pv 1) pe_int) pa_nil)))) (pe_and (pe_c c_is_between (hr.mono (by decide)) rfl (pa_name (pv 4) (pa_const pe_int (pa_binop (pe_op op_sub (pv 1) pe_int) pa_nil)))) (pe_one (pe_c c_are_gains (hr.mono (by decide)) rfl (pa_name (pv 5) (pa_name (pv 2) pa_nil)))))))))),lift_body h ?_⟩
 rintro as n P ⟨R,U,wy,rfl,ok,hU,q⟩
 refine ⟨rfl,[.int wy.a,.int wy.b,.tuple (wy.g.map .int)],3,rfl,iteF ⟨_,.refl,rfl,rfl,⟨[.d (wayPD wy),.d (.int R),.d (.int U),.d (.int wy.a),.d (.int wy.b),.d (.tuple (wy.g.map .int))],.eq rfl,?_⟩⟩⟩
 refine ⟨wy.a,0,R-1,rfl,?_⟩
 rw [betw_b ok.a0 (by have:=ok.a1;omega)]
 refine ⟨wy.b,0,R-1,rfl,?_⟩
 rw [betw_b ok.b0 (by have:=ok.b1;omega)]
 exact ⟨wy.g,U,rfl,ok.len,hU,ok.small,q⟩
theorem sc_is_book:FnScope ["thing","rooms","purses","ways"] ["thing"] (defScope s_is_book):=⟨rfl,rfl,rfl,by decide +kernel,rfl,by decide +kernel,by decide +kernel⟩
theorem ok_is_book (T:Txt mg) (D:Def K mg "is_book" s_is_book ["thing"]) (c_is_tuple_of:Cal P w K mg base "is_tuple_of" 1 ["thing","many"] (liftV gsTup1)) (c_is_between:Cal P w K mg base "is_between" 2 ["thing","least","most"] (liftV gsBetween)) (c_is_way:Cal P w K mg base "is_way" 4 ["thing","rooms","purses"] (liftV gsIsWay1)):Cal P w K mg base "is_book" 5 ["thing"] (liftV gsIsBook1):=by
 refine D.cal fun f fd F=>F.ok sc_is_book (lift_len ?_) (fun cdv A outer s H vs Q E hr h=>?_)
 · rintro as n P ⟨R,U,ws,rfl,_⟩
   rfl
 refine ⟨_,(@pss_cons _ _ _ _ _ (ps_if (pt_not (pt_val (pe_c c_is_tuple_of (hr.mono (by decide)) rfl (pa_name (pv 0) (pa_const pe_int pa_nil))))) (@pss_one _ _ _ (@ps_ret _ _ _ _ pe_bl)) pss_nil)
  (@pss_cons _ _ _ _ _ (ps_asg (pv 0) (pg_trio (K':=K) (i:=1) (j:=2) (m:=3) rfl sc_is_book.nd ⟨rfl,(Or.inr rfl),(Or.inl rfl)⟩ ⟨rfl,(Or.inr rfl),(Or.inl rfl)⟩ ⟨rfl,(Or.inl rfl),(Or.inl rfl)⟩ rfl))
  (@pss_cons _ _ _ _ _ (ps_if (PW.pt (pw_or (pt_not (pt_val (pe_c c_is_between (hr.mono (by decide)) rfl (pa_name (pv 1) (pa_const pe_int (pa_name (pe_gint T.g_MOST_ROOMS rfl) pa_nil)))))) (pw_or1 (pt_not (pt_val (pe_c c_is_between (hr.mono (by decide)) rfl (pa_name (pv 2) (pa_const pe_int (pa_name (pe_gint T.g_MOST_PURSES rfl) pa_nil))))))))) (@pss_one _ _ _ (@ps_ret _ _ _ _ pe_bl)) pss_nil)
  (@pss_cons _ _ _ _ _ (ps_if (PW.pt (pw_or (pt_not (pt_val (pe_callB call_isD rfl T.b_isinstance boot_isinstance (pa_name (pv 3) (pa_name (pe_bltn rfl T.b_tuple boot_tuple (v:=.ty "tuple") rfl) pa_nil))))) (pw_or1 (pt_cmpR op_gt (pe_callB call_len_seq rfl T.b_len PySem.boot_len (pa_name (pv 3) pa_nil)) (pe_gint T.g_MOST_WAYS rfl) (nomark _))))) (@pss_one _ _ _ (@ps_ret _ _ _ _ pe_bl)) pss_nil)
  (@pss_one _ _ _ (@ps_ret _ _ _ _ (pe_callB call_all rfl T.b_all boot_all (pa_comp (pe_comp (sc:=(defScope s_is_book)) (N:=["thing","rooms","purses","ways"]) (N':=["way","rooms","purses"]) (k:=1) (idx:=[1,2]) rfl (by exact ⟨rfl,by decide +kernel,by decide +kernel,by decide +kernel,by decide +kernel,by decide +kernel,rfl,rfl⟩) rfl rfl (pi_tup (pv 3)) (fun _ _ _ _=>(pg_name (i:=0) (show (["way","rooms","purses"]:List Str).Nodup by decide +kernel) rfl (Or.inl rfl) (Or.inr rfl))) (fun _ _ _ _=>pts_nil) (fun _ _ _ _=>(pe_c c_is_way (hr.mono (by decide)) rfl (pa_name (pv 0) (pa_name (pv 1) (pa_name (pv 2) pa_nil)))))) pa_nil)))))))),lift_body h ?_⟩
 rintro as n P ⟨R,U,ws,rfl,ok,q⟩
 have hs:sizeLine=16777216:=sizeLine_eq
 have wz:=ok.len
 refine ⟨rfl,[.int R,.int U,.tuple (ws.map wayPD)],3,rfl,iteF ⟨_,.refl,rfl,rfl,⟨[.d (bookPD R U ws),.d (.int R),.d (.int U),.d (.tuple (ws.map wayPD))],.eq rfl,?_⟩⟩⟩
 refine ⟨R,1,12,rfl,?_⟩
 rw [betw_b ok.r0 ok.r1]
 refine ⟨U,1,6,rfl,?_⟩
 rw [betw_b ok.p0 ok.p1]
 refine iteF ⟨_,.refl,?_⟩
 refine ⟨rfl,ite_f (show (!instD (PyData.tuple (ws.map wayPD)) "tuple")=false from rfl) (ite_f (decide_eq_false (by rw [List.length_map];omega)) ⟨_,.refl,⟨rfl,by rw [List.length_map];omega⟩,?_⟩)⟩
 refine cmpW_mapG (f:=wayPD) (fun _=>.bool true) (fun wy hy n K hk=>iteT ⟨R,U,wy,rfl,ok.ways wy hy,by have:=ok.p1;omega,hk⟩) ?_
 refine ⟨ws.map fun _=>true,by rw [List.map_map];rfl,rfl,?_⟩
 rw [all_true]
 exact q
theorem sc_has_way:FnScope ["book","k"] ["book","k"] (defScope s_has_way):=⟨rfl,rfl,rfl,by decide +kernel,rfl,by decide +kernel,by decide +kernel⟩
theorem ok_has_way (T:Txt mg) (D:Def K mg "has_way" s_has_way ["book","k"]) (c_is_between:Cal P w K mg base "is_between" 2 ["thing","least","most"] (liftV gsBetween)):Cal P w K mg base "has_way" 3 ["book","k"] (liftV gsHasWay):=by
 refine D.cal fun f fd F=>F.ok sc_has_way (lift_len ?_) (fun cdv A outer s H vs Q E hr h=>?_)
 · rintro as n P ⟨R,U,ws,k,rfl,_⟩
   rfl
 refine ⟨_,(@pss_one _ _ _ (@ps_ret _ _ _ _ (pe_c c_is_between (hr.mono (by decide)) rfl (pa_name (pv 1) (pa_const pe_int (pa_binop (pe_op op_sub (pe_callB call_len_seq rfl T.b_len PySem.boot_len (pa_sub (pe_ix ix_tup (pv 0) pe_int (fun _ _=>rfl)) pa_nil)) pe_int) pa_nil)))))),lift_body h ?_⟩
 rintro as n P ⟨R,U,ws,k,rfl,hk,q⟩
 refine ⟨rfl,_,rfl,k,0,_,rfl,?_⟩
 rw [betw_b hk.1 (by rw [List.length_map];omega)]
 exact q
theorem sc_is_walk:FnScope ["book","some","ways"] ["book","some"] (defScope s_is_walk):=⟨rfl,rfl,rfl,by decide +kernel,rfl,by decide +kernel,by decide +kernel⟩
theorem ok_is_walk (T:Txt mg) (D:Def K mg "is_walk" s_is_walk ["book","some"]) (c_has_way:Cal P w K mg base "has_way" 3 ["book","k"] (liftV gsHasWay)):Cal P w K mg base "is_walk" 4 ["book","some"] (liftV gsIsWalk1):=by
 refine D.cal fun f fd F=>F.ok sc_is_walk (lift_len ?_) (fun cdv A outer s H vs Q E hr h=>?_)
 · rintro as n P ⟨R,U,ws,ks,f,rfl,_⟩
   rfl
 refine ⟨_,(@pss_cons _ _ _ _ _ (ps_if (PW.pt (pw_or (pt_not (pt_val (pe_callB call_isD rfl T.b_isinstance boot_isinstance (pa_name (pv 1) (pa_name (pe_bltn rfl T.b_list boot_list (v:=.ty "list") rfl) pa_nil))))) (pw_or1 (pt_cmpR op_eq (pe_callB call_len_seq rfl T.b_len PySem.boot_len (pa_name (pv 1) pa_nil)) pe_int (nomark _))))) (@pss_one _ _ _ (@ps_ret _ _ _ _ pe_bl)) pss_nil)
  (@pss_cons _ _ _ _ _ (ps_if (pt_not (pt_val (pe_callB call_all rfl T.b_all boot_all (pa_comp (pe_comp (sc:=(defScope s_is_walk)) (N:=["book","some","ways"]) (N':=["k","book"]) (k:=1) (idx:=[0]) rfl (by exact ⟨rfl,by decide +kernel,by decide +kernel,by decide +kernel,by decide +kernel,by decide +kernel,rfl,rfl⟩) rfl rfl (pi_list (pv 1)) (fun _ _ _ _=>(pg_name (i:=0) (show (["k","book"]:List Str).Nodup by decide +kernel) rfl (Or.inl rfl) (Or.inr rfl))) (fun _ _ _ _=>pts_nil) (fun _ _ _ _=>(pe_c c_has_way (hr.mono (by decide)) rfl (pa_name (pv 1) (pa_name (pv 0) pa_nil))))) pa_nil)))) (@pss_one _ _ _ (@ps_ret _ _ _ _ pe_bl)) pss_nil)
  (@pss_cons _ _ _ _ _ (ps_set (i:=2) sc_is_walk.nd rfl (Or.inr rfl) (pe_ix ix_tup (pv 0) pe_int (fun _ _=>rfl)))
  (@pss_one _ _ _ (@ps_ret _ _ _ _ (pe_callB call_all rfl T.b_all boot_all (pa_comp (pe_comp (sc:=(defScope s_is_walk)) (N:=["book","some","ways"]) (N':=["ahead","k","ways"]) (k:=2) (idx:=[2]) rfl (by exact ⟨rfl,by decide +kernel,by decide +kernel,by decide +kernel,by decide +kernel,by decide +kernel,rfl,rfl⟩) rfl rfl (pi_zip rfl T.b_zip (pa_name (pv 1) (pa_sub (pe_slice sl_list (pv 1) (po_some pe_int) po_none) pa_nil))) (fun _ _ _ _=>(pg_pair (K':=K) (i:=0) (j:=1) rfl (show (["ahead","k","ways"]:List Str).Nodup by decide +kernel) ⟨rfl,(Or.inl rfl),(Or.inr rfl)⟩ ⟨rfl,(Or.inl rfl),(Or.inr rfl)⟩ rfl)) (fun _ _ _ _=>pts_nil) (fun _ _ _ _=>(pe_cmpR op_eq (pe_ix (ix_tupK (K':=K) rfl) (pe_ix (ix_tupK (K':=K) rfl) (pv 2) (pv 0) (fun _ _=>rfl)) pe_int (fun _ _=>rfl)) (pe_ix (ix_tupK (K':=K) rfl) (pe_ix (ix_tupK (K':=K) rfl) (pv 2) (pv 1) (fun _ _=>rfl)) pe_int (fun _ _=>rfl)) (nomark _)))) pa_nil))))))),lift_body h ?_⟩
 rintro as n P ⟨R,U,ws,ks,f,rfl,ok,wk,hl,q⟩
 have hs:sizeLine=16777216:=sizeLine_eq
 have wz:=ok.len
 have hne:0<ks.length:=List.length_pos_iff.mpr wk.ne
 refine ⟨rfl,?_⟩
 refine ⟨rfl,ite_f (show (!instD (walkD ks) "list")=false from rfl) (fEq_i (ite_f (decide_eq_false (by rw [List.length_map];omega)) ⟨_,.refl,⟨rfl,by rw [List.length_map];omega⟩,?_⟩))⟩
 refine cmpW_map (fun _=>.bool true) (fun x hx n K hk=>?_) ?_
 · obtain ⟨k,hkm,rfl⟩:=List.mem_map.mp hx
   exact iteT ⟨R,U,ws,k,rfl,wk.inW k hkm,hk⟩
 refine ⟨(ks.map PyData.int).map fun _=>true,by rw [List.map_map,List.map_map,List.map_map];rfl,rfl,?_⟩
 rw [all_true]
 refine iteF ⟨_,.refl,_,rfl,⟨_,.refl,?_⟩⟩
 refine ⟨_,_,_,_,rfl,rfl,rfl,⟨rfl,by rw [zipD_len,List.length_map];omega⟩,?_⟩
 refine cmpW_map (fun _=>.bool true) (fun x hx n K hk=>?_) ?_
 · rw [cut1] at hx
   obtain ⟨a,b,rfl,ha,hb,e⟩:=walk_zip wk.inW wk.ld x hx
   refine ⟨rfl,rfl,iteT ⟨_,at_way ha.1 ha.2,_,rfl,_,at_way hb.1 hb.2,_,rfl,fEq_i ?_⟩⟩
   rw [decide_eq_true e]
   exact hk
 · refine ⟨(zipD (ks.map PyData.int) (cutD (ks.map PyData.int) (some 1) none)).map fun _=>true,by rw [List.map_map];rfl,rfl,?_⟩
   rw [all_true]
   exact q
theorem sc_ends_of:FnScope ["book","walk","ways"] ["book","walk"] (defScope s_ends_of):=⟨rfl,rfl,rfl,by decide +kernel,rfl,by decide +kernel,by decide +kernel⟩
theorem ok_ends_of (T:Txt mg) (D:Def K mg "ends_of" s_ends_of ["book","walk"]):Cal P w K mg base "ends_of" 1 ["book","walk"] (liftV gsEndsW):=by
 refine D.cal fun f fd F=>F.ok sc_ends_of (lift_len ?_) (fun cdv A outer s H vs Q E hr h=>?_)
 · rintro as n P ⟨R,U,ws,ks,f,rfl,_⟩
   rfl
 refine ⟨_,(@pss_cons _ _ _ _ _ (ps_set (i:=2) sc_ends_of.nd rfl (Or.inl rfl) (pe_ix ix_tup (pv 0) pe_int (fun _ _=>rfl)))
  (@pss_one _ _ _ (@ps_ret _ _ _ _ (@PEs.out _ _ _ (pes_tup (pas_sub (pes_of (pe_ix ix_tup (pe_ix ix_tup (pv 2) (pe_ix ix_list (pv 1) pe_int (fun _ _=>rfl)) (fun _ _=>rfl)) pe_int (fun _ _=>rfl))) (pas_sub (pes_of (pe_ix ix_tup (pe_ix ix_tup (pv 2) (pe_ix ix_list (pv 1) (pe_un un_neg pe_int) (fun _ _=>rfl)) (fun _ _=>rfl)) pe_int (fun _ _=>rfl))) pas_nil))))))),lift_body h ?_⟩
 rintro as n P ⟨R,U,ws,ks,f,rfl,ok,wk,q⟩
 obtain ⟨k,l,hk,hl,ik,il,ea,eb⟩:=wk.ends
 refine ⟨rfl,_,rfl,⟨_,.refl,_,hk,_,at_way ik.1 ik.2,_,rfl,_,hl,_,at_way il.1 il.2,_,rfl,two_line,?_⟩⟩
 unfold endsT at q
 rw [← ea,← eb] at q
 exact q
theorem sc_is_made_as_word:FnScope ["thing","purses","word","inner"] ["thing","purses"] (defScope s_is_made_as_word):=⟨rfl,rfl,rfl,by decide +kernel,rfl,by decide +kernel,by decide +kernel⟩
theorem ok_is_made_as_word (T:Txt mg) (D:Def K mg "is_made_as_word" s_is_made_as_word ["thing","purses"]) (c_is_tuple_of:Cal P w K mg base "is_tuple_of" 1 ["thing","many"] (liftV gsTup1)) (c_are_gains:Cal P w K mg base "are_gains" 3 ["thing","purses"] (liftV gsGains1)):Cal P w K mg base "is_made_as_word" 4 ["thing","purses"] (liftV gsMadeW):=by
 refine D.cal fun f fd F=>F.ok sc_is_made_as_word (lift_len ?_) (fun cdv A outer s H vs Q E hr h=>?_)
 · rintro as n P ⟨U,f,m,d,rfl,_⟩
   rfl
 refine ⟨_,(@pss_cons _ _ _ _ _ (ps_if (pt_not (pt_val (pe_c c_is_tuple_of (hr.mono (by decide)) rfl (pa_name (pv 0) (pa_const pe_int pa_nil))))) (@pss_one _ _ _ (@ps_ret _ _ _ _ pe_bl)) pss_nil)
  (@pss_cons _ _ _ _ _ (ps_asg (pv 0) (pg_pair (K':=K) (i:=2) (j:=3) rfl sc_is_made_as_word.nd ⟨rfl,(Or.inl rfl),(Or.inl rfl)⟩ ⟨rfl,(Or.inl rfl),(Or.inl rfl)⟩ rfl))
  (@pss_cons _ _ _ _ _ (ps_if (pt_cmpR op_eq (pv 2) pe_str (nomark _)) (@pss_one _ _ _ (@ps_ret _ _ _ _ (pe_c c_are_gains (hr.mono (by decide)) rfl (pa_name (pv 3) (pa_name (pv 1) pa_nil))))) pss_nil)
  (@pss_cons _ _ _ _ _ (ps_if (pt_cmpR op_eq (pv 2) pe_str (nomark _)) (@pss_one _ _ _ (@ps_ret _ _ _ _ pe_bl)) pss_nil)
  (@pss_one _ _ _ (@ps_ret _ _ _ _ (pe_and (pe_cmpR op_in_seq (pv 2) (@PEs.out _ _ _ (pes_tup (pas_const pes_str (pas_const pes_str pas_nil)))) (by with_unfolding_all rfl)) (pe_and (pe_callB call_isD rfl T.b_isinstance boot_isinstance (pa_name (pv 3) (pa_name (pe_bltn rfl T.b_tuple boot_tuple (v:=.ty "tuple") rfl) pa_nil))) (pe_one (pe_cmpR op_gt (pe_callB call_len_seq rfl T.b_len PySem.boot_len (pa_name (pv 3) pa_nil)) pe_int (nomark _))))))))))),lift_body h ?_⟩
 rintro as n P ⟨U,f,m,d,rfl,hw,hU,q⟩
 cases f with
 | zero=>exact hw.elim
 | succ f=>
  rcases hw with ⟨gs,rfl,hl,hg,rfl⟩ | ⟨e,rfl,hw⟩ | ⟨s,ms,ds,hs',rfl,hne,ha,rfl⟩
  · refine ⟨rfl,[.str "put",gD gs],2,rfl,iteF ⟨_,.refl,rfl,rfl,⟨[.d (putW gs),.d (.int U),.d (.str "put"),.d (gD gs)],.eq rfl,fEq_t (iteT ⟨gs,U,rfl,hl,hU,hg,q⟩)⟩⟩⟩
  · refine ⟨rfl,[.str "again",e],2,rfl,iteF ⟨_,.refl,rfl,rfl,⟨[.d (againW e),.d (.int U),.d (.str "again"),.d e],.eq rfl,fEq_f w_again_put (iteF ⟨_,.refl,fEq_t (iteT q)⟩)⟩⟩⟩
  · refine ⟨rfl,[.str s,.tuple ds],2,rfl,iteF ⟨_,.refl,rfl,rfl,⟨[.d (rowW s ds),.d (.int U),.d (.str s),.d (.tuple ds)],.eq rfl,fEq_f (rs_put hs') (iteF ⟨_,.refl,fEq_f (rs_again hs') (iteF ⟨_,.refl,?_⟩)⟩)⟩⟩⟩
    have i1:inD (.str s) [.str "row",.str "either"]=true:=by
     rcases hs' with rfl | rfl
     · decide +kernel
     · decide +kernel
    have dpos:0<ds.length:=List.length_pos_iff.mpr hne
    refine ⟨two_line,rfl,rfl,ite_t i1 ⟨rfl,ite_t (show instD (PyData.tuple ds) "tuple" = true from rfl) ?_⟩⟩
    show P (.bool (decide ((0:Int)<(ds.length:Int)))) n
    rw [decide_eq_true (by omega)]
    exact q
theorem sc_inner_words:FnScope ["word"] ["word"] (defScope s_inner_words):=⟨rfl,rfl,rfl,by decide +kernel,rfl,by decide +kernel,by decide +kernel⟩
theorem ok_inner_words (T:Txt mg) (D:Def K mg "inner_words" s_inner_words ["word"]):Cal P w K mg base "inner_words" 1 ["word"] (liftN gsInnerW):=by
 refine D.cal fun f fd F=>F.ok sc_inner_words (lift_lenN ?_) (fun cdv A outer s H vs Q E hr h=>?_)
 · rintro as n P ⟨N,x,rfl,_⟩
   rfl
 refine ⟨_,(@pss_cons _ _ _ _ _ (ps_if (pt_cmpR op_eq (pe_ix ix_tup (pv 0) pe_int (fun _ _=>rfl)) pe_str (nomark _)) (@pss_one _ _ _ (@ps_ret _ _ _ _ (@PEs.out _ _ _ (pes_lst pas_nil)))) pss_nil)
  (@pss_cons _ _ _ _ _ (ps_if (pt_cmpR op_eq (pe_ix ix_tup (pv 0) pe_int (fun _ _=>rfl)) pe_str (nomark _)) (@pss_one _ _ _ (@ps_ret _ _ _ _ (@PEs.out _ _ _ (pes_lst (pas_sub (pes_of (pe_ix ix_tup (pv 0) pe_int (fun _ _=>rfl))) pas_nil))))) pss_nil)
  (@pss_one _ _ _ (@ps_ret _ _ _ _ (pe_callTy call_list_of rfl T.b_list boot_list (pa_sub (pe_ix ix_tup (pv 0) pe_int (fun _ _=>rfl)) pa_nil)))))),lift_bodyN h ?_⟩
 rintro as n P ⟨U,x,rfl,hp,q⟩
 refine ⟨rfl,?_⟩
 rcases word_inv hp with ⟨x,rfl,hx⟩ | ⟨x,rfl⟩ | ⟨s,y,ys,hs,rfl⟩
 · rw [inner_put] at q
   exact ⟨_,rfl,fEq_t (iteT ⟨Nat.zero_le _,q⟩)⟩
 · rw [inner_again] at q
   exact ⟨_,rfl,fEq_f w_again_put (iteF ⟨_,.refl,_,rfl,fEq_t (iteT ⟨_,rfl,small4 (Nat.le_of_ble_eq_true rfl),q⟩)⟩)⟩
 · rw [inner_row hs] at q
   exact ⟨_,rfl,fEq_f (rs_put hs) (iteF ⟨_,.refl,_,rfl,fEq_f (rs_again hs) (iteF ⟨_,.refl,_,rfl,q⟩)⟩)⟩
theorem sc_is_word:FnScope ["thing","purses","pending","puts","part","within","inner"] ["thing","purses"] (defScope s_is_word):=⟨rfl,rfl,rfl,by decide +kernel,rfl,by decide +kernel,by decide +kernel⟩
theorem ok_is_word (T:Txt mg) (D:Def K mg "is_word" s_is_word ["thing","purses"]) (c_is_made_as_word:Cal P w K mg base "is_made_as_word" 4 ["thing","purses"] (liftV gsMadeW)) (c_inner_words:Cal P w K mg base "inner_words" 1 ["word"] (liftN gsInnerW)):Cal P w K mg base "is_word" 5 ["thing","purses"] (liftV gsIsWordW):=by
 refine D.cal fun f fd F=>F.ok sc_is_word (lift_len ?_) (fun cdv A outer s H vs Q E hr h=>?_)
 · rintro as n P ⟨U,m,d,rfl,_⟩
   rfl
 refine ⟨_,(@pss_cons _ _ _ _ _ (@ps_setD _ _ 2 _ _ _ _ sc_is_word.nd rfl (Or.inl rfl) (pes_lst (pas_tuple (pes_tup (pas_name (pes_of (pv 0)) (pas_const pes_int pas_nil))) pas_nil)) rfl (Or.inl rfl))
  (@pss_cons _ _ _ _ _ (ps_set (i:=3) sc_is_word.nd rfl (Or.inl rfl) pe_int)
  (@pss_cons _ _ _ _ _ (ps_while PassesOwn.never (pt_tru (pv 2) (fun _=>rfl))
  (@pss_cons _ _ _ _ _ (ps_asg (pe_bm0 PySem.F.plainAttrs_list PySem.F.slot_list_pop PySem.F.type_list_pop mt_pop (pv 2)) (pg_pair (K':=K) (i:=4) (j:=5) rfl sc_is_word.nd ⟨rfl,(Or.inl rfl),(Or.inl rfl)⟩ ⟨rfl,(Or.inr rfl),(Or.inl rfl)⟩ rfl))
  (@pss_cons _ _ _ _ _ (ps_if (PW.pt (pw_or (pt_cmpR op_gt (pv 5) (pe_gint T.g_MOST_WITHIN rfl) (nomark _)) (pw_or1 (pt_not (pt_val (pe_c c_is_made_as_word (hr.mono (by decide)) rfl (pa_name (pv 4) (pa_name (pv 1) pa_nil)))))))) (@pss_one _ _ _ (@ps_ret _ _ _ _ pe_bl)) pss_nil)
  (@pss_cons _ _ _ _ _ (ps_set (i:=6) sc_is_word.nd rfl (Or.inl rfl) (pe_c c_inner_words (hr.mono (by decide)) rfl (pa_name (pv 4) pa_nil)))
  (@pss_cons _ _ _ _ _ (ps_if (pt_not (pt_tru (pv 6) (fun _=>rfl))) (@pss_one _ _ _ (ps_aug (i:=3) sc_is_word.nd rfl (Or.inl rfl) pe_int ip_add)) pss_nil)
  (@pss_cons _ _ _ _ _ (ps_if (pt_cmpR op_gt (pe_op op_add (pe_op op_add (pv 3) (pe_callB call_len_seq rfl T.b_len PySem.boot_len (pa_name (pv 2) pa_nil))) (pe_callB call_len_seq rfl T.b_len PySem.boot_len (pa_name (pv 6) pa_nil))) (pe_gint T.g_MOST_PUTS rfl) (nomark _)) (@pss_one _ _ _ (@ps_ret _ _ _ _ pe_bl)) pss_nil)
  (@pss_one _ _ _ (ps_expr (pe_bm PySem.F.plainAttrs_list PySem.F.slot_list_extend PySem.F.type_list_extend mt_extend (pv 2) (pa_comp (pe_comp (sc:=(defScope s_is_word)) (N:=["thing","purses","pending","puts","part","within","inner"]) (N':=["more","within"]) (k:=1) (idx:=[5]) rfl (by exact ⟨rfl,by decide +kernel,by decide +kernel,by decide +kernel,by decide +kernel,by decide +kernel,rfl,rfl⟩) rfl rfl (pi_list (pv 6)) (fun _ _ _ _=>(pg_name (i:=0) (show (["more","within"]:List Str).Nodup by decide +kernel) rfl (Or.inl rfl) (Or.inr rfl))) (fun _ _ _ _=>pts_nil) (fun _ _ _ _=>(@PEs.out _ _ _ (pes_tup (pas_name (pes_of (pv 0)) (pas_binop (pes_of (pe_op op_add (pv 1) pe_int)) pas_nil)))))) pa_nil))))))))))
  (@pss_one _ _ _ (@ps_ret _ _ _ _ pe_bl))))),lift_body h ?_⟩
 rintro as n P ⟨U,mm,x,rfl,hwd,hm7,hU,q⟩
 have q:P (.bool (decide (putsN U 10 x<8))) n:=by rw [hwd.puts,decide_eq_true (by omega)];exact q
 have hl:∃ f m,Wd U f m x:=⟨10,mm,hwd⟩
 have hs:sizeLine=16777216:=sizeLine_eq
 refine ⟨rfl,two_line,small4 (Nat.le_of_ble_eq_true rfl),⟨[.d x,.d (.int U),.own [pairD (x,1)],.jnk,.jnk,.jnk,.jnk],.eq rfl,⟨[.d x,.d (.int U),.own [pairD (x,1)],.d (.int 0),.jnk,.jnk,.jnk],.eq rfl,?_⟩⟩⟩
 refine ⟨fun k env j=>j=n∧∃ (ps:List (PyData×Nat)) (m:Nat) (a b c:Vl),env=[.d x,.d (.int U),.own (ps.map pairD),.d (.int (m:Int)),a,b,c]∧m+wsumN (putsN U) ps=putsN U 10 x∧m+ps.length≤7∧(∀ p∈ps,∃ f m,Wd U f m p.1)∧k=wsumN (itN U) ps,⟨_,rfl,[(x,1)],0,_,_,_,rfl,by rw [wsum_one,Nat.zero_add],by simp,fun p hp=>by rw [List.mem_singleton.mp hp];exact hl,rfl⟩,?_⟩
 rintro k _ j ⟨rfl,ps,m,a,b,c,rfl,hw,hm,hlay,hk⟩
 rcases List.eq_nil_or_concat ps with rfl | ⟨ps,p,rfl⟩
 · refine iteF ⟨_,.refl,?_⟩
   have e:decide (putsN U 10 x<8)=true:=by
    refine decide_eq_true ?_
    have:wsumN (putsN U) []=0:=rfl
    rw [List.length_nil] at hm
    omega
   rw [e] at q
   exact q
 rw [List.concat_eq_append] at *
 obtain ⟨d,k'⟩:=p
 rw [List.length_append,List.length_singleton] at hm
 rw [wsum_app,wsum_one] at hw hk
 have hld:∃ f m,Wd U f m d:=hlay (d,k') (List.mem_append_right _ List.mem_cons_self)
 have qf:8≤putsN U 10 x→P (.bool false) j:=fun h=>by
  rw [decide_eq_false (by omega)] at q
  exact q
 refine ite_t (by simp) ⟨pairD (d,k'),by simp,rfl,rfl,⟨[.d x,.d (.int U),.own (ps.map pairD),.d (.int (m:Int)),.d d,.d (.int (k':Int)),c],.eq (by rw [List.map_append,List.map_singleton,List.dropLast_concat];rfl),?_⟩⟩
 refine ite_b (fun c1=>?_) (fun c1=>?_)
 · have:10<k':=by have:=of_decide_eq_true c1;omega
   rw [show 11-k'=0 by omega] at hw
   refine iteT (qf ?_)
   rw [show putsN U 0 d=100 from rfl] at hw
   omega
 have hk10:k'≤10:=by have:=of_decide_eq_false c1;omega
 obtain ⟨fd',md,hwd2⟩:=hld
 refine ⟨U,fd',md,d,rfl,hwd2,hU,iteF ⟨_,.refl,?_⟩⟩
 have hp:wordB U d=true:=wd_word hwd2
 rw [show 11-k'=(10-k')+1 by omega,puts_in hp] at hw
 rw [show 11-k'=(10-k')+1 by omega,it_in hp] at hk
 refine ⟨U,d,rfl,hp,⟨_,.refl,?_⟩⟩
 refine vseq (fun env i=>i=j∧env=[.d x,.d (.int U),.own (ps.map pairD),.d (.int ((m+(if innerW d=[] then 1 else 0):Nat):Int)),.d d,.d (.int (k':Int)),.own (innerW d)]) (fun N hN=>?_) ?_
 · cases hi:innerW d with
   | nil=>exact ite_t rfl (hN _ _ ⟨rfl,by rw [hi,if_pos rfl];rfl⟩)
   | cons y ys=>exact ite_f rfl (hN _ _ ⟨rfl,by rw [hi,if_neg (List.cons_ne_nil _ _)];rfl⟩)
 rintro _ _ ⟨rfl,rfl⟩
 have hl2:ps.length≤wsumN (putsN U) ps:=wsum_len
 have hl3:(innerW d).length≤((innerW d).map (putsN U (10-k'))).sum:=by
  have:=wsum_len (U:=U) (ps:=(innerW d).map fun e=>(e,k'+1))
  rw [wsum_inner,List.length_map] at this
  exact this
 generalize (if innerW d=[] then 1 else 0)=z at hw ⊢
 refine ⟨_,.refl,ite_b (fun c3=>?_) (fun c3=>⟨_,.refl,?_⟩)⟩
 · have:=of_decide_eq_true c3
   rw [List.length_map] at this
   exact qf (by omega)
 have hle:m+z+ps.length+(innerW d).length≤7:=by
  have:=of_decide_eq_false c3
  rw [List.length_map] at this
  omega
 refine ⟨⟨rfl,by omega⟩,cmpW_map (fun e=>.tuple [e,.int ((k':Int)+1)]) (fun e he n K hk=>iteT ⟨two_line,hk⟩) ⟨by rw [List.length_map,List.length_map];omega,?_⟩⟩
 refine ⟨wsumN (itN U) (ps++(innerW d).map fun e=>(e,k'+1)),?_,rfl,ps++(innerW d).map fun e=>(e,k'+1),m+z,.d d,.d (.int (k':Int)),.own (innerW d),?_,?_,?_,fun p hp=>?_,rfl⟩
 · rw [wsum_app,wsum_inner];omega
 · rw [List.map_append,List.map_map];rfl
 · rw [wsum_app,wsum_inner];omega
 · rw [List.length_append,List.length_map];omega
 · rcases List.mem_append.mp hp with hp | hp
   · exact hlay p (List.mem_append_left _ hp)
   · obtain ⟨e,he,rfl⟩:=List.mem_map.mp hp
     exact wd_inner hwd2 e he
theorem sc_law:FnScope ["script","jar","turn","word","purses","book","rooms","numbered","many","again","row","walk","here","put","some","last"] ["script"] (defScope s_law):=⟨rfl,rfl,rfl,by decide +kernel,rfl,by decide +kernel,by decide +kernel⟩
theorem ok_law {f:Addr}{fd:FuncData}(T:Txt mg) (F:Fun K "law" "law" s_law f fd) (c__law_jar:Cal P w K mg base "_law_jar" 2 ["script"] (spJar K)) (c__law_pick:Cal P w K mg base "_law_pick" 2 ["jar","many"] (liftV gsPick)) (c__law_some_word:Cal P w K mg base "_law_some_word" 13 ["jar"] (liftV gsSomeWord)) (c_word_book:Cal P w K mg base "word_book" 14 ["word"] (liftV gsWordBook)) (c__law_numbered:Cal P w K mg base "_law_numbered" 11 ["word","first"] (liftV (gsNum 10))) (c_is_word:Cal P w K mg base "is_word" 5 ["thing","purses"] (liftV gsIsWordW)) (c_is_book:Cal P w K mg base "is_book" 5 ["thing"] (liftV gsIsBook1)) (c__law_over:Cal P w K mg base "_law_over" 11 ["word","row","starts"] (liftV (gsOverL 10))) (c__law_row:Cal P w K mg base "_law_row" 13 ["jar","word"] (liftV (gsRow 10))) (c_is_walk:Cal P w K mg base "is_walk" 4 ["book","some"] (liftV gsIsWalk1)) (c__law_gone:Cal P w K mg base "_law_gone" 3 ["jar","book","most"] (liftV gsGoneW)) (c_ends_of:Cal P w K mg base "ends_of" 1 ["book","walk"] (liftV gsEndsW)):FnOk P w K mg base CX0 30 f fd ["script"] (spLaw K):=by
 refine F.ok sc_law (fun vs H Q E h=>?_) (fun cdv A outer s H vs Q E hr h=>?_)
 · obtain ⟨a,ns,rfl,_⟩:=h
   rfl
 refine ⟨_,(@pss_cons _ _ _ _ _ (ps_set (i:=1) sc_law.nd rfl (Or.inl rfl) (pe_c c__law_jar (hr.mono (by decide)) rfl (pa_name (pv 0) pa_nil)))
  (@pss_cons _ _ _ _ _ (ps_for PassesOwn.never rfl (pi_range1 rfl T.b_range (pa_const pe_int pa_nil)) (pg_name (i:=2) sc_law.nd rfl (Or.inl rfl) (Or.inl rfl))
  (@pss_cons _ _ _ _ _ (ps_asg (pe_c c__law_some_word (hr.mono (by decide)) rfl (pa_name (pv 1) pa_nil)) (pg_pair (K':=K) (i:=3) (j:=4) rfl sc_law.nd ⟨rfl,(Or.inl rfl),(Or.inl rfl)⟩ ⟨rfl,(Or.inl rfl),(Or.inl rfl)⟩ rfl))
  (@pss_cons _ _ _ _ _ (ps_asg (pe_c c_word_book (hr.mono (by decide)) rfl (pa_name (pv 3) pa_nil)) (pg_pair (K':=K) (i:=5) (j:=6) rfl sc_law.nd ⟨rfl,(Or.inr rfl),(Or.inl rfl)⟩ ⟨rfl,(Or.inl rfl),(Or.inl rfl)⟩ rfl))
  (@pss_cons _ _ _ _ _ (ps_asg (pe_c c__law_numbered (hr.mono (by decide)) rfl (pa_name (pv 3) (pa_const pe_int pa_nil))) (pg_pair (K':=K) (i:=7) (j:=8) rfl sc_law.nd ⟨rfl,(Or.inl rfl),(Or.inl rfl)⟩ ⟨rfl,(Or.inl rfl),(Or.inl rfl)⟩ rfl))
  (@pss_cons _ _ _ _ _ (ps_if (PW.pt (pw_or (pt_cmpR op_isnotB (pe_c c_is_word (hr.mono (by decide)) rfl (pa_name (pv 3) (pa_name (pv 4) pa_nil))) pe_bl (nomark _)) (pw_or (pt_cmpR op_isnotB (pe_c c_is_book (hr.mono (by decide)) rfl (pa_name (pv 5) pa_nil)) pe_bl (nomark _)) (pw_or1 (pt_cmpR op_ne (pe_ix ix_tup (pv 5) pe_int (fun _ _=>rfl)) (pv 8) (nomark _)))))) (@pss_one _ _ _ (@ps_ret _ _ _ _ pe_bl)) pss_nil)
  (@pss_cons _ _ _ _ _ (ps_if (pt_cmpR op_ne (pe_cmpR op_in_seq pe_int (pv 6) (by with_unfolding_all rfl)) (pe_cmpR op_in_seq pe_int (pe_c c__law_over (hr.mono (by decide)) rfl (pa_name (pv 7) (pa_list (@PEs.out _ _ _ (pes_lst pas_nil)) (pa_list (@PEs.out _ _ _ (pes_lst (pas_const pes_int pas_nil))) pa_nil)))) (by with_unfolding_all rfl)) (nomark _)) (@pss_one _ _ _ (@ps_ret _ _ _ _ pe_bl)) pss_nil)
  (@pss_one _ _ _ (ps_for PassesOwn.never rfl (pi_range1 rfl T.b_range (pa_const pe_int pa_nil)) (pg_name (i:=9) sc_law.nd rfl (Or.inl rfl) (Or.inl rfl))
  (@pss_cons _ _ _ _ _ (ps_dput (hu_of hr) (pv 1) pe_str pe_int rfl)
  (@pss_cons _ _ _ _ _ (ps_set (i:=10) sc_law.nd rfl (Or.inl rfl) (pe_c c__law_row (hr.mono (by decide)) rfl (pa_name (pv 1) (pa_name (pv 7) pa_nil))))
  (@pss_cons _ _ _ _ _ (@ps_setD _ _ 11 _ _ _ _ sc_law.nd rfl (Or.inl rfl) (pes_lst pas_nil) rfl (Or.inl rfl))
  (@pss_cons _ _ _ _ _ (ps_set (i:=12) sc_law.nd rfl (Or.inr rfl) pe_int)
  (@pss_cons _ _ _ _ _ (ps_for PassesOwn.never rfl (pi_list (pv 10)) (pg_name (i:=13) sc_law.nd rfl (Or.inr rfl) (Or.inl rfl))
  (@pss_cons _ _ _ _ _ (ps_setcomp (i:=14) (sc:=(defScope s_law)) (N:=["script","jar","turn","word","purses","book","rooms","numbered","many","again","row","walk","here","put","some","last"]) (N':=["k","way","here","put"]) (k:=2) (idx:=[12,13]) rfl sc_law.nd rfl rfl (by exact ⟨rfl,by decide +kernel,by decide +kernel,by decide +kernel,by decide +kernel,by decide +kernel,rfl,rfl⟩) rfl rfl (pi_enum rfl T.b_enumerate (pa_sub (pe_ix ix_tup (pv 5) pe_int (fun _ _=>rfl)) pa_nil)) (fun _ _ _ _=>(pg_pair (K':=K) (i:=0) (j:=1) rfl (show (["k","way","here","put"]:List Str).Nodup by decide +kernel) ⟨rfl,(Or.inl rfl),(Or.inr rfl)⟩ ⟨rfl,(Or.inl rfl),(Or.inr rfl)⟩ rfl)) (fun _ _ _ _=>pts_one (PW.pt (pw_and (pt_cmpR op_eq (pe_ix (ix_tupK (K':=K) rfl) (pv 1) pe_int (fun _ _=>rfl)) (pv 2) (nomark _)) (pw_and1 (pt_cmpR op_eq (pe_ix (ix_tupK (K':=K) rfl) (pv 1) pe_int (fun _ _=>rfl)) (pv 3) (nomark _)))))) (fun _ _ _ _=>(pv 0)))
  (@pss_cons _ _ _ _ _ (ps_if (pt_cmpR op_ne (pe_callB call_len_seq rfl T.b_len PySem.boot_len (pa_name (pv 14) pa_nil)) pe_int (nomark _)) (@pss_one _ _ _ (@ps_ret _ _ _ _ pe_bl)) pss_nil)
  (@pss_cons _ _ _ _ _ (ps_expr (pe_bm PySem.F.plainAttrs_list PySem.F.slot_list_append PySem.F.type_list_append mt_append (pv 11) (pa_sub (pe_ix ix_list (pv 14) pe_int (fun _ _=>rfl)) pa_nil)))
  (@pss_one _ _ _ (ps_set (i:=12) sc_law.nd rfl (Or.inr rfl) (pv 13)))))))
  (@pss_cons _ _ _ _ _ (ps_if (PW.pt (pw_or (pt_cmpR (op_notIn_seqK (K':=K) rfl) (pv 12) (pv 6) (by with_unfolding_all rfl)) (pw_or1 (PW.pt (pw_and (pt_cmpR (op_neD hr.units) (pv 11) (@PEs.out _ _ _ (pes_lst pas_nil)) (nomark _)) (pw_and1 (pt_cmpR op_isnotB (pe_c c_is_walk (hr.mono (by decide)) rfl (pa_name (pv 5) (pa_call (pe_callTy call_list_of rfl T.b_list boot_list (pa_name (pv 11) pa_nil)) pa_nil))) pe_bl (nomark _)))))))) (@pss_one _ _ _ (@ps_ret _ _ _ _ pe_bl)) pss_nil)
  (@pss_cons _ _ _ _ _ (ps_set (i:=11) sc_law.nd rfl (Or.inl rfl) (pe_c c__law_gone (hr.mono (by decide)) rfl (pa_name (pv 1) (pa_name (pv 5) (pa_const pe_int pa_nil)))))
  (@pss_cons _ _ _ _ _ (ps_setcomp (i:=10) (sc:=(defScope s_law)) (N:=["script","jar","turn","word","purses","book","rooms","numbered","many","again","row","walk","here","put","some","last"]) (N':=["k","book"]) (k:=1) (idx:=[5]) rfl sc_law.nd rfl rfl (by exact ⟨rfl,by decide +kernel,by decide +kernel,by decide +kernel,by decide +kernel,by decide +kernel,rfl,rfl⟩) rfl rfl (pi_list (pv 11)) (fun _ _ _ _=>(pg_name (i:=0) (show (["k","book"]:List Str).Nodup by decide +kernel) rfl (Or.inl rfl) (Or.inr rfl))) (fun _ _ _ _=>pts_nil) (fun _ _ _ _=>(pe_ix (ix_tupK (K':=K) rfl) (pe_ix (ix_tupK (K':=K) rfl) (pe_ix (ix_tupK (K':=K) rfl) (pv 1) pe_int (fun _ _=>rfl)) (pv 0) (fun _ _=>rfl)) pe_int (fun _ _=>rfl))))
  (@pss_cons _ _ _ _ _ (ps_set (i:=15) sc_law.nd rfl (Or.inl rfl) (pe_ifExp (pt_cmpR (op_eqD hr.units) (pv 11) (@PEs.out _ _ _ (pes_lst pas_nil)) (nomark _)) pe_int (pe_ix ix_tup (pe_c c_ends_of (hr.mono (by decide)) rfl (pa_name (pv 5) (pa_call (pe_callTy call_list_of rfl T.b_list boot_list (pa_name (pv 11) pa_nil)) pa_nil))) pe_int (fun _ _=>rfl))))
  (@pss_one _ _ _ (ps_if (pt_cmpR op_ne (pe_cmpR op_in_seq (pv 15) (pv 6) (by with_unfolding_all rfl)) (pe_cmpR op_in_seq (pe_callB call_len_seq rfl T.b_len PySem.boot_len (pa_name (pv 10) pa_nil)) (pe_c c__law_over (hr.mono (by decide)) rfl (pa_name (pv 7) (pa_name (pv 10) (pa_list (@PEs.out _ _ _ (pes_lst (pas_const pes_int pas_nil))) pa_nil)))) (by with_unfolding_all rfl)) (nomark _)) (@pss_one _ _ _ (@ps_ret _ _ _ _ pe_bl)) pss_nil)))))))))))))))))))
  (@pss_one _ _ _ (@ps_ret _ _ _ _ pe_bl)))),law_start (by decide) h ?_⟩
 have hsz:sizeLine=16777216:=sizeLine_eq
 show gSeq _ _ endsL [.jnk,.jar,.jnk,.jnk,.jnk,.jnk,.jnk,.jnk,.jnk,.jnk,.jnk,.jnk,.jnk,.jnk,.jnk,.jnk] 0
 refine ⟨2,rfl,⟨by decide,by decide⟩,?_⟩
 refine ⟨fun i env n=>∃ a2 a3 a4 a5 a6 a7 a8 a9 a10 a11 a12 a13 a14 a15:Vl,env=[.jnk,.jar,a2,a3,a4,a5,a6,a7,a8,a9,a10,a11,a12,a13,a14,a15],⟨_,_,_,_,_,_,_,_,_,_,_,_,_,_,rfl⟩,?_,fun env n ⟨_,_,_,_,_,_,_,_,_,_,_,_,_,_,he⟩=>by subst he;exact ⟨_,.refl,rfl⟩⟩
 rintro i x env n hx ⟨a2,a3,a4,a5,a6,a7,a8,a9,a10,a11,a12,a13,a14,a15,rfl⟩
 refine ⟨rfl,fun U m d hU hw hm=>⟨rfl,rfl,⟨[.jnk,.jar,.d x,.d d,.d (.int U),a5,a6,a7,a8,a9,a10,a11,a12,a13,a14,a15],.eq rfl,?_⟩⟩⟩
 refine ⟨U,m,d,rfl,hw,hm,fun ks os h1 h2 h3 h4=>?_⟩
 have b:=rd_b (a:=0) hw
 have KO:KsOk (rdW 10 d 0) m ks:=⟨h1,h2⟩
 have bok:=book_ok hU hw hm KO
 have ov:∀ row out,Over (LgW 10 d 0) row [0] out→((row.length:Int)∈out↔PathR (rdW 10 d 0) row):=fun row out h=>over_all hw h
 have lg:∀ row,LgW 10 d 0 row↔PathR (rdW 10 d 0) row:=fun row=>glu hw row
 rw [bookW_pd b.g]
 generalize rdW 10 d 0=r at b KO bok ov lg h1 h3
 have rm:=rooms_mem h3
 have wl:(wsOf r ks).length≤60:=bok.len
 generalize hws:wsOf r ks=ws at bok wl
 refine ⟨rfl,rfl,⟨[.jnk,.jar,.d x,.d d,.d (.int U),.d (bookPD ((m:Int)+1) U ws),.d (.list (os.map .int)),a7,a8,a9,a10,a11,a12,a13,a14,a15],.eq rfl,?_⟩⟩
 refine ⟨U,m,d,0,rfl,hw,hm,rfl,rfl,⟨[.jnk,.jar,.d x,.d d,.d (.int U),.d (bookPD ((m:Int)+1) U ws),.d (.list (os.map .int)),.d (numW 10 d 0),.d (.int (0+1+(m:Int))),a9,a10,a11,a12,a13,a14,a15],.eq rfl,?_⟩⟩
 refine ⟨U,m,d,rfl,hw,hm,hU.2,?_⟩
 refine iteF ⟨(m:Int)+1,U,ws,rfl,bok,iteF ⟨_,rfl,?_⟩⟩
 refine ite_f (show (!decide (((m:Int)+1)=0+1+(m:Int)))=false by rw [decide_eq_true (by omega)];rfl) ⟨_,.refl,?_⟩
 have agree:∀ (row out:List Int) (z:Int),Ch (leadsR r) 0 row z→Over (LgW 10 d 0) row [0] out→inD (.int z) (os.map .int)=inD (.int (row.length:Int)) (out.map .int):=fun row out z hc ho=>by
  rw [in_is,in_is]
  refine decide_eq_decide.mpr ?_
  rw [rm z,ov row out ho,lead_path b hc]
 refine ⟨rfl,scal_is os,Nat.zero_le _,small4 (Nat.le_of_ble_eq_true rfl),U,m,d,0,[],[0],rfl,hw,hm,⟨Nat.zero_le _,Nat.le_of_ble_eq_true rfl,fun s hs=>by rw [List.mem_singleton.mp hs];exact ⟨Int.le_refl _,Int.le_refl _⟩⟩,fun out ho=>⟨rfl,scal_is out,?_⟩⟩
 have ag0:=agree [] out 0 rfl ho
 show fEq true (.bool (inD (.int 0) (os.map .int))) (.bool (inD (.int 0) (out.map .int))) _
 rw [show inD (.int 0) (os.map .int)=inD (.int 0) (out.map .int) from ag0]
 refine fNe_self (iteF ⟨_,.refl,?_⟩)
 refine ⟨4,rfl,⟨by decide,by decide⟩,?_⟩
 refine ⟨fun i env k=>∃ a9 a10 a11 a12 a13 a14 a15:Vl,env=[.jnk,.jar,.d x,.d d,.d (.int U),.d (bookPD ((m:Int)+1) U ws),.d (.list (os.map .int)),.d (numW 10 d 0),.d (.int (0+1+(m:Int))),a9,a10,a11,a12,a13,a14,a15],⟨_,_,_,_,_,_,_,rfl⟩,?_,fun env k ⟨_,_,_,_,_,_,_,he⟩=>by subst he;exact ⟨_,_,_,_,_,_,_,_,_,_,_,_,_,_,rfl⟩⟩
 clear a9 a10 a11 a12 a13 a14 a15
 rintro i2 x2 env n2 hx2 ⟨a9,a10,a11,a12,a13,a14,a15,rfl⟩
 refine ⟨by decide,_,.refl,U,m,d,0,rfl,hw,hm,Nat.le_refl _,Nat.succ_pos _,fun row n3 hn3 hrow hrl=>?_⟩
 have hP:=(lg row).mp hrow
 obtain ⟨z,hz⟩:=path_lead b hP
 have rl:row.length≤7*191:=Nat.le_trans hrl (Nat.mul_le_mul hm (by decide))
 refine ⟨[.jnk,.jar,.d x,.d d,.d (.int U),.d (bookPD ((m:Int)+1) U ws),.d (.list (os.map .int)),.d (numW 10 d 0),.d (.int (0+1+(m:Int))),.d x2,.d (.list (row.map .int)),a11,a12,a13,a14,a15],.eq rfl,Nat.zero_le _,⟨[.jnk,.jar,.d x,.d d,.d (.int U),.d (bookPD ((m:Int)+1) U ws),.d (.list (os.map .int)),.d (numW 10 d 0),.d (.int (0+1+(m:Int))),.d x2,.d (.list (row.map .int)),.own [],a12,a13,a14,a15],.eq rfl,⟨[.jnk,.jar,.d x,.d d,.d (.int U),.d (bookPD ((m:Int)+1) U ws),.d (.list (os.map .int)),.d (numW 10 d 0),.d (.int (0+1+(m:Int))),.d x2,.d (.list (row.map .int)),.own [],.d (.int 0),a13,a14,a15],.eq rfl,?_⟩⟩⟩
 refine ⟨fun j env k=>∃ (walk:List Int) (here:Int) (a13 a14:Vl),Pth ws 0 walk here∧walk.length≤j∧Ch (leadsR r) here (row.drop j) z∧env=[.jnk,.jar,.d x,.d d,.d (.int U),.d (bookPD ((m:Int)+1) U ws),.d (.list (os.map .int)),.d (numW 10 d 0),.d (.int (0+1+(m:Int))),.d x2,.d (.list (row.map .int)),.own (walk.map .int),.d (.int here),a13,a14,a15],⟨[],0,_,_,rfl,Nat.le_refl _,hz,rfl⟩,?_,?_⟩
 · rintro j y env n4 hy ⟨walk,here,b13,b14,hp,hl,hc,rfl⟩
   rw [List.getElem?_map] at hy
   obtain ⟨put,hput,rfl⟩:=Option.map_eq_some_iff.mp hy
   obtain ⟨hj,ej⟩:=List.getElem?_eq_some_iff.mp hput
   rw [List.drop_eq_getElem_cons hj,ej] at hc
   obtain ⟨i0,hi0,ea,eb,ef⟩:=one_way KO hc.1
   rw [hws] at hi0 ea eb
   refine ⟨_,rfl,_,ws.map wayPD,rfl,rfl,?_⟩
   rw [enumD_ways]
   refine ⟨⟨rfl,by rw [List.length_map,List.length_range];omega⟩,cmpW_fm (h:=fun (i:Nat)=>.int ((i:Nat):Int)) (p:=oneW r ks here put) (fun j hj K k1 k2=>?_) ?_⟩
   · refine ⟨rfl,rfl,_,rfl,?_⟩
     rw [← hws] at *
     refine ite_b (fun c=>⟨_,rfl,ite_b (fun c2=>k1 ?_) (fun c2=>k2 ?_)⟩) (fun c=>iteF (k2 ?_))
     · unfold oneW
       exact (Bool.and_eq_true _ _).mpr ⟨c,c2⟩
     · unfold oneW
       rw [show decide ((wayAt (wsOf r ks) ((j:Nat):Int)).b=put)=false from c2,Bool.and_false]
     · unfold oneW
       rw [show decide ((wayAt (wsOf r ks) ((j:Nat):Int)).a=here)=false from c,Bool.false_and]
   · rw [← hws,ef,hws]
     have c1:((([i0].map fun (i:Nat)=>PyData.int ((i:Nat):Int)).length:Nat):Int)=1:=rfl
     have c2:atI ([i0].map fun (i:Nat)=>PyData.int ((i:Nat):Int)) 0=some (.int (i0:Int)):=rfl
     generalize ([i0].map fun (i:Nat)=>PyData.int ((i:Nat):Int))=som at c1 c2 ⊢
     refine ⟨_,.refl,?_⟩
     refine ite_f (show (!decide ((som.length:Int)=1))=false by rw [c1];rfl) ⟨_,.refl,?_⟩
     refine ⟨.int (i0:Int),c2,by rw [List.length_map];omega,?_⟩
     have e1:walk.map PyData.int++[.int (i0:Int)]=(walk++[(i0:Int)]).map .int:=by rw [List.map_append];rfl
     refine ⟨[.jnk,.jar,.d x,.d d,.d (.int U),.d (bookPD ((m:Int)+1) U ws),.d (.list (os.map .int)),.d (numW 10 d 0),.d (.int (0+1+(m:Int))),.d x2,.d (.list (row.map .int)),.own ((walk++[(i0:Int)]).map .int),.d (.int here),.d (.int put),.own som,a15],.eq (by rw [← e1];rfl),?_⟩
     refine ⟨walk++[(i0:Int)],put,_,_,?_,by rw [List.length_append,List.length_singleton];omega,hc.2,rfl⟩
     have:=pth_snoc (k:=(i0:Int)) hp ⟨by omega,by omega⟩ ea
     rw [eb] at this
     exact this
 · rintro env n4 ⟨walk,here,b13,b14,hp,hl,hc,rfl⟩
   rw [List.length_map] at hl hc
   rw [List.drop_length] at hc
   have hh:here=z:=hc
   subst hh
   refine ⟨_,.refl,?_⟩
   have hin:inD (.int here) (os.map .int)=true:=by
    rw [in_is]
    exact decide_eq_true ((rm here).mpr ((lead_path b hz).mp hP))
   refine ⟨rfl,scal_is os,ite_f (show (!inD (.int here) (os.map .int))=false by rw [hin];rfl) ?_⟩
   refine ⟨Nat.zero_le _,neNil (ns:=walk) (fun hne=>?_) (fun hne=>?_)⟩
   all_goals (first | refine iteF (iteF ⟨_,.refl,?_⟩) | (obtain ⟨f0,hf0,_,_⟩:=pth_wk hp hne;refine iteT ⟨_,_,ws,walk,f0,rfl,bok,hf0,by omega,iteF ⟨_,.refl,?_⟩⟩))
   all_goals (
    clear hne hl hp hc hz hin
    refine ⟨_,_,ws,rfl,wl,fun wk rm2 wkl hp2=>?_⟩
    have hch:=pth_ch KO (by rw [hws];exact hp2)
    rw [hws] at hch
    have iw:=hp2.inW
    refine ⟨[.jnk,.jar,.d x,.d d,.d (.int U),.d (bookPD ((m:Int)+1) U ws),.d (.list (os.map .int)),.d (numW 10 d 0),.d (.int (0+1+(m:Int))),.d x2,.d (.list (row.map .int)),.d (.list (wk.map .int)),.d (.int here),b13,b14,a15],.eq rfl,?_⟩
    refine ⟨⟨rfl,by rw [List.length_map];omega⟩,cmpW_mapG (f:=PyData.int) (fun k=>.int (wayAt ws k).b) (xs:=wk) (fun k hk n K q=>⟨_,rfl,_,at_way (iw k hk).1 (iw k hk).2,_,rfl,q⟩) ?_⟩
    rw [show (wk.map fun k=>PyData.int (wayAt ws k).b)=(wk.map fun k=>(wayAt ws k).b).map PyData.int by rw [List.map_map];rfl]
    have rwl:(wk.map fun k=>(wayAt ws k).b).length≤29:=by rw [List.length_map];exact wkl
    generalize (wk.map fun k=>(wayAt ws k).b)=row2 at hch rwl
    refine ⟨[.jnk,.jar,.d x,.d d,.d (.int U),.d (bookPD ((m:Int)+1) U ws),.d (.list (os.map .int)),.d (numW 10 d 0),.d (.int (0+1+(m:Int))),.d x2,.d (.list (row2.map .int)),.d (.list (wk.map .int)),.d (.int here),b13,b14,a15],.fz 10 _ rfl .refl,?_⟩
    refine ⟨Nat.zero_le _,eqNilI (ns:=wk) (fun e0=>?_) (fun e0=>?_)⟩
    all_goals (first
     | (refine iteT ?_
        subst e0
        have e2:(0:Int)=rm2:=hp2
        subst e2)
     | (obtain ⟨f0,hf0,_,e2⟩:=pth_wk hp2 e0
        subst e2
        refine iteF ⟨_,_,ws,wk,f0,rfl,bok,hf0,_,rfl,?_⟩))
    all_goals (
     refine ⟨_,.refl,?_⟩
     refine ⟨rfl,scal_is os,small4 (Nat.le_of_ble_eq_true rfl),U,m,d,0,row2,[0],rfl,hw,hm,⟨by omega,Nat.le_of_ble_eq_true rfl,fun s hs=>by rw [List.mem_singleton.mp hs];exact ⟨Int.le_refl _,by omega⟩⟩,fun out2 ho2=>⟨rfl,scal_is out2,?_⟩⟩
     have ag:=agree row2 out2 _ hch ho2
     rw [List.length_map]
     have fin:∀ (u v:Bool) {R:PyData→Prop},u=v→R (.bool false)→fEq true (.bool u) (.bool v) R:=fun u v R e q=>by subst e;exact fNe_self q
     exact fin _ _ ag (iteF ⟨_,_,_,_,_,_,_,rfl⟩)))
end
theorem all_mk {l:PySem.W.OpenLaw}{w:World}{K:PySem.W.Frag}{h:Heap}{mg:Str→Option Value}{fa f4:Addr}(X:K.In h) (G:h.Ns mainGlobals mg) (hfa:mg "law" = some (.ref fa)) (T:Txt mg)
 (D_law_mix:Def K mg "_law_mix" s_law_mix ["one"]) (D_law_jar:Def K mg "_law_jar" s_law_jar ["script"]) (D_law_pick:Def K mg "_law_pick" s_law_pick ["jar","many"]) (D_is_whole:Def K mg "is_whole" s_is_whole ["thing"]) (D_is_between:Def K mg "is_between" s_is_between ["thing","least","most"]) (D_is_tuple_of:Def K mg "is_tuple_of" s_is_tuple_of ["thing","many"]) (D_are_gains:Def K mg "are_gains" s_are_gains ["thing","purses"]) (D_is_way:Def K mg "is_way" s_is_way ["thing","rooms","purses"]) (D_is_book:Def K mg "is_book" s_is_book ["thing"]) (D_has_way:Def K mg "has_way" s_has_way ["book","k"]) (D_is_walk:Def K mg "is_walk" s_is_walk ["book","some"]) (D_ends_of:Def K mg "ends_of" s_ends_of ["book","walk"]) (D_is_made_as_word:Def K mg "is_made_as_word" s_is_made_as_word ["thing","purses"]) (D_inner_words:Def K mg "inner_words" s_inner_words ["word"]) (D_is_word:Def K mg "is_word" s_is_word ["thing","purses"]) (D_law_split:Def K mg "_law_split" s_law_split ["jar","many"]) (D_law_word_of:Def K mg "_law_word_of" s_law_word_of ["jar","purses","many","deep"]) (D_law_within:Def K mg "_law_within" s_law_within ["word"]) (D_law_some_word:Def K mg "_law_some_word" s_law_some_word ["jar"]) (D_every_pair:Def K mg "every_pair" s_every_pair ["lasts","firsts"]) (D_one_behind_other:Def K mg "one_behind_other" s_one_behind_other ["one","other"]) (D_one_or_other:Def K mg "one_or_other" s_one_or_other ["one","other"]) (D_over_and_over:Def K mg "over_and_over" s_over_and_over ["reading"]) (D_read_word:Def K mg "read_word" s_read_word ["word","ahead"]) (D_word_book:Def K mg "word_book" s_word_book ["word"]) (D_law_numbered:Def K mg "_law_numbered" s_law_numbered ["word","first"]) (D_law_row:Def K mg "_law_row" s_law_row ["jar","word"]) (D_law_over:Def K mg "_law_over" s_law_over ["word","row","starts"]) (D_law_gone:Def K mg "_law_gone" s_law_gone ["jar","book","most"])
 {od4 an4:Option Addr} {sl4:Array (Option Value)} {oc4 kV4 dc4 pm4 cd4 ct4:Value} (a4:PySem.W.nsIn K mainGlobals "law" = some (some (.ref f4)))
 (l4:K.lookup f4=some ⟨oc4,od4,.func (PySem.W.fnOf "law" "law" (defArgs s_law) (defBody s_law) (defScope s_law) .none kV4 dc4 pm4 an4 cd4 ct4),sl4⟩) (c4:PySem.W.codeIn K cd4 "law" = true) (k4:PySem.W.keepIn K (.ref f4)=true) :
 ∃ fd:FuncData,(∀ (s:Shared) (v:Value),BindsTo s fd ⟨[v],[]⟩ [("script",v)])∧∀ base:Heap,K.In base→base.Ns mainGlobals mg→FnOk l.prog w K mg base CX0 30 fa fd ["script"] (spLaw K):=by
 have e:=hfa.symm.trans (PySem.W.mg_of X G a4)
 cases e
 have F4:=fun_mk (st:=s_law) l4 c4 k4
 refine ⟨PySem.W.fnOf "law" "law" (defArgs s_law) (defBody s_law) (defScope s_law) .none kV4 dc4 pm4 an4 cd4 ct4,fun s v=>.of_eq rfl,fun base _ _=>?_⟩
 have c_law_mix:Cal l.prog w K mg base "_law_mix" 1 ["one"] spMix:=ok_law_mix T D_law_mix
 have c_law_jar:Cal l.prog w K mg base "_law_jar" 2 ["script"] (spJar K):=ok_law_jar T D_law_jar c_law_mix
 have h_law_pick:Cal l.prog w K mg base "_law_pick" 2 ["jar","many"] spPickE:=ok_law_pickE T D_law_pick c_law_mix
 have c_law_pick:Cal l.prog w K mg base "_law_pick" 2 ["jar","many"] (liftV gsPick):=h_law_pick.imp imp_pick
 have c_is_whole:Cal l.prog w K mg base "is_whole" 1 ["thing"] (liftV gsWhole):=ok_is_whole T D_is_whole
 have c_is_between:Cal l.prog w K mg base "is_between" 2 ["thing","least","most"] (liftV gsBetween):=ok_is_between T D_is_between c_is_whole
 have c_is_tuple_of:Cal l.prog w K mg base "is_tuple_of" 1 ["thing","many"] (liftV gsTup1):=ok_is_tuple_of T D_is_tuple_of
 have c_are_gains:Cal l.prog w K mg base "are_gains" 3 ["thing","purses"] (liftV gsGains1):=ok_are_gains T D_are_gains c_is_tuple_of c_is_between
 have c_is_way:Cal l.prog w K mg base "is_way" 4 ["thing","rooms","purses"] (liftV gsIsWay1):=ok_is_way T D_is_way c_is_tuple_of c_is_between c_are_gains
 have c_is_book:Cal l.prog w K mg base "is_book" 5 ["thing"] (liftV gsIsBook1):=ok_is_book T D_is_book c_is_tuple_of c_is_between c_is_way
 have c_has_way:Cal l.prog w K mg base "has_way" 3 ["book","k"] (liftV gsHasWay):=ok_has_way T D_has_way c_is_between
 have c_is_walk:Cal l.prog w K mg base "is_walk" 4 ["book","some"] (liftV gsIsWalk1):=ok_is_walk T D_is_walk c_has_way
 have c_ends_of:Cal l.prog w K mg base "ends_of" 1 ["book","walk"] (liftV gsEndsW):=ok_ends_of T D_ends_of
 have c_is_made_as_word:Cal l.prog w K mg base "is_made_as_word" 4 ["thing","purses"] (liftV gsMadeW):=ok_is_made_as_word T D_is_made_as_word c_is_tuple_of c_are_gains
 have c_inner_words:Cal l.prog w K mg base "inner_words" 1 ["word"] (liftN gsInnerW):=ok_inner_words T D_inner_words
 have c_is_word:Cal l.prog w K mg base "is_word" 5 ["thing","purses"] (liftV gsIsWordW):=ok_is_word T D_is_word c_is_made_as_word c_inner_words
 have c_law_split:Cal l.prog w K mg base "_law_split" 3 ["jar","many"] (liftN gsSplit):=ok_law_split T D_law_split c_law_pick
 have c_law_word_of:Cal l.prog w K mg base "_law_word_of" 12 ["jar","purses","many","deep"] (liftV (gsWordOf 8)):=ok_law_word_of T D_law_word_of c_law_pick c_law_split 8
 have c_law_within:Cal l.prog w K mg base "_law_within" 11 ["word"] (liftV (gsWithin 10)):=ok_law_within T D_law_within 10
 have c_law_some_word:Cal l.prog w K mg base "_law_some_word" 13 ["jar"] (liftV gsSomeWord):=ok_law_some_word T D_law_some_word c_law_pick c_law_word_of c_law_within
 have c_every_pair:Cal l.prog w K mg base "every_pair" 1 ["lasts","firsts"] (liftN gsEvery):=ok_every_pair T D_every_pair
 have c_one_behind_other:Cal l.prog w K mg base "one_behind_other" 2 ["one","other"] (liftV gsBehindR):=ok_one_behind_other T D_one_behind_other c_every_pair
 have c_one_or_other:Cal l.prog w K mg base "one_or_other" 1 ["one","other"] (liftV gsEitherR):=ok_one_or_other T D_one_or_other
 have c_over_and_over:Cal l.prog w K mg base "over_and_over" 2 ["reading"] (liftV gsOverR):=ok_over_and_over T D_over_and_over c_every_pair
 have c_read_word:Cal l.prog w K mg base "read_word" 13 ["word","ahead"] (liftV (gsReadW 10)):=ok_read_word T D_read_word c_over_and_over c_one_behind_other c_one_or_other 10
 have c_word_book:Cal l.prog w K mg base "word_book" 14 ["word"] (liftV gsWordBook):=ok_word_book T D_word_book c_read_word c_every_pair
 have c_law_numbered:Cal l.prog w K mg base "_law_numbered" 11 ["word","first"] (liftV (gsNum 10)):=ok_law_numbered T D_law_numbered 10
 have c_law_row:Cal l.prog w K mg base "_law_row" 13 ["jar","word"] (liftV (gsRow 10)):=ok_law_row T D_law_row c_law_pick 10
 have c_law_over:Cal l.prog w K mg base "_law_over" 11 ["word","row","starts"] (liftV (gsOverL 10)):=ok_law_over T D_law_over 10
 have c_law_gone:Cal l.prog w K mg base "_law_gone" 3 ["jar","book","most"] (liftV gsGoneW):=ok_law_gone T D_law_gone c_law_pick
 exact ok_law T F4 c_law_jar c_law_pick c_law_some_word c_word_book c_law_numbered c_is_word c_is_book c_law_over c_law_row c_is_walk c_law_gone c_ends_of
theorem walk {l:PySem.W.OpenLaw}{q:Program}{loose:List Str}{XP:(Str→Option Value)→Heap→Prop}{YP:World→Heap→Prop}{d:DefRec}{K:Params→PySem.W.Frag}(hn:l.most=some 63) (hdf:d.params.defaults=[])
 (hY:∀ (w:World) (h:Heap),YP w h→(K w.params).In h)
 (F:∀ (w:World) (mg:Str→Option Value) (fa:Addr) (h:Heap),(K w.params).In h→h.Ns mainGlobals mg→mg d.name=some (.ref fa) →
  ∃ fd:FuncData,(∀ (s:Shared) (u:Value),BindsTo s fd ⟨[u],[]⟩ [("script",u)])∧∀ base:Heap,(K w.params).In base→base.Ns mainGlobals mg→FnOk l.prog w (K w.params) mg base CX0 30 fa fd ["script"] (spLaw (K w.params))) :
 PySem.W.WalkO q loose XP YP l.row.toRowW d [] (fun f vs=>PySem.call f vs):=
 L2.walk_of (n:=63) (k:=30) (x:="script") (CX:=fun _=>CX0) (sp:=fun w=>spLaw (K w.params)) hn (by decide) hdf ⟨rfl,by decide,by decide,rfl⟩ hY F (fun _ _ a ns hl _ hS=>⟨a,ns,rfl,hS,hl,fun _=>rfl⟩) fun _ _ _ _ _ z=>z
end My
theorem PySem.W.Fast.tw3790679452647129606 : True := trivial
theorem PySem.W.Fast.tw2982676413488893574 : True := trivial
theorem PySem.W.Fast.tw9756530081264098077 : True := trivial
theorem PySem.W.Fast.tw8993661179158217580 : True := trivial
theorem PySem.W.Fast.tw3831671924781703542 : True := trivial
theorem PySem.W.Fast.tw15518146264744911413 : True := trivial
theorem PySem.W.Fast.tw844056687351288892 : True := trivial
theorem PySem.W.Fast.tw1767104714439686132 : True := trivial
theorem PySem.W.Fast.tw2310985235188974088 : True := trivial
theorem PySem.W.Fast.tw14440215408172866154 : True := trivial
theorem PySem.W.Fast.tw4944715744257758151 : True := trivial
theorem PySem.W.Fast.tw11321802767696637573 : True := trivial
theorem PySem.W.Fast.tw4935823804125994805 : True := trivial
theorem PySem.W.Fast.tw17695064437081816874 : True := trivial
theorem PySem.W.Fast.tw7748514454291905365 : True := trivial
theorem PySem.W.Fast.tw1698818125059318444 : True := trivial
theorem PySem.W.Fast.tw5618463430202409252 : True := trivial
theorem PySem.W.Fast.tw11245344889997694921 : True := trivial
theorem PySem.W.Fast.tw12103559663315795257 : True := trivial
theorem PySem.W.Fast.tw6568618569512589904 : True := trivial
theorem PySem.W.Fast.tw12696849937090966644 : True := trivial
theorem PySem.W.Fast.tw10716490079451597738 : True := trivial
theorem PySem.W.Fast.tw12086185667392466539 : True := trivial
theorem PySem.W.Fast.tw15108397852705291888 : True := trivial
open PySem PySem.W PyProof.Rows
set_option maxRecDepth 100000 in
set_option maxHeartbeats 0 in
theorem PySem.Challenge.cw_fallsum_k65_whole_walks_are_rows_holds : PySem.Challenge.rw_fallsum_k65_whole_walks_are_rows.Holds := by
  w_on; o_law; k_head; (case hw => w_witness2)
  k_fill
  refine My.walk (l := PySem.Challenge.rw_fallsum_k65_whole_walks_are_rows) rfl rfl (fun w h Y => PySem.W.kIn_of Y) ?F
  case F =>
    intro w mg fa h KX G hmg
    refine' My.all_mk KX G hmg ⟨PySem.W.mg_none_of KX G ?z_isinstance, PySem.W.mg_none_of KX G ?z_int, PySem.W.mg_none_of KX G ?z_bool, PySem.W.mg_none_of KX G ?z_str, PySem.W.mg_none_of KX G ?z_tuple, PySem.W.mg_none_of KX G ?z_len, PySem.W.mg_none_of KX G ?z_all, PySem.W.mg_none_of KX G ?z_sum, PySem.W.mg_none_of KX G ?z_range, PySem.W.mg_none_of KX G ?z_list, PySem.W.mg_none_of KX G ?z_zip, PySem.W.mg_none_of KX G ?z_enumerate, PySem.W.mg_none_of KX G ?z_max, PySem.W.mg_none_of KX G ?z_repr, PySem.W.mg_none_of KX G ?z_sorted, PySem.W.mg_none_of KX G ?z_set, L2.gint_mk KX G ?g_MOST_GAIN, L2.gint_mk KX G ?g_MOST_ROOMS, L2.gint_mk KX G ?g_MOST_PURSES, L2.gint_mk KX G ?g_MOST_WAYS, L2.gint_mk KX G ?g_MOST_PUTS, L2.gint_mk KX G ?g_MOST_WITHIN⟩
      (L2.def_mk KX G ?a_law_mix ?l_law_mix ?c_law_mix ?k_law_mix (fun _ _ _ _ _ _ us hl => match us, hl with | [_], _ => rfl))
      (L2.def_mk KX G ?a_law_jar ?l_law_jar ?c_law_jar ?k_law_jar (fun _ _ _ _ _ _ us hl => match us, hl with | [_], _ => rfl))
      (L2.def_mk KX G ?a_law_pick ?l_law_pick ?c_law_pick ?k_law_pick (fun _ _ _ _ _ _ us hl => match us, hl with | [_, _], _ => rfl))
      (L2.def_mk KX G ?a_is_whole ?l_is_whole ?c_is_whole ?k_is_whole (fun _ _ _ _ _ _ us hl => match us, hl with | [_], _ => rfl))
      (L2.def_mk KX G ?a_is_between ?l_is_between ?c_is_between ?k_is_between (fun _ _ _ _ _ _ us hl => match us, hl with | [_, _, _], _ => rfl))
      (L2.def_mk KX G ?a_is_tuple_of ?l_is_tuple_of ?c_is_tuple_of ?k_is_tuple_of (fun _ _ _ _ _ _ us hl => match us, hl with | [_, _], _ => rfl))
      (L2.def_mk KX G ?a_are_gains ?l_are_gains ?c_are_gains ?k_are_gains (fun _ _ _ _ _ _ us hl => match us, hl with | [_, _], _ => rfl))
      (L2.def_mk KX G ?a_is_way ?l_is_way ?c_is_way ?k_is_way (fun _ _ _ _ _ _ us hl => match us, hl with | [_, _, _], _ => rfl))
      (L2.def_mk KX G ?a_is_book ?l_is_book ?c_is_book ?k_is_book (fun _ _ _ _ _ _ us hl => match us, hl with | [_], _ => rfl))
      (L2.def_mk KX G ?a_has_way ?l_has_way ?c_has_way ?k_has_way (fun _ _ _ _ _ _ us hl => match us, hl with | [_, _], _ => rfl))
      (L2.def_mk KX G ?a_is_walk ?l_is_walk ?c_is_walk ?k_is_walk (fun _ _ _ _ _ _ us hl => match us, hl with | [_, _], _ => rfl))
      (L2.def_mk KX G ?a_ends_of ?l_ends_of ?c_ends_of ?k_ends_of (fun _ _ _ _ _ _ us hl => match us, hl with | [_, _], _ => rfl))
      (L2.def_mk KX G ?a_is_made_as_word ?l_is_made_as_word ?c_is_made_as_word ?k_is_made_as_word (fun _ _ _ _ _ _ us hl => match us, hl with | [_, _], _ => rfl))
      (L2.def_mk KX G ?a_inner_words ?l_inner_words ?c_inner_words ?k_inner_words (fun _ _ _ _ _ _ us hl => match us, hl with | [_], _ => rfl))
      (L2.def_mk KX G ?a_is_word ?l_is_word ?c_is_word ?k_is_word (fun _ _ _ _ _ _ us hl => match us, hl with | [_, _], _ => rfl))
      (L2.def_mk KX G ?a_law_split ?l_law_split ?c_law_split ?k_law_split (fun _ _ _ _ _ _ us hl => match us, hl with | [_, _], _ => rfl))
      (L2.def_mk KX G ?a_law_word_of ?l_law_word_of ?c_law_word_of ?k_law_word_of (fun _ _ _ _ _ _ us hl => match us, hl with | [_, _, _, _], _ => rfl))
      (L2.def_mk KX G ?a_law_within ?l_law_within ?c_law_within ?k_law_within (fun _ _ _ _ _ _ us hl => match us, hl with | [_], _ => rfl))
      (L2.def_mk KX G ?a_law_some_word ?l_law_some_word ?c_law_some_word ?k_law_some_word (fun _ _ _ _ _ _ us hl => match us, hl with | [_], _ => rfl))
      (L2.def_mk KX G ?a_every_pair ?l_every_pair ?c_every_pair ?k_every_pair (fun _ _ _ _ _ _ us hl => match us, hl with | [_, _], _ => rfl))
      (L2.def_mk KX G ?a_one_behind_other ?l_one_behind_other ?c_one_behind_other ?k_one_behind_other (fun _ _ _ _ _ _ us hl => match us, hl with | [_, _], _ => rfl))
      (L2.def_mk KX G ?a_one_or_other ?l_one_or_other ?c_one_or_other ?k_one_or_other (fun _ _ _ _ _ _ us hl => match us, hl with | [_, _], _ => rfl))
      (L2.def_mk KX G ?a_over_and_over ?l_over_and_over ?c_over_and_over ?k_over_and_over (fun _ _ _ _ _ _ us hl => match us, hl with | [_], _ => rfl))
      (L2.def_mk KX G ?a_read_word ?l_read_word ?c_read_word ?k_read_word (fun _ _ _ _ _ _ us hl => match us, hl with | [_, _], _ => rfl))
      (L2.def_mk KX G ?a_word_book ?l_word_book ?c_word_book ?k_word_book (fun _ _ _ _ _ _ us hl => match us, hl with | [_], _ => rfl))
      (L2.def_mk KX G ?a_law_numbered ?l_law_numbered ?c_law_numbered ?k_law_numbered (fun _ _ _ _ _ _ us hl => match us, hl with | [_, _], _ => rfl))
      (L2.def_mk KX G ?a_law_row ?l_law_row ?c_law_row ?k_law_row (fun _ _ _ _ _ _ us hl => match us, hl with | [_, _], _ => rfl))
      (L2.def_mk KX G ?a_law_over ?l_law_over ?c_law_over ?k_law_over (fun _ _ _ _ _ _ us hl => match us, hl with | [_, _, _], _ => rfl))
      (L2.def_mk KX G ?a_law_gone ?l_law_gone ?c_law_gone ?k_law_gone (fun _ _ _ _ _ _ us hl => match us, hl with | [_, _, _], _ => rfl))
      ?a4 ?l4 ?c4 ?k4
    (case z_isinstance => k_is)
    (case z_int => k_is)
    (case z_bool => k_is)
    (case z_str => k_is)
    (case z_tuple => k_is)
    (case z_len => k_is)
    (case z_all => k_is)
    (case z_sum => k_is)
    (case z_range => k_is)
    (case z_list => k_is)
    (case z_zip => k_is)
    (case z_enumerate => k_is)
    (case z_max => k_is)
    (case z_repr => k_is)
    (case z_sorted => k_is)
    (case z_set => k_is)
    (case g_MOST_GAIN => k_is)
    (case g_MOST_ROOMS => k_is)
    (case g_MOST_PURSES => k_is)
    (case g_MOST_WAYS => k_is)
    (case g_MOST_PUTS => k_is)
    (case g_MOST_WITHIN => k_is)
    (case a_law_mix => k_is)
    (case l_law_mix => k_is)
    (case c_law_mix => k_is)
    (case k_law_mix => k_is)
    (case a_law_jar => k_is)
    (case l_law_jar => k_is)
    (case c_law_jar => k_is)
    (case k_law_jar => k_is)
    (case a_law_pick => k_is)
    (case l_law_pick => k_is)
    (case c_law_pick => k_is)
    (case k_law_pick => k_is)
    (case a_is_whole => k_is)
    (case l_is_whole => k_is)
    (case c_is_whole => k_is)
    (case k_is_whole => k_is)
    (case a_is_between => k_is)
    (case l_is_between => k_is)
    (case c_is_between => k_is)
    (case k_is_between => k_is)
    (case a_is_tuple_of => k_is)
    (case l_is_tuple_of => k_is)
    (case c_is_tuple_of => k_is)
    (case k_is_tuple_of => k_is)
    (case a_are_gains => k_is)
    (case l_are_gains => k_is)
    (case c_are_gains => k_is)
    (case k_are_gains => k_is)
    (case a_is_way => k_is)
    (case l_is_way => k_is)
    (case c_is_way => k_is)
    (case k_is_way => k_is)
    (case a_is_book => k_is)
    (case l_is_book => k_is)
    (case c_is_book => k_is)
    (case k_is_book => k_is)
    (case a_has_way => k_is)
    (case l_has_way => k_is)
    (case c_has_way => k_is)
    (case k_has_way => k_is)
    (case a_is_walk => k_is)
    (case l_is_walk => k_is)
    (case c_is_walk => k_is)
    (case k_is_walk => k_is)
    (case a_ends_of => k_is)
    (case l_ends_of => k_is)
    (case c_ends_of => k_is)
    (case k_ends_of => k_is)
    (case a_is_made_as_word => k_is)
    (case l_is_made_as_word => k_is)
    (case c_is_made_as_word => k_is)
    (case k_is_made_as_word => k_is)
    (case a_inner_words => k_is)
    (case l_inner_words => k_is)
    (case c_inner_words => k_is)
    (case k_inner_words => k_is)
    (case a_is_word => k_is)
    (case l_is_word => k_is)
    (case c_is_word => k_is)
    (case k_is_word => k_is)
    (case a_law_split => k_is)
    (case l_law_split => k_is)
    (case c_law_split => k_is)
    (case k_law_split => k_is)
    (case a_law_word_of => k_is)
    (case l_law_word_of => k_is)
    (case c_law_word_of => k_is)
    (case k_law_word_of => k_is)
    (case a_law_within => k_is)
    (case l_law_within => k_is)
    (case c_law_within => k_is)
    (case k_law_within => k_is)
    (case a_law_some_word => k_is)
    (case l_law_some_word => k_is)
    (case c_law_some_word => k_is)
    (case k_law_some_word => k_is)
    (case a_every_pair => k_is)
    (case l_every_pair => k_is)
    (case c_every_pair => k_is)
    (case k_every_pair => k_is)
    (case a_one_behind_other => k_is)
    (case l_one_behind_other => k_is)
    (case c_one_behind_other => k_is)
    (case k_one_behind_other => k_is)
    (case a_one_or_other => k_is)
    (case l_one_or_other => k_is)
    (case c_one_or_other => k_is)
    (case k_one_or_other => k_is)
    (case a_over_and_over => k_is)
    (case l_over_and_over => k_is)
    (case c_over_and_over => k_is)
    (case k_over_and_over => k_is)
    (case a_read_word => k_is)
    (case l_read_word => k_is)
    (case c_read_word => k_is)
    (case k_read_word => k_is)
    (case a_word_book => k_is)
    (case l_word_book => k_is)
    (case c_word_book => k_is)
    (case k_word_book => k_is)
    (case a_law_numbered => k_is)
    (case l_law_numbered => k_is)
    (case c_law_numbered => k_is)
    (case k_law_numbered => k_is)
    (case a_law_row => k_is)
    (case l_law_row => k_is)
    (case c_law_row => k_is)
    (case k_law_row => k_is)
    (case a_law_over => k_is)
    (case l_law_over => k_is)
    (case c_law_over => k_is)
    (case k_law_over => k_is)
    (case a_law_gone => k_is)
    (case l_law_gone => k_is)
    (case c_law_gone => k_is)
    (case k_law_gone => k_is)
    (case a4 => k_is)
    (case l4 => k_is)
    (case c4 => k_is)
    (case k4 => k_is)
