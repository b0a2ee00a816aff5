import PyProof.Rows.All
import Wide.All
import OpenK.AllK
import Wide.FinOn
import Lean
import PyProof.EqAt
import PyProof.EqKinds
import PyProof.TupleCall
import KE.KTryMore
import OpenK.KOwn
import PyProof.Rows.CatchOwn
import PyProof.StrLawsTight
import PyProof.StrLawsJoin
import PyProof.ExcInit
import PyProof.ExcClass2
import PyProof.InstStore
import PyProof.AttrMissSeq
import PySem.Challenge.RW_fallsum_k50_how_often
set_option Elab.async false
set_option linter.all false
set_option maxRecDepth 100000
section
open Or renaming inl->Qa,inr->Qv
open List renaming length_map->Qb,getD_eq_getElem?_getD->Qd,range->Qf,getElem?_eq_getElem->Qg,mem_cons->Qh,getElem?_map->Qk,mem_cons_of_mem->Ql,mem_cons_self->Qn,mem_map->Qo,replicate->Qp,length_set->Qq,getElem?_eq_some_iff->Qs,mem_singleton->Qu,length_range->Qw,getElem?_eq_none->Qx,map_map->Q0,size_toArray->Q3,mem_range->Q5,getElem?_set_ne->Q6,getElem_mem->Q8,getElem?_set_self->Q9,map_cons->Xa,mem_append_right->Xf,map_append->Xg,getElem?_range->Xi,mem_append->Xk,mem_append_left->Xn,mem_of_getElem?->Xo,length_append->Xp,ext_getElem?->Xv,nodup_cons->Xz,length_cons->X2,length_replicate->X3,not_mem_nil->X4,map_set->X5,all_eq_true->X7,mem_filter->X8,length_eraseIdx_of_lt->Uc,mem_iff_getElem?->Uj,getElem?_append_left->Up,lookup_cons->Uw,map_congr_left->U0,append_nil->U3,getElem?_replicate->U4,replicate_succ->U6,of_mem_zip->J1o,getElem?_append_right->J1p,lookup->J1v,flatten_cons->J1x,length_singleton->J1y,map_take->J10,range_succ->J13,getElem?_zipWith->J15,getElem?_set->J16,map_replicate->J17,map_nil->J2c,all_cons->J2d,cons_append->J2j,map_singleton->J2l,length->J2z,length_take->J20,length_drop->J21,any_cons->J23,foldl->J24,zipWith->J28,map_drop->J3a,length_pos_iff->J3d,mem_replicate->J3g,getElem?_eraseIdx->J3h,nil_append->J3t,mem_iff_getElem->J3v,take_of_length_le->J3w,length_eq_zero_iff->J34,sum_append->J35,getElem?_mapIdx->J36,length_zipWith->J37,filterMap_cons->J4h,getElem_inj->J4i,forIn_cons->J4y,getElem?_drop->J4z,forIn_nil->J49,drop_eq_getElem_cons->J5h,drop_length->J5i,nodup_append->J5k,pairwise_iff_getElem->J5l,take_add_one->J5n,sum_singleton->J5o,pairwise_map->J5q,zip_cons_cons->J5s,length_zip->J5y,range_add->J50,take_length->J55,filter_eq_nil_iff->J56,set_comm->J6d,mem_filterMap->J6e,drop_of_length_le->J64,dropLast_concat_getLast->J65,length_mapIdx->J67,getLast?_eq_getElem?->J68,range_succ_eq_map->J69,filter_cons_of_pos->J7a,filter_cons_of_neg->J7b,getElem?_of_mem->J7f,zipWith_cons_cons->J7g,lookup_cons_self->J7h,set_set->J7i,sum_cons->J7n,mem_of_mem_take->J7w,mem_of_mem_drop->J7x,nodup_range->J7y,map_zipWith->J71,take_range->J72,any_eq_true->J73,map_const'->J74
open PySem.W renaming Frag->Qc,fnOf->X0,findIn->Ue,keepIn->Uf,kia_one->Uo,emptyDict->U2,instObj->U8,codeIn->J1q,isFn->J2y,lookIn->J3m,plainGet->J3n,methodObj->J4g,hasDictIn->J4m,plainGet_of->J4n,takerIn->J4o,makesIn->J4p,kitOne->J4q,callWith_K->J4t,OpenLaw->J4x,nsIn->J46,mg_of->J47,handedIn->J6f,plainOver->J6g,kitx_list->J6h,kitx_dict->J6i,methodCall_KW->J6j,cellsFrom_some->J6k,WalkO->J6p
open PySem.PyData renaming int->Qi,eqv->X6,canLay0->Ub,canLayAll0->Ui,list->Ur,tuple->Us,depthAll->J11,weightAll->J12,intsShortAll->J2g,showableAll->J2h,depth->J32,showable->J5b,weight->J5c,bool->J5g,intsShort->J62,eqvAll->J7d
open Ne renaming symm->Qj
open Nat renaming le_refl->Qm,lt_of_lt_of_le->Qz,le_of_ble_eq_true->Q1,lt_irrefl->Q4,le_trans->Xc,ne_of_lt->Xe,zero_le->Xu,gcd->Xx,lt_of_le_of_lt->Ug,le_of_lt->Um,lt_or_ge->Uq,le_of_not_lt->J2e,not_lt_zero->J2i,ne_of_gt->J2v,lt_succ_of_lt->J27,le_add_right->J3c,pow_le_pow_right->J3e,two_pow_pos->J3j,le_of_eq->J3o,lt_succ_self->J3p,log2_lt->J3x,min_eq_left->J33,mul_le_mul->J4d,le_succ->J4u,mul_comm->J4v,mul_le_mul_left->J5d,le_total->J5e,le_of_succ_le->J5f,min_le_left->J5j,lt_succ_iff_lt_or_eq->J5r,lt_trichotomy->J5t,lt_of_succ_lt->J5x,min_eq_right->J63,add_mul_mod_self_left->J7j,mod_eq_of_lt->J7k,dvd_trans->J7l,gcd_zero_left->J7v
open PySem.Heap renaming lt_size->Qr,get?_push_of_some->Qt,get?_push_size->Xd,size_push->Xy,SameBut->X1,get?_update_other->U5,get?_update_self->J3r
open Int renaming toNat_natCast->Qy,mul_comm->Xb,natCast_nonneg->Xj,mul_zero->Xl,mul_assoc->Xq,zero_mul->Xs,le_refl->Uk,mul_left_comm->Ut,one_mul->Uu,natAbs_of_nonneg->Uy,toNat_of_nonneg->Uz,emod_nonneg->J1s,lt_or_le->J14,emod_lt_of_pos->J19,zero_add->J2k,mul_add->J2m,add_zero->J2n,mul_neg->J2o,natAbs_mul->J2p,le_of_lt->J2q,mul_one->J2x,sub_zero->J3i,nonneg_of_mul_nonneg_right->J3k,neg_mul->J4a,ne_of_gt->J4b,sub_mul->J4c,mul_le_mul_of_nonneg_right->J42,natCast_mul->J43,toNat->J5p,eq_of_mul_eq_mul_left->J5u,mul_sub->J5z,pos_of_mul_pos_right->J51,mul_eq_zero->J52,mul_nonpos_of_nonpos_of_nonneg->J53,mul_pos->J54,lt_of_le_of_lt->J6t,ofNat_dvd_left->J7m,natAbs_neg->J7r,zero_ediv->J7t,mul_nonneg->J7u
open PySem.Value renaming ref->Q2,none->Ul,int->Uv,bool->J1u,str->J2a,type->J2b,float->J4e,bytes->J59
open Bool renaming false_ne_true->Q7,and_eq_true->Ua,eq_iff_iff->U1,false_eq_true->J26,or_eq_true->J3f,false_and->J3l,and_true->J31,or_false->J39,true_and->J5m,noConfusion->J6u,or_true->J66,true_or->J7z,false_or->J70
open PySem.PassesOwn renaming never->Xh
open PySem renaming boot_len->Xm,mem_of_lookup->Xt,Within->J4f,call->J4w,seqSlot_of->J40,Value->J8i,PyData->J8j,Shared->J8k,wpAny->J8l,World->J8m,Program->J8n,Around->J8o,sizeLine_eq->J8p,Scope->J8q,IsPair->J8r,NameKind->J8s,FuncData->J8t,IsZip->J8u,mainGlobals->J8v,codeAny->J8w,standAt->J8y,wpAny_loadPart'->J80,Result->J81,wpAny_passesOwn->J84,callerA->J85,wpAny_ite_false->J86,seqItems?->J87,bootBuiltins->J88,swapsWith->J89,BindsTo->J9a,bindArgs->J9b,wpAny_Call_Name_kw->J9c,Keyword->J9d,closureFor->J9f,builtinsNs->J9h,Operator->J9i,foldedSetIterable->J9j,IntMulOk->J9k,wpAny_execs_nil->J9m,behindInMarks->J9n,attributeBase->J9o,nums_intItems->J9p,wpAny_callSpecial?_slot->J9q,intItems_at->J9r,wpAny_assign_Name->J9s,rangeSize_one->J9t,seqIndex_neg->J9u,codeAny_builtin->J9v,wpAny_binaryOp_repeat_ref->J9x,codeAny_compStart_list->J9y,exec_Assign_Name_used->J9z
open Option.some renaming inj->Xr
open Option renaming some_ne_none->Xw,map_eq_some_iff->U7
open False renaming elim->X9
open Sum renaming inr->Ud,inl->J1t
open PySem.NameKind renaming free->Uh,cell->Ux
open PyProof.Rows renaming callWith_type1->U9,boot_tuple->J8x,AllBare->J8z,boot_list->J82,boot_isinstance->J83,IntsAre->J9e,boot_min->J9g,boot_int->J9l,subscriptTail_builtinR->J9w
open PySem.Builtin.SmallTypes renaming nextOf->J1r,ownedTupleIsFree->J3z,ownedTupleHandOut->J6z
open True renaming intro->J1w
open PySem.AutoSeq1 renaming wpAny_loadPart'->J1z,idx_int->J41
open PySem.F renaming plain_min_loop->J18,plainAttrs_list->J2s,slot_list_append->J2t,type_list_append->J2u,slot_tuple_mul->J29,slot_tuple_iterator_next->J3y,slot_zip_next->J30,entry_tuple_mul->J44,args_tuple_mul_2->J45,entry_min_loop->J5v,slot_tuple_add->J6l,entry_tuple_add->J6m,args_tuple_add_2->J6n,slot_int_rmul->J6o,slot_tuple_rmul->J6q,slot_int_rmul->J6s,entry_tuple_iterator_next->J6x,args_tuple_iterator_next_1->J6y,entry_zip_next->J60,args_zip_next_1->J61,slot_tuple_lt->J7o,slot_list_iadd->J7q
open ForInStep renaming yield->J2f
open Classical renaming byContradiction->J2r
open PySem.Data renaming cell->J2w,seq->J25,fields->J4k
open PySem.Obj renaming mapSeq->J22,data_mapFields->J6v
open PySem.Str renaming ofString->J3b
open PySem.Around renaming under->J3q,under_plainId->J5w
open PySem.Builtin.List renaming listTooLong->J3s
open Eq renaming trans->J3u
open PySem.Builtin.Int renaming intBits->J38
open PyProof.Rows.IsTup renaming new->J4j
open PySem.IsRange renaming new->J4l
open PySem.Calls renaming spliced_nil->J4r,spliced_cons->J4s,Name_function_global->J6b
open PySem.Shared renaming heap->J48
open Array renaming getElem?_eq_getElem->J5a,toList->J6c
open PySem.SeqAt.EqAt renaming int_str->J57,str_int->J58
open PySem.Paired renaming length->J6a
open PySem.Builtin.Tuple renaming tupleTooMany->J6r
open PySem.Heap.SameBut renaming update->J6w
open PySem.SeqAt renaming eqv_refl->J7c
open List.Pairwise renaming imp_of_mem->J7e,nil->J8g
open PySem.Builtin.Builtins renaming bindParams->J7p
open PySem.BindsTo renaming of_defaults->J7s
open PySem.Builtin.Range renaming rangeSize->J75
open PySem.EqMixed renaming eq_bool_str->J76,eq_int_str->J77,eq_str_bool->J78,eq_str_int->J79,ne_bool_str->J8a,ne_int_str->J8b,ne_str_bool->J8c,ne_str_int->J8d
open PySem.W.Looks renaming here->J8e
open PySem.Heap.IsSliceOf renaming new->J8f
open PySem.Challenge renaming pw_fallsum_k50_how_often->J8h
open PySem PySem.Spec PyProof.Rows
namespace L2
abbrev Key:=Sum Int Str
noncomputable def Jvy:Key->J8i->Bool
 | .inl k,v=>Value.isInt k v
 | .inr x,v=>Value.isStrOf x v
noncomputable def J0o (w:J8m):Key->Int
 | .inl k=>hashInt k
 | .inr x=>hashStr w x
theorem Zn:∀ {k:Key}{v:J8i},Jvy k v=true->(∃ i t,k=J1t i/\v=Uv i t)\/(∃ x t,k=Ud x/\v=J2a x t)
 | .inl i,v,h=>by
  obtain ⟨t,e⟩:=Value.isInt_shape (k:=i) (v:=v) h
  exact .inl ⟨i,t,rfl,e⟩
 | .inr x,v,h=>by
  obtain ⟨t,e⟩:=Value.isStrOf_shape (x:=x) (v:=v) h
  exact .inr ⟨x,t,rfl,e⟩
theorem Jw2 (a b:Int):decide ((J1t a:Key)=J1t b)=(a==b):=by
 by_cases e:a=b
 . subst e;simp
 . have h:¬ (J1t a:Key)=J1t b:=λ q=>e (J1t.inj q)
   rw [decide_eq_false h]
   exact (beq_eq_false_iff_ne.mpr e).symm
theorem Jw3 (a b:Str):decide ((Ud a:Key)=Ud b)=decide (a=b):=by
 by_cases e:a=b
 . subst e;simp
 . have h:¬ (Ud a:Key)=Ud b:=λ q=>e (Ud.inj q)
   rw [decide_eq_false h,decide_eq_false e]
theorem Jw4 (a:Int) (b:Str):decide ((J1t a:Key)=Ud b)=false:=decide_eq_false (λ q=>nomatch q)
theorem Jw5 (a:Str) (b:Int):decide ((Ud a:Key)=J1t b)=false:=decide_eq_false (λ q=>nomatch q)
noncomputable def Jka (prog:J8n) (w:J8m):PySem.KeyKind prog w Key where
 is:=Jvy
 hash:=J0o w
 inj:=λ v a b ha hb=>by
  rcases Zn ha with ⟨i,t,rfl,rfl⟩ | ⟨x,t,rfl,rfl⟩
  . rcases Zn hb with ⟨j,u,rfl,e⟩ | ⟨y,u,rfl,e⟩
    . injection e with e1 _;rw [e1]
    . exact nomatch e
  . rcases Zn hb with ⟨j,u,rfl,e⟩ | ⟨y,u,rfl,e⟩
    . exact nomatch e
    . injection e with e1 _;rw [e1]
 byValue:=λ k v h=>by
  rcases Zn h with ⟨i,t,rfl,rfl⟩ | ⟨x,t,rfl,rfl⟩<;>rfl
 pyHash:=λ hv h=>by
  rcases Zn hv with ⟨i,t,rfl,rfl⟩ | ⟨x,t,rfl,rfl⟩
  . exact wpAny_pyHash_int h
  . exact wpAny_pyHash_str h
 eqBool:=λ hu hv h=>by
  rcases Zn hu with ⟨i,t,rfl,rfl⟩ | ⟨x,t,rfl,rfl⟩
  . rcases Zn hv with ⟨j,u,rfl,rfl⟩ | ⟨y,u,rfl,rfl⟩
    . rw [Jw2] at h;exact wpAny_eqBool_int h
    . rw [Jw4] at h;exact J57 i t y u _ _ _ _ h
  . rcases Zn hv with ⟨j,u,rfl,rfl⟩ | ⟨y,u,rfl,rfl⟩
    . rw [Jw5] at h;exact J58 x t j u _ _ _ _ h
    . rw [Jw3] at h;exact wpAny_eqBool_str h
 «strs»:=λ k x t v h=>by
  rcases Zn h with ⟨i,u,rfl,e⟩ | ⟨y,u,rfl,e⟩
  . exact nomatch e
  . injection e with e1 _
    subst e1
    cases v<;>rfl
inductive V where
 | non | bl (b:Bool) | int (i:Int) | str (x:Str) | byt (b:Array UInt8) | flt (b:UInt64) | ref (a:Addr) | ty (n:String)
 deriving DecidableEq
def Y3:V->J8i->Prop
 | .non,u=>u=Ul
 | .bl b,u=>u=J1u b
 | .int i,u=>∃ t,u=Uv i t
 | .str x,u=>∃ t,u=J2a x t
 | .byt b,u=>∃ t,u=J59 b t
 | .flt b,u=>∃ t,u=J4e b t
 | .ref a,u=>u=Q2 a
 | .ty n,u=>u=J2b n
abbrev Yg:List V->List J8i->Prop:=Paired Y3
theorem Yg.length {xs:List V}{us:List J8i}(r:Yg xs us):xs.length=us.length:=J6a r
theorem Yg.get:∀ {xs:List V}{us:List J8i}{i:Nat}{x:V},Yg xs us->xs[i]? = some x->∃ u,us[i]? = some u/\Y3 x u
 | _,_,_,_,.nil,e=>by simp at e
 | _,_,0,_,.cons r _,e=>by simp at e;subst e;exact ⟨_,rfl,r⟩
 | _,_,i+1,x,.cons _ t,e=>by
  obtain ⟨u,h1,h2⟩:=Yg.get (i:=i) (x:=x) t (by simpa using e)
  exact ⟨u,by simpa using h1,h2⟩
theorem Yg.set {x:V}{u:J8i}(r:Y3 x u):∀ {xs:List V}{us:List J8i}(i:Nat),Yg xs us->Yg (xs.set i x) (us.set i u)
 | _,_,_,.nil=>.nil
 | _,_,0,.cons _ t=>.cons r t
 | _,_,i+1,.cons q t=>.cons q (Yg.set r i t)
theorem Yg.append:∀ {xs ys:List V}{us ws:List J8i},Yg xs us->Yg ys ws->Yg (xs++ys) (us++ws)
 | _,_,_,_,.nil,s=>s
 | _,_,_,_,.cons r t,s=>.cons r (Yg.append t s)
theorem Yg.take:∀ {xs:List V}{us:List J8i}(n:Nat),Yg xs us->Yg (xs.take n) (us.take n)
 | _,_,0,_=>.nil
 | _,_,_+1,.nil=>.nil
 | _,_,n+1,.cons r t=>.cons r (Yg.take n t)
theorem Yg.drop:∀ {xs:List V}{us:List J8i}(n:Nat),Yg xs us->Yg (xs.drop n) (us.drop n)
 | _,_,0,r=>r
 | _,_,_+1,.nil=>.nil
 | _,_,n+1,.cons _ t=>Yg.drop n t
def Ji2:Option V->Option J8i->Prop
 | some v,some u=>Y3 v u
 | none,none=>True
 | _,_=>False
def KV {κ:Type}:List (κ×V)->List (κ×J8i)->Prop:=Paired λ (p:κ×V) (q:κ×J8i)=>p.1=q.1/\Y3 p.2 q.2
noncomputable def kV:Key->V
 | .inl i=>.int i
 | .inr x=>.str x
inductive HO where
 /-- a list -/
 | lst (xs:List V)
 /-- a tuple (never changes) -/
 | tup (xs:List V)
 /-- a dict whose keys are ints and texts;one whose keys are tuples of ints and texts (the empty one is both) -/
 | dK (kvs:List (Key×V)) | dT (kvs:List (List Key×V))
 /-- a set of ints: its members,its size -/
 | set (S:Int->Bool) (n:Nat)
 /-- an instance of the class at C,its dict at dx,its attributes -/
 | ins (C dx:Addr) (fs:List (Str×V))
 /-- the dict of the instance at x -/
 | own (x:Addr)
 /-- the dict of an exception -/
 | xd (fs:List (Str×V))
 /-- a bound method,f of x -/
 | met (f x:Addr)
 /-- a range object lo,lo+1,.. below hi -/
 | rng (lo hi:Int)
 /-- a thing that is known to the object (the script;a dict while a loop walks it): read,never written while it is so -/
 | frz (o:Obj) (u:HO)
 /-- a code object's table -/
 | tbl (ps:Array J8i)
 /-- any other thing,by what is true of its one object (a def of one's own: SetO a S n:=HO.ext λ h=>..) -/
 | ext (φ:Heap->Prop)
abbrev Hp:=Addr->Option HO
noncomputable def upd (H:Hp) (a:Addr) (o:HO):Hp:=λ b=>if b=a then some o else H b
theorem Jj {H:Hp}{a:Addr}{o:HO}:upd H a o a=some o:=by unfold upd;rw [if_pos rfl]
theorem Jh {H:Hp}{a b:Addr}{o:HO}(h:b≠a):upd H a o b=H b:=by unfold upd;rw [if_neg h]
theorem Jgv {H:Hp}{a:Addr}{o u:HO}:upd (upd H a o) a u=upd H a u:=by
 funext b;unfold upd;split<;>rfl
theorem Jx {H:Hp}{a b:Addr}{o:HO}(h:H a=some o) (h':H b=none):a≠b:=by
 intro e;subst e;rw [h] at h';cases h'
section
variable (P:J8n) (w:J8m)
def Zx (H:Hp) (h:Heap) (a:Addr):HO->Prop
 | .lst xs=>xs.length<=sizeLine/\∃ (its:List J8i) (n:Nat),Yg xs its/\h.get? a=some { cls:=.type "list",data:=.seq its.toArray n }
 | .tup xs=>xs.length<=sizeLine/\∃ its:List J8i,Yg xs its/\IsTup h a its.toArray
 | .dK kvs=>kvs.length<=sizeLine/\(a==sysModules)=false/\∃ vs,KV kvs vs/\h.DictOf (Jka P w) a vs
 | .dT kvs=>kvs.length<=sizeLine/\(a==sysModules)=false/\∃ xs:List (List Key×Addr×J8i),
  Paired (λ (p:List Key×V) (q:List Key×Addr×J8i)=>p.1=q.1/\H q.2.1=some (.tup (p.1.map kV))/\Y3 p.2 q.2.2) kvs xs /\
  ∃ o es ep,h.get? a=some o/\o.ExactDict/\o.data = .dict es ep/\es.toList=xs.map (entryOfKey (tupleKind (Jka P w)))/\(xs.map (·.1)).Nodup
 | .set S n=>h.SetOf (intKind P w) a S n
 | .ins C dx fs=>H dx=some (.own a)/\fs.length<=1000/\dx≠a/\h.get? a=some (U8 C dx) /\
  ∃ mA,h.Ns1 dx mA/\(∀ f,Ji2 (fs.lookup f) (mA f))/\J4f mA (fs.map (·.1))
 | .own _=>∃ o,h.get? a=some o
 | .xd fs=>∃ mA,h.Ns1 a mA/\∀ f,Ji2 (fs.lookup f) (mA f)
 | .rng lo hi=>∃ t u v,h.get? a=some { cls:=.type "range",data:=.fields #[.int lo t,.int hi u,.int 1 v] }
 | .frz o u=>h.get? a=some o/\Zx H h a u
 | .tbl ps=>h.get? a=some { cls:=.none,data:=.fields ps }
 | .met f x=>h.get? a=some (J4g (.ref f) (.ref x))
 | .ext φ=>φ h/\(∃ o,h.get? a=some o)/\∀ h1 h2:Heap,φ h1->(∀ o,h1.get? a=some o->h2.get? a=some o)->φ h2
def HOk (H:Hp) (h:Heap):Prop:=∀ a o,H a=some o->Zx P w H h a o
end
section
variable {P:J8n}{w:J8m}{H H':Hp}{h h':Heap}{a:Addr}{o:HO}
theorem Zx.lt (x:Zx P w H h a o):a<h.objs.size:=by
 cases o with
 | lst xs=>obtain ⟨_,_,_,_,e⟩:=x;exact Qr e
 | tup xs=>obtain ⟨_,_,_,p⟩:=x;exact p.lt
 | dK kvs=>obtain ⟨_,_,_,_,o,_,_,e,_⟩:=x;exact Qr e
 | dT kvs=>obtain ⟨_,_,_,_,o,_,_,e,_⟩:=x;exact Qr e
 | set S n=>obtain ⟨o,_,_,_,e,_⟩:=x;exact Qr e
 | ins C dx fs=>obtain ⟨_,_,_,e,_⟩:=x;exact Qr e
 | own y=>obtain ⟨_,e⟩:=x;exact Qr e
 | xd fs=>obtain ⟨_,⟨_,_,_,e,_⟩,_⟩:=x;exact Qr e
 | rng lo hi=>obtain ⟨_,_,_,e⟩:=x;exact Qr e
 | frz ob u=>obtain ⟨e,_⟩:=x;exact Qr e
 | tbl ps=>exact Qr (show h.get? a=some _ from x)
 | met f y=>exact Qr (show h.get? a=some _ from x)
 | ext φ=>obtain ⟨_,⟨_,e⟩,_⟩:=x;exact Qr e
theorem Paired.mapP {α β:Type}{F G:α->β->Prop}:∀ {l₁:List α}{l₂:List β},Paired F l₁ l₂->(∀ a b,F a b->G a b)->Paired G l₁ l₂
 | _,_,.nil,_=>.nil
 | _,_,.cons r t,f=>.cons (f _ _ r) (Paired.mapP t f)
theorem Zx.stay (x:Zx P w H h a o) (k:∀ b u,(b=a\/H b=some (.own a))->h.get? b=some u->h'.get? b=some u)
 (ho:∀ b,H b=some (.own a)->H' b=some (.own a)) (ht:∀ b xs,H b=some (.tup xs)->H' b=some (.tup xs)):Zx P w H' h' a o:=by
 induction o with
 | lst xs=>obtain ⟨z,its,n,r,e⟩:=x;exact ⟨z,its,n,r,k _ _ (.inl rfl) e⟩
 | tup xs=>obtain ⟨z,its,r,ob,e,c⟩:=x;exact ⟨z,its,r,ob,k _ _ (.inl rfl) e,c⟩
 | dK kvs=>obtain ⟨z,y,vs,r,ob,es,ep,e,c⟩:=x;exact ⟨z,y,vs,r,ob,es,ep,k _ _ (.inl rfl) e,c⟩
 | dT kvs=>
  obtain ⟨z,y,xs,r,ob,es,ep,e,c⟩:=x
  exact ⟨z,y,xs,Paired.mapP r λ p q z=>⟨z.1,ht _ _ z.2.1,z.2.2⟩,ob,es,ep,k _ _ (.inl rfl) e,c⟩
 | set S n=>obtain ⟨ob,es,ep,t,e,c⟩:=x;exact ⟨ob,es,ep,t,k _ _ (.inl rfl) e,c⟩
 | ins C dx fs=>
  obtain ⟨d,z,ne,e,mA,⟨od,es,ep,e2,c⟩,r⟩:=x
  exact ⟨ho _ d,z,ne,k _ _ (.inl rfl) e,mA,⟨od,es,ep,k _ _ (.inr d) e2,c⟩,r⟩
 | own y=>obtain ⟨ob,e⟩:=x;exact ⟨ob,k _ _ (.inl rfl) e⟩
 | xd fs=>obtain ⟨mA,⟨od,es,ep,e,c⟩,r⟩:=x;exact ⟨mA,⟨od,es,ep,k _ _ (.inl rfl) e,c⟩,r⟩
 | rng lo hi=>obtain ⟨t,u,v,e⟩:=x;exact ⟨t,u,v,k _ _ (.inl rfl) e⟩
 | frz ob u ih=>obtain ⟨e,q⟩:=x;exact ⟨k _ _ (.inl rfl) e,ih q⟩
 | tbl ps=>
  have e:h.get? a=some { cls:=.none,data:=.fields ps }:=x
  show h'.get? a=some { cls:=.none,data:=.fields ps }
  exact k a _ (.inl rfl) e
 | met f y=>
  have e:h.get? a=some (J4g (.ref f) (.ref y)):=x
  show h'.get? a=some (J4g (.ref f) (.ref y))
  exact k a _ (.inl rfl) e
 | ext φ=>obtain ⟨p,⟨o,e⟩,st⟩:=x;exact ⟨st _ _ p λ o q=>k _ _ (.inl rfl) q,⟨o,k _ _ (.inl rfl) e⟩,st⟩
theorem HOk.lt (x:HOk P w H h) (e:H a=some o):a<h.objs.size:=(x a o e).lt
theorem HOk.fresh (x:HOk P w H h) (e:h.objs.size<=a):H a=none:=by
 cases q:H a with
 | none=>rfl
 | some u=>exact absurd (Qz (x.lt q) e) (Q4 _)
theorem HOk.kept (x:HOk P w H h) (k:∀ b u,h.get? b=some u->h'.get? b=some u):HOk P w H h':=λ a o e=>
 (x a o e).stay (λ b u _ q=>k b u q) (λ _ q=>q) λ _ _ q=>q
theorem HOk.laid (x:HOk P w H h) (k:∀ b u,h.get? b=some u->h'.get? b=some u) (hp:h.objs.size<=a) (new:Zx P w (upd H a o) h' a o):HOk P w (upd H a o) h':=λ b u e=>by
 have hn:=x.fresh hp
 by_cases hb:b=a
 . subst hb;rw [Jj] at e;cases e;exact new
 . rw [Jh hb] at e
   exact (x b u e).stay (λ c v _ q=>k c v q) (λ c q=>by rw [Jh (Jx q hn)];exact q) λ c xs q=>by rw [Jh (Jx q hn)];exact q
end
def Rd (H:Hp) (a:Addr) (u:HO):Prop:=H a=some u\/∃ o,H a=some (.frz o u)
theorem Rd.ok {P:J8n}{w:J8m}{H:Hp}{h:Heap}{a:Addr}{u:HO}(r:Rd H a u) (x:HOk P w H h):Zx P w H h a u:=by
 rcases r with r | ⟨o,r⟩
 . exact x a u r
 . obtain ⟨_,q⟩:=x a _ r
   exact q
def Mut:Option HO->Prop
 | some (.lst _)=>True
 | some (.dK _)=>True
 | some (.dT _)=>True
 | some (.set _ _)=>True
 | some (.ins _ _ _)=>True
 | some (.ext _)=>True
 | _=>False
section
variable {P:J8n}{w:J8m}{H:Hp}{h h':Heap}{x e:Addr}{o':HO}
theorem HOk.write (ok:HOk P w H h) (mu:Mut (H x)) (he:e=x\/H e=some (.own x)) (k:∀ b u,b≠e->h.get? b=some u->h'.get? b=some u) (heo:∃ u,h'.get? e=some u)
 (new:Zx P w (upd H x o') h' x o'):HOk P w (upd H x o') h':=λ b u q=>by
 have nown:∀ c y,H c=some (.own y)->c≠x:=λ c y r z=>by subst z;rw [r] at mu;exact mu
 have ntup:∀ c xs,H c=some (.tup xs)->c≠x:=λ c xs r z=>by subst z;rw [r] at mu;exact mu
 by_cases hb:b=x
 . subst hb;rw [Jj] at q;cases q;exact new
 . rw [Jh hb] at q
   by_cases hbe:b=e
   . have q':H b=some (.own x):=by
      rcases he with z | z
      . exact absurd (hbe.trans z) hb
      . rw [hbe];exact z
     rw [q] at q';cases q'
     obtain ⟨v,hv⟩:=heo
     exact ⟨v,by rw [hbe];exact hv⟩
   . refine (ok b u q).stay (λ c v hc r=>k c v ?_ r) (λ c r=>by rw [Jh (nown c b r)];exact r) λ c xs r=>by rw [Jh (ntup c xs r)];exact r
     rcases hc with rfl | hc
     . exact hbe
     . rintro rfl
       rcases he with z | z
       . exact nown c b hc z
       . rw [hc] at z;cases z;exact hb rfl
end
structure Un (fs ex:List Addr) (H H':Hp) (h h':Heap):Prop where
 keep:∀ b o,h.get? b=some o->H b=none->b∉fs->b∉ex->h'.get? b=some o
 slot:∀ b o,h.get? b=some o->H b=none->b∈fs->b∉ex->∃ sl,h'.get? b=some { o with slots:=sl }
 free:∀ b o,h.get? b=some o->H b=none->b∉ex->H' b=none
 there:∀ b o,h.get? b=some o->b∉ex->∃ o',h'.get? b=some o'
 tups:∀ b xs,H b=some (.tup xs)->H' b=some (.tup xs)
 frzs:∀ b o u,H b=some (.frz o u)->H' b=some (.frz o u)
 tbls:∀ b ps,H b=some (.tbl ps)->∃ more,H' b=some (.tbl (ps++more))
section
variable {fs fs' ex ex':List Addr}{H H1 H2:Hp}{h h1 h2 h':Heap}{a x e:Addr}{o:HO}
theorem Un.any (u:Un fs ex H H1 h h1) {b:Addr}{ob:Obj}(q:h.get? b=some ob) (n:H b=none) (hx:b∉ex):∃ sl,h1.get? b=some { ob with slots:=sl }:=by
 by_cases hb:b∈fs
 . exact u.slot b ob q n hb hx
 . exact ⟨ob.slots,u.keep b ob q n hb hx⟩
theorem Un.kept (k:∀ b u,h.get? b=some u->h'.get? b=some u):Un fs ex H H h h':=
 ⟨λ b ob q _ _ _=>k b ob q,λ b ob q _ _ _=>⟨ob.slots,k b ob q⟩,λ _ _ _ n _=>n,λ b ob q _=>⟨ob,k b ob q⟩,λ _ _ q=>q,λ _ _ _ q=>q,λ _ ps q=>⟨#[],by rw [q];simp⟩⟩
theorem Un.refl:Un fs ex H H h h:=Un.kept λ _ _ q=>q
theorem Un.laid (k:∀ b u,h.get? b=some u->h'.get? b=some u) (hp:h.objs.size<=a) (hn:H a=none):Un fs ex H (upd H a o) h h' where
 keep:=λ b u q _ _ _=>k b u q
 slot:=λ b u q _ _ _=>⟨u.slots,k b u q⟩
 free:=λ b u q n _=>by rw [Jh (Xe (Qz (Qr q) hp))];exact n
 there:=λ b u q _=>⟨u,k b u q⟩
 tups:=λ b xs q=>by rw [Jh (Jx q hn)];exact q
 frzs:=λ b u xs q=>by rw [Jh (Jx q hn)];exact q
 tbls:=λ b ps q=>⟨#[],by rw [Jh (Jx q hn),q];simp⟩
theorem Un.write (mu:Mut (H x)) (he:e=x\/H e=some (.own x)) (k:∀ b u,b≠e->h.get? b=some u->h'.get? b=some u) (heo:∃ u,h'.get? e=some u):Un fs ex H (upd H x o) h h':=by
 have hx:∀ b,H b=none->b≠x:=λ b n z=>by subst z;rw [n] at mu;exact mu
 have hb:∀ b,H b=none->b≠e:=λ b n z=>by
  subst z
  rcases he with r | r
  . exact hx b n r
  . rw [n] at r;cases r
 have hm:∀ b u,H b=some u->¬ Mut (some u)->b≠x:=λ b u q nm z=>by subst z;rw [q] at mu;exact nm mu
 refine ⟨λ b u q n _ _=>k b u (hb b n) q,λ b u q n _ _=>⟨u.slots,k b u (hb b n) q⟩,λ b u q n _=>by rw [Jh (hx b n)];exact n,λ b u q _=>?_,
  λ b xs q=>by rw [Jh (hm b _ q λ z=>z)];exact q,λ b u xs q=>by rw [Jh (hm b _ q λ z=>z)];exact q,λ b ps q=>⟨#[],by rw [Jh (hm b _ q λ z=>z),q];simp⟩⟩
 by_cases hbe:b=e
 . subst hbe;exact heo
 . exact ⟨u,k b u hbe q⟩
end
noncomputable def trk (h:Heap) (H:Hp):List Addr:=(Qf h.objs.size).filter λ a=>(H a).isSome
noncomputable def Jkb (h:Heap) (H:Hp):Heap:=PySem.W.hideAll h (trk h H)
theorem Jqa (h:Heap) (H:Hp):(Jkb h H).objs.size=h.objs.size:=PySem.W.hideAll_size _ _
theorem Jrh {h:Heap}{H:Hp}{b:Addr}{o:Obj}(e:h.get? b=some o) (n:H b=none):(Jkb h H).get? b=some o:=
 PySem.W.hideAll_get _ e λ hm=>by
  have q:(H b).isSome=true:=(X8.mp hm).2
  rw [n] at q;simp at q
theorem Jt5 {h:Heap}{H:Hp}{b:Addr}{o:Obj}(e:(Jkb h H).get? b=some o):h.get? b=some o/\H b=none:=by
 have e':h.get? b=some o:=PySem.W.of_hideAll (trk h H) e
 refine ⟨e',?_⟩
 cases q:H b with
 | none=>rfl
 | some x=>
  have hm:b∈trk h H:=X8.mpr ⟨Q5.mpr (Qr e'),by simp [q]⟩
  have z:(Jkb h H).get? b=none:=PySem.W.hideAll_none (trk h H) hm
  rw [z] at e;cases e
noncomputable def Jt6 (g h:Heap) (L:Addr):List (Addr×Obj):=(Qf h.objs.size).filterMap λ a=>if a=L\/(g.get? a).isSome=true then none else (h.get? a).map λ o=>(a,o)
noncomputable def rest (g h:Heap) (L d:Addr):List (Addr×Obj):=(Jt6 g h L).filter λ p=>decide (p.1≠d)
structure Mod (K:Qc) (mg:Str->Option J8i) (base:Heap):Prop where
 kin:K.In base
 glob:base.Ns J8v mg
 blt:∃ mb,base.Ns J9h mb/\∀ x:Str,x≠"__name__"->mb x=J88 x
 nolimit:base.NoLimit
structure Cx where
 prog:J8n
 w:J8m
 K:Qc
 mg:Str->Option J8i
 base:Heap
 A:J8o
 N:List Str
 s₀:J8k
 H₀:Hp
 env:Env
 outer:List Env
 stack:List Env
 ex:List Addr
 fn:Str->Bool
 calm:Bool
 pn:List (Addr×Obj)
 xe:J8i->J8k->Prop
noncomputable def frs (l:List Env):List Addr:=l.filterMap (·.frame)
noncomputable abbrev Cx.fs (X:Cx):List Addr:=frs X.outer
def Vis (sc:J8q) (x:Str):Prop:=sc.names.lookup x=some .local \/ sc.names.lookup x=some .cell\/sc.names.lookup x=some .free
def Loc (sc:J8q) (x:Str):Prop:=sc.names.lookup x=some .local \/ sc.names.lookup x=some .cell
def J0p (env:Env) (h:Heap) (m:Str->Option J8i) (x:Str) (u:J8i):Prop:=
 (env.kindOf x=some .local /\ m x=some u)\/((env.kindOf x=some .cell\/env.kindOf x=some .free)/\∃ c,env.cells.lookup x=some c/\h.IsCell c (some u))
structure Cx.Ok (X:Cx):Prop where
 mod:Mod X.K X.mg X.base
 kind:X.env.scope.kind = .function
 glob:X.env.globals=J8v
 blt:X.env.builtins=J9h
 above:X.s₀.heap.objs.size<=X.env.locals
 inj:∀ x y c,X.env.cells.lookup x=some c->X.env.cells.lookup y=some c->x=y
 has:∀ x,(X.env.kindOf x=some .cell\/X.env.kindOf x=some .free)->∃ c,X.env.cells.lookup x=some c
 cab:∀ x c,X.fn x=true->X.env.cells.lookup x=some c->X.s₀.heap.objs.size<=c
 hd:X.calm=true->X.A.handled=none
 frames:X.A.frames=some X.stack
 stk:X.stack=X.outer\/(X.stack=X.env::X.outer/\X.env.frame=some X.env.locals)
 exf:∀ b∈X.ex,b≠X.env.locals/\∀ x c,X.env.cells.lookup x=some c->c≠b
 bs:∀ b o,X.base.get? b=some o->X.s₀.heap.get? b=some o/\X.H₀ b=none
 bsz:X.base.objs.size<=X.s₀.heap.objs.size
 noex:∀ b o,X.base.get? b=some o->b∉X.ex
 exfs:∀ b∈X.ex,b∉X.fs
 funs:X.s₀.heap.FunFrames X.base X.outer
 frf:∀ b∈X.fs,X.H₀ b=none
structure Inv (X:Cx) (pins:List (Addr×Obj)) (σ:List (Option V)) (H:Hp) (s:J8k):Prop where
 ok:X.Ok
 os:s.os=X.s₀.os
 bare:J8z s.gens
 base:Un X.fs X.ex X.H₀ H X.s₀.heap s.heap
 loc:∃ m,s.heap.Ns X.env.locals m/\∀ (i:Nat) (x:Str) (v:V),X.N[i]? = some x->σ[i]? = some (some v)->Vis X.env.scope x->∃ u,Y3 v u/\J0p X.env s.heap m x u
 cell:∀ x c,X.env.cells.lookup x=some c->∃ v,s.heap.IsCell c v
 free:H X.env.locals=none
 freeC:∀ x c,X.env.cells.lookup x=some c->H c=none
 pin:∀ p∈X.pn++pins,s.heap.get? p.1=some p.2/\H p.1=none/\p.1≠X.env.locals/\p.1∉X.fs/\∀ v,p.2.data≠.cell v
 hok:HOk X.prog X.w H s.heap
 len:σ.length=X.N.length
section
variable {X:Cx}{pins:List (Addr×Obj)}{σ:List (Option V)}{H H':Hp}{s:J8k}{h':Heap}
theorem Cx.Ok.nofr (ok:X.Ok) {b:Addr}{o:Obj}(e:X.base.get? b=some o):b∉X.fs:=λ hb=>by
 have:=(ok.funs.mem hb).1
 rw [e] at this;cases this
theorem Inv.bs (I:Inv X pins σ H s):∀ b o,X.base.get? b=some o->s.heap.get? b=some o/\H b=none:=λ b o e=>
 ⟨I.base.keep b o (I.ok.bs b o e).1 (I.ok.bs b o e).2 (I.ok.nofr e) (I.ok.noex b o e),I.base.free b o (I.ok.bs b o e).1 (I.ok.bs b o e).2 (I.ok.noex b o e)⟩
theorem Inv.bk (I:Inv X pins σ H s):∀ b o,X.base.get? b=some o->s.heap.get? b=some o:=λ b o e=>(I.bs b o e).1
theorem Inv.mod (I:Inv X pins σ H s):Mod X.K X.mg X.base:=I.ok.mod
theorem Inv.kIn (I:Inv X pins σ H s):X.K.In s.heap:=I.ok.mod.kin.keeps I.bk
theorem Inv.lt (I:Inv X pins σ H s):X.env.locals<s.heap.objs.size:=let ⟨_,hn,_⟩:=I.loc;hn.lt
theorem Inv.sz (I:Inv X pins σ H s):X.s₀.heap.objs.size<=s.heap.objs.size:=Xc I.ok.above (Um I.lt)
theorem Inv.nofs (I:Inv X pins σ H s) {a:Addr}(h:s.heap.objs.size<=a):a∉X.fs:=λ hb=>by
 obtain ⟨_,o,ho,_⟩:=I.ok.funs.mem hb
 exact absurd (Qz (Qr ho) (Xc I.sz h)) (Q4 _)
theorem Inv.cne (I:Inv X pins σ H s):∀ x c,X.env.cells.lookup x=some c->c≠X.env.locals:=λ x c e z=>by
 obtain ⟨v,o,ho,hd⟩:=I.cell x c e
 obtain ⟨m,⟨o',es,ep,ho',hd',_⟩,_⟩:=I.loc
 rw [z,ho'] at ho;cases ho;rw [hd'] at hd;cases hd
theorem Inv.funs (I:Inv X pins σ H s):s.heap.FunFrames X.base X.outer:=by
 have all:∀ (l:List Env),(∀ b∈frs l,b∈X.fs)->X.s₀.heap.FunFrames X.base l->s.heap.FunFrames X.base l:=by
  intro l
  induction l with
  | nil=>intro _ _;trivial
  | cons env r ih=>
   intro hs hl
   obtain ⟨hk,⟨L,o,hf,hn,ho,hd⟩,hr⟩:=hl
   have hL:L∈X.fs:=hs L (by unfold frs;rw [J4h,hf];exact Qn)
   obtain ⟨sl,e⟩:=I.base.slot L o ho (I.ok.frf L hL) hL λ z=>I.ok.exfs L z hL
   exact ⟨hk,⟨L,_,hf,hn,e,hd⟩,ih (λ b hb=>hs b (by unfold frs;rw [J4h,hf];exact Ql _ hb)) hr⟩
 exact all X.outer (λ _ hb=>hb) I.ok.funs
theorem Inv.stack (I:Inv X pins σ H s):s.heap.FunFrames X.base X.stack:=by
 rcases I.ok.stk with e | ⟨e,hf⟩
 . rw [e];exact I.funs
 . rw [e]
   obtain ⟨m,hn,_⟩:=I.loc
   refine .cons (by rw [I.ok.kind];decide) hf hn ?_ I.funs
   exact Heap.get?_none_of_le (Xc I.ok.bsz I.ok.above)
theorem Inv.stkSub (I:Inv X pins σ H s):∀ b∈frs X.stack,b∈X.env.locals::X.fs:=λ b hb=>by
 rcases I.ok.stk with e | ⟨e,hf⟩
 . rw [e] at hb;exact Ql _ hb
 . rw [e] at hb
   unfold frs at hb
   rw [J4h,hf] at hb
   exact hb
theorem Inv.stkFree (I:Inv X pins σ H s):∀ b∈frs X.stack,H b=none:=λ b hb=>by
 rcases Qh.mp (I.stkSub b hb) with e | hb
 . rw [e];exact I.free
 . obtain ⟨_,o,ho,_⟩:=I.ok.funs.mem hb
   exact I.base.free b o ho (I.ok.frf b hb) λ z=>I.ok.exfs b z hb
theorem Inv.step {g':Array GenState}{t':Nat}{d':Drawn}{ch:List Addr}(I:Inv X pins σ H s)
 (hch:∀ b∈ch,(b∈X.ex\/X.s₀.heap.objs.size<=b)/\b≠X.env.locals/\(∀ x c,X.env.cells.lookup x=some c->c≠b)/\∀ p∈X.pn++pins,p.1≠b)
 (keep:∀ b o,b≠X.env.locals->b∉X.fs->b∉ch->s.heap.get? b=some o->H b=none->h'.get? b=some o)
 (slot:∀ b o,b≠X.env.locals->b∈X.fs->b∉ch->s.heap.get? b=some o->H b=none->∃ sl,h'.get? b=some { o with slots:=sl }) (free:∀ b o,b∉ch->s.heap.get? b=some o->H b=none->H' b=none)
 (there:∀ b o,b∉ch->s.heap.get? b=some o->∃ o',h'.get? b=some o')
 (tups:∀ b xs,H b=some (.tup xs)->H' b=some (.tup xs)) (frzs:∀ b o u,H b=some (.frz o u)->H' b=some (.frz o u)) (tbls:∀ b ps,H b=some (.tbl ps)->∃ more,H' b=some (.tbl (ps++more)))
 (ns:∀ m,s.heap.Ns X.env.locals m->h'.Ns X.env.locals m) (hok:HOk X.prog X.w H' h') (hg:J8z g') :
 Inv X pins σ H' { s with heap:=h',gens:=g',drawn:=d',toks:=t' }:=by
 have neL:∀ b o,X.s₀.heap.get? b=some o->b≠X.env.locals:=λ b o e=>Xe (Qz (Qr e) I.ok.above)
 have neC:∀ b o,X.s₀.heap.get? b=some o->b∉X.ex->b∉ch:=λ b o e hx hb=>by
  rcases (hch b hb).1 with z | z
  . exact hx z
  . exact absurd (Qz (Qr e) z) (Q4 _)
 have cellK:∀ x c,X.env.cells.lookup x=some c->∀ v,s.heap.IsCell c v->h'.IsCell c v:=λ x c e v ⟨o,ho,hd⟩=>by
  have nch:c∉ch:=λ z=>(hch c z).2.2.1 x c e rfl
  by_cases hc:c∈X.fs
  . obtain ⟨sl,q⟩:=slot c o (I.cne x c e) hc nch ho (I.freeC x c e)
    exact ⟨_,q,hd⟩
  . exact ⟨o,keep c o (I.cne x c e) hc nch ho (I.freeC x c e),hd⟩
 refine ⟨I.ok,I.os,hg,⟨λ b o e n hb hx=>?_,λ b o e n hb hx=>?_,λ b o e n hx=>?_,λ b o e hx=>?_,λ b xs e=>tups b xs (I.base.tups b xs e),λ b o xs e=>frzs b o xs (I.base.frzs b o xs e),λ b ps e=>?_⟩,?_,λ x c e=>?_,?_,λ x c e=>?_,λ p hp=>?_,hok,I.len⟩
 . exact keep b o (neL b o e) hb (neC b o e hx) (I.base.keep b o e n hb hx) (I.base.free b o e n hx)
 . obtain ⟨sl,e1⟩:=I.base.slot b o e n hb hx
   obtain ⟨sl',e2⟩:=slot b _ (neL b o e) hb (neC b o e hx) e1 (I.base.free b o e n hx)
   exact ⟨sl',e2⟩
 . obtain ⟨o',e1⟩:=I.base.there b o e hx
   exact free b o' (neC b o e hx) e1 (I.base.free b o e n hx)
 . obtain ⟨o',e1⟩:=I.base.there b o e hx
   exact there b o' (neC b o e hx) e1
 . obtain ⟨m1,e1⟩:=I.base.tbls b ps e
   obtain ⟨m2,e2⟩:=tbls b _ e1
   exact ⟨m1++m2,by rw [e2,Array.append_assoc]⟩
 . obtain ⟨m,hn,hl⟩:=I.loc
   refine ⟨m,ns m hn,λ i x v e1 e2 e3=>?_⟩
   obtain ⟨u,r,l⟩:=hl i x v e1 e2 e3
   refine ⟨u,r,?_⟩
   rcases l with l | ⟨k,c,e,z⟩
   . exact .inl l
   . exact .inr ⟨k,c,e,cellK x c e _ z⟩
 . obtain ⟨v,z⟩:=I.cell x c e
   exact ⟨v,cellK x c e v z⟩
 . obtain ⟨m,⟨o,_,_,ho,_⟩,_⟩:=I.loc
   exact free _ o (λ z=>(hch _ z).2.1 rfl) ho I.free
 . obtain ⟨v,o,ho,hd⟩:=I.cell x c e
   exact free c o (λ z=>(hch c z).2.2.1 x c e rfl) ho (I.freeC x c e)
 . obtain ⟨e,n,ne,nf,d⟩:=I.pin p hp
   have nch:p.1∉ch:=λ z=>(hch p.1 z).2.2.2 p hp rfl
   exact ⟨keep p.1 p.2 ne nf nch e n,free p.1 p.2 nch e n,ne,nf,d⟩
theorem Inv.un {t':Nat}(I:Inv X pins σ H s) (u:Un X.fs [] H H' s.heap h') (hok:HOk X.prog X.w H' h'):Inv X pins σ H' { s with heap:=h',toks:=t' }:=by
 obtain ⟨m,⟨o,es,ep,ho,r⟩,_⟩:=id I.loc
 obtain ⟨sl,hL⟩:=u.any ho I.free (by simp)
 exact I.step (g':=s.gens) (d':=s.drawn) (ch:=[]) (λ _ z=>nomatch z) (λ b o _ hb _ e n=>u.keep b o e n hb (by simp)) (λ b o _ hb _ e n=>u.slot b o e n hb (by simp)) (λ b o _ e n=>u.free b o e n (by simp)) (λ b o _ e=>u.there b o e (by simp)) u.tups u.frzs u.tbls (λ m' hm=>by
  obtain ⟨o',es',ep',ho',r'⟩:=hm
  rw [ho] at ho';cases ho'
  exact ⟨_,es',ep',hL,r'⟩) hok I.bare
theorem Inv.call {g':Array GenState}{t':Nat}{d':Drawn}{ch:List Addr}(I:Inv X pins σ H s) (u:Un (frs X.stack) ch H H' s.heap h') (hok:HOk X.prog X.w H' h') (hg:J8z g')
 (hch:∀ b∈ch,(b∈X.ex\/X.s₀.heap.objs.size<=b)/\b≠X.env.locals/\(∀ x c,X.env.cells.lookup x=some c->c≠b)/\∀ p∈X.pn++pins,p.1≠b) :
 Inv X pins σ H' { s with heap:=h',gens:=g',drawn:=d',toks:=t' }:=by
 obtain ⟨m,⟨o,es,ep,ho,r⟩,_⟩:=id I.loc
 obtain ⟨sl,hL⟩:=u.any ho I.free λ z=>(hch _ z).2.1 rfl
 exact I.step (ch:=ch) hch (λ b o hL hb hc e n=>u.keep b o e n (λ z=>(Qh.mp (I.stkSub b z)).elim hL hb) hc) (λ b o _ _ hc e n=>u.any e n hc) (λ b o hc e n=>u.free b o e n hc) (λ b o hc e=>u.there b o e hc) u.tups u.frzs u.tbls (λ m' hm=>by
  obtain ⟨o',es',ep',ho',r'⟩:=hm
  rw [ho] at ho';cases ho'
  exact ⟨_,es',ep',hL,r'⟩) hok hg
theorem Inv.turned {t':Nat}{it:Addr}(I:Inv X pins σ H s) (k:∀ b o,b≠it->s.heap.get? b=some o->h'.get? b=some o) (hn:H it=none) (hL:it≠X.env.locals)
 (h1:it∈X.ex\/X.s₀.heap.objs.size<=it) (h2:∀ x c,X.env.cells.lookup x=some c->c≠it) (h3:∀ p∈X.pn++pins,p.1≠it):Inv X pins σ H { s with heap:=h',toks:=t' }:=by
 have nit:∀ b u,H b=some u->b≠it:=λ b u e z=>by rw [z,hn] at e;cases e
 refine I.step (g':=s.gens) (d':=s.drawn) (ch:=[it]) (λ b hb=>?_) (λ b o _ _ hc e _=>k b o (λ z=>hc (by simp [z])) e) (λ b o _ _ hc e _=>⟨o.slots,k b o (λ z=>hc (by simp [z])) e⟩) (λ _ _ _ _ n=>n)
  (λ b o hc e=>⟨o,k b o (λ z=>hc (by simp [z])) e⟩) (λ _ _ e=>e) (λ _ _ _ e=>e) (λ b ps e=>⟨#[],by rw [e];simp⟩) (λ m hm=>?_) (λ b u e=>?_) I.bare
 . have e:b=it:=by simpa using hb
   subst e
   exact ⟨h1,hL,h2,h3⟩
 . obtain ⟨o,es,ep,ho,r⟩:=hm
   exact ⟨o,es,ep,k _ o (Qj hL) ho,r⟩
 . refine (I.hok b u e).stay (λ c v hc q=>k c v ?_ q) (λ _ q=>q) λ _ _ q=>q
   rcases hc with z | z
   . rw [z];exact nit b u e
   . exact nit c _ z
theorem Inv.tok (I:Inv X pins σ H s) (t:Nat):Inv X pins σ H { s with toks:=t }:=I.un (h':=s.heap) (t':=t) Un.refl I.hok
theorem Inv.kept {t':Nat}(I:Inv X pins σ H s) (k:∀ b u,s.heap.get? b=some u->h'.get? b=some u):Inv X pins σ H { s with heap:=h',toks:=t' }:=I.un (Un.kept k) (I.hok.kept k)
theorem Inv.laid {a:Addr}{o:HO}{t':Nat}(I:Inv X pins σ H s) (k:∀ b u,s.heap.get? b=some u->h'.get? b=some u) (hp:s.heap.objs.size<=a) (new:Zx X.prog X.w (upd H a o) h' a o) :
 Inv X pins σ (upd H a o) { s with heap:=h',toks:=t' }:=I.un (Un.laid k hp (I.hok.fresh hp)) (I.hok.laid k hp new)
theorem Inv.write {x e:Addr}{o:HO}{t':Nat}(I:Inv X pins σ H s) (mu:Mut (H x)) (he:e=x\/H e=some (.own x)) (k:∀ b u,b≠e->s.heap.get? b=some u->h'.get? b=some u) (heo:∃ u,h'.get? e=some u)
 (new:Zx X.prog X.w (upd H x o) h' x o):Inv X pins σ (upd H x o) { s with heap:=h',toks:=t' }:=I.un (Un.write mu he k heo) (I.hok.write mu he k heo new)
theorem Inv.pins_of {pins':List (Addr×Obj)}(I:Inv X pins σ H s) (h:∀ p∈pins',s.heap.get? p.1=some p.2/\H p.1=none/\p.1≠X.env.locals/\p.1∉X.fs/\∀ v,p.2.data≠.cell v):Inv X pins' σ H s:=
 ⟨I.ok,I.os,I.bare,I.base,I.loc,I.cell,I.free,I.freeC,λ p hp=>(Xk.mp hp).elim (λ z=>I.pin p (Xn _ z)) (h p),I.hok,I.len⟩
theorem Jls {N:List Str}(hN:N.Nodup) {i j:Nat}{x:Str}(a:N[i]? = some x) (b:N[j]? = some x):i=j:=by
 obtain ⟨h1,e1⟩:=Qs.mp a
 obtain ⟨h2,e2⟩:=Qs.mp b
 exact (J4i hN).mp (e1.trans e2.symm)
theorem Jfb {M:Model}{A:J8o}{E:J8i->J8k->Prop}{i:Nat}{x:Str}{v:V}{u:J8i}{Q:Unit->J8k->Prop}(I:Inv X pins σ H s) (hN:X.N.Nodup) (hi:X.N[i]? = some x) (hx:Loc X.env.scope x) (r:Y3 v u)
 (h:∀ s',Inv X pins (σ.set i (some v)) H s'->(∃ a,X1 a s.heap s'.heap/\(a=X.env.locals\/X.env.cells.lookup x=some a))->Q () s') (hf:X.fn x=true\/X.env.scope.names.lookup x=some .local := by first | exact .inl rfl | exact .inr rfl | assumption):J8l M A (storeName X.env x u) Q E s:=by
 obtain ⟨m,hn,hl⟩:=id I.loc
 have hcls:(X.env.scope.kind == .class||(X.env.scope.kind == .module&&X.env.locals != X.env.globals))=false:=by rw [I.ok.kind];rfl
 have hiσ:i < σ.length:=by rw [I.len];exact (Qs.mp hi).1
 have cne:=I.cne
 have tracked:∀ {a:Addr} {h':Heap},(∃ o,s.heap.get? a=some o/\H a=none)->X1 a s.heap h'->HOk X.prog X.w H h':=λ {a h'} ha hs b ob e=>by
  obtain ⟨_,_,hfree⟩:=ha
  refine (I.hok b ob e).stay (λ c w' hc q=>(hs.2 c ?_).trans q) (λ _ q=>q) λ _ _ q=>q
  rintro rfl
  rcases hc with rfl | hc
  . rw [hfree] at e;cases e
  . rw [hfree] at hc;cases hc
 rcases hx with hk | hk
 . refine wpAny_storeName_local hk hn (λ h' hn' hs=>?_) hcls
   obtain ⟨oL,_,_,hoL,_⟩:=id hn
   refine h _ ⟨I.ok,I.os,I.bare,⟨λ b o e n hb hx=>?_,λ b o e n hb hx=>?_,I.base.free,λ b o e hx=>?_,I.base.tups,I.base.frzs,I.base.tbls⟩,⟨_,hn',λ j y v' e1 e2 e3=>?_⟩,λ y c e=>?_,I.free,I.freeC,λ p hp=>?_,tracked ⟨oL,hoL,I.free⟩ hs,by simpa using I.len⟩ ⟨_,hs,.inl rfl⟩
   . exact (hs.2 b (Xe (Qz (Qr e) I.ok.above))).trans (I.base.keep b o e n hb hx)
   . obtain ⟨sl,e1⟩:=I.base.slot b o e n hb hx
     exact ⟨sl,(hs.2 b (Xe (Qz (Qr e) I.ok.above))).trans e1⟩
   . obtain ⟨o',e1⟩:=I.base.there b o e hx
     exact ⟨o',(hs.2 b (Xe (Qz (Qr e) I.ok.above))).trans e1⟩
   . by_cases hj:j=i
     . subst hj
       rw [hi] at e1;cases e1
       rw [Q9 hiσ] at e2
       cases e2
       exact ⟨u,r,.inl ⟨hk,by simp⟩⟩
     . rw [Q6 (Qj hj)] at e2
       obtain ⟨u',r',q⟩:=hl j y v' e1 e2 e3
       refine ⟨u',r',?_⟩
       rcases q with ⟨k,e⟩ | ⟨k,c,e,z⟩
       . refine .inl ⟨k,?_⟩
         have:y≠x:=λ e=>hj (Jls hN e1 (e▸hi))
         simp [this,e]
       . exact .inr ⟨k,c,e,z.sameBut hs (cne y c e)⟩
   . obtain ⟨w',z⟩:=I.cell y c e
     exact ⟨w',z.sameBut hs (cne y c e)⟩
   . obtain ⟨e,n,ne,nf,d⟩:=I.pin p hp
     exact ⟨(hs.2 p.1 ne).trans e,n,ne,nf,d⟩
 . have hfn:X.fn x=true:=by
    rcases hf with z | z
    . exact z
    . rw [z] at hk;cases hk
   obtain ⟨c,hc⟩:=I.ok.has x (.inl hk)
   obtain ⟨w',z⟩:=I.cell x c hc
   refine wpAny_storeName_cell I.ok.kind hk hc z (λ h' hc' hs=>?_)
   obtain ⟨oc,hoc,hocd⟩:=id z
   refine h { s with heap:=h' } ⟨I.ok,I.os,I.bare,⟨λ b o e n hb hx=>?_,λ b o e n hb hx=>?_,I.base.free,λ b o e hx=>?_,I.base.tups,I.base.frzs,I.base.tbls⟩,⟨m,hn.sameBut hs (Qj (cne x c hc)),λ j y v' e1 e2 e3=>?_⟩,λ y c' e=>?_,I.free,I.freeC,λ p hp=>?_,tracked ⟨oc,hoc,I.freeC x c hc⟩ hs,by simpa using I.len⟩ ⟨c,hs,.inr hc⟩
   . exact (hs.2 b (Xe (Qz (Qr e) (I.ok.cab x c hfn hc)))).trans (I.base.keep b o e n hb hx)
   . obtain ⟨sl,e1⟩:=I.base.slot b o e n hb hx
     exact ⟨sl,(hs.2 b (Xe (Qz (Qr e) (I.ok.cab x c hfn hc)))).trans e1⟩
   . obtain ⟨o',e1⟩:=I.base.there b o e hx
     exact ⟨o',(hs.2 b (Xe (Qz (Qr e) (I.ok.cab x c hfn hc)))).trans e1⟩
   . by_cases hj:j=i
     . subst hj
       rw [hi] at e1;cases e1
       rw [Q9 hiσ] at e2
       cases e2
       exact ⟨u,r,.inr ⟨.inl hk,c,hc,hc'⟩⟩
     . rw [Q6 (Qj hj)] at e2
       obtain ⟨u',r',q⟩:=hl j y v' e1 e2 e3
       refine ⟨u',r',?_⟩
       rcases q with q | ⟨k,c',e,z'⟩
       . exact .inl q
       . refine .inr ⟨k,c',e,z'.sameBut hs ?_⟩
         rintro rfl
         exact hj (Jls hN e1 (I.ok.inj _ _ _ e hc▸hi))
   . by_cases hcc:c'=c
     . subst hcc;exact ⟨_,hc'⟩
     . obtain ⟨w2,z2⟩:=I.cell y c' e
       exact ⟨w2,z2.sameBut hs hcc⟩
   . obtain ⟨e,n,ne,nf,d⟩:=I.pin p hp
     refine ⟨(hs.2 p.1 ?_).trans e,n,ne,nf,d⟩
     intro q
     rw [q,hoc] at e
     have q':oc=p.2:=Xr e
     exact d w' (by rw [<- q'];exact hocd)
theorem Jcd {M:Model}{A:J8o}{E:J8i->J8k->Prop}{i:Nat}{x:Str}{v:V}{u:J8i}{Q:Unit->J8k->Prop}(I:Inv X pins σ H s) (hN:X.N.Nodup) (hi:X.N[i]? = some x) (hx:Loc X.env.scope x) (r:Y3 v u)
 (h:∀ s',Inv X pins (σ.set i (some v)) H s'->Q () s') (hf:X.fn x=true\/X.env.scope.names.lookup x=some .local := by first | exact .inl rfl | exact .inr rfl | assumption):J8l M A (storeName X.env x u) Q E s:=
 Jfb I hN hi hx r (λ s' I' _=>h s' I') hf
theorem Inv.call' {s':J8k}{ch:List Addr}(I:Inv X pins σ H s) (ho:s'.os=s.os) (u:Un (frs X.stack) ch H H' s.heap s'.heap) (hok:HOk X.prog X.w H' s'.heap) (hg:J8z s'.gens)
 (hch:∀ b∈ch,(b∈X.ex\/X.s₀.heap.objs.size<=b)/\b≠X.env.locals/\(∀ x c,X.env.cells.lookup x=some c->c≠b)/\∀ p∈X.pn++pins,p.1≠b):Inv X pins σ H' s':=by
 obtain ⟨h',g',d',t',o'⟩:=s'
 have e:o'=s.os:=ho
 subst e
 exact I.call (g':=g') (t':=t') (d':=d') u hok hg hch
end
abbrev XK:=J8i->Option Addr->Hp->Prop
abbrev St:=List (Option V)
abbrev VK:=V->Hp->Prop
abbrev TE:=St->Hp->VK->Prop
abbrev TT:=St->Hp->(Bool->Hp->Prop)->Prop
abbrev TA:=St->Hp->(List V->Hp->Prop)->Prop
structure Ends where
 nx:St->Hp->Prop
 rt:VK
 bk:St->Hp->Prop:=λ _ _=>False
 ct:St->Hp->Prop:=λ _ _=>False
abbrev TS:=Ends->St->Hp->Prop
def EP (X:Cx) (pins:List (Addr×Obj)) (σ:St) (Q:VK) (u:J8i) (s':J8k):Prop:=∃ v H',Inv X pins σ H' s'/\Y3 v u/\Q v H'
def TP (X:Cx) (pins:List (Addr×Obj)) (σ:St) (Q:Bool->Hp->Prop) (b:Bool) (s':J8k):Prop:=∃ H',Inv X pins σ H' s'/\Q b H'
def AP (X:Cx) (pins:List (Addr×Obj)) (σ:St) (Q:List V->Hp->Prop) (us:List J8i) (s':J8k):Prop:=∃ vs H',Inv X pins σ H' s'/\Yg vs us/\Q vs H'
def SP (X:Cx) (pins:List (Addr×Obj)) (D:Ends) (f:Flow) (s':J8k):Prop:=
 match f with
 | .next=>∃ σ' H',Inv X pins σ' H' s'/\D.nx σ' H'
 | .brk=>∃ σ' H',Inv X pins σ' H' s'/\D.bk σ' H'
 | .cont=>∃ σ' H',Inv X pins σ' H' s'/\D.ct σ' H'
 | .ret u=>∃ v σ' H',Inv X pins σ' H' s'/\Y3 v u/\D.rt v H'
def PE (X:Cx) (e:Expr) (t:TE):Prop:=
 ∀ (pins:List (Addr×Obj)) (s:J8k) (σ:St) (H:Hp) (Q:VK),Inv X pins σ H s->t σ H Q->J8l (model X.prog X.w) X.A (eval e X.env) (EP X pins σ Q) X.xe s
def PT (X:Cx) (e:Expr) (t:TT):Prop:=
 ∀ (pins:List (Addr×Obj)) (s:J8k) (σ:St) (H:Hp) (Q:Bool->Hp->Prop),Inv X pins σ H s->t σ H Q->J8l (model X.prog X.w) X.A (isTrue e X.env (eval e X.env)) (TP X pins σ Q) X.xe s
def PW (X:Cx) (e:Expr) (t:TT):Prop:=
 ∀ (whole:Sem J8i) (pins:List (Addr×Obj)) (s:J8k) (σ:St) (H:Hp) (Q:Bool->Hp->Prop),Inv X pins σ H s->t σ H Q->J8l (model X.prog X.w) X.A (isTrue e X.env whole) (TP X pins σ Q) X.xe s
theorem PW.pt {X:Cx}{e:Expr}{t:TT}(h:PW X e t):PT X e t:=h _
def PA (X:Cx) (es:List Expr) (t:TA):Prop:=
 ∀ (pos:Pos) (pins:List (Addr×Obj)) (s:J8k) (σ:St) (H:Hp) (Q:List V->Hp->Prop),Inv X pins σ H s->t σ H Q->J8l (model X.prog X.w) X.A (spliced (backTo pos (starEach es X.env))) (AP X pins σ Q) X.xe s
def PS (X:Cx) (st:Stmt) (t:TS):Prop:=
 ∀ (pins:List (Addr×Obj)) (s:J8k) (σ:St) (H:Hp) (D:Ends),Inv X pins σ H s->t D σ H->J8l (model X.prog X.w) X.A (exec st X.env) (SP X pins D) X.xe s
def PSs (X:Cx) (st:List Stmt) (t:TS):Prop:=
 ∀ (pins:List (Addr×Obj)) (s:J8k) (σ:St) (H:Hp) (D:Ends),Inv X pins σ H s->t D σ H->J8l (model X.prog X.w) X.A (execs st X.env) (SP X pins D) X.xe s
theorem thn {α:Type}{t:Sem α}{Q Q':α->J8k->Prop}{M:Model}{A:J8o}{E:J8i->J8k->Prop}{s:J8k}(h:J8l M A t Q E s) (hQ:∀ a s,Q a s->Q' a s):J8l M A t Q' E s:=wpAny_mono h hQ λ _ _ x=>x
section
variable {X:Cx}
def Z8 (i:Nat):TE:=λ σ H Q=>∃ v,σ[i]? = some (some v)/\Q v H
def tC (v:V):TE:=λ _ H Q=>Q v H
theorem Jw6 {i:Nat}{x:Str}{pos:Pos}(hN:X.N[i]? = some x) (hv:Vis X.env.scope x) (hd:(x==("__debug__":Str))=false:=by decide) (hcd:(x==("__classdict__":Str))=false:=by decide):PE X (.Name x pos) (Z8 i):=by
 intro pins s σ H Q I h
 obtain ⟨v,e,h⟩:=h
 obtain ⟨m,hn,hl⟩:=I.loc
 obtain ⟨u,r,l⟩:=hl i x v hN e hv
 have fin:EP X pins σ Q u s:=⟨v,H,I,r,h⟩
 rcases l with ⟨hk,hm⟩ | ⟨hk,c,hc,hcell⟩
 . exact wpAny_Name (wpAny_loadName_local I.ok.kind hk hn hm fin) hd
 . rcases hk with hk | hk
   . exact wpAny_Name (wpAny_loadName_cell I.ok.kind hk hc hcell fin) hd
   . exact wpAny_Name (wpAny_loadName_free I.ok.kind hk hc hcell fin hcd) hd
theorem Jd {i j pos}:PE X (.Constant (.int i) j pos) (tC (.int i)):=λ _ _ _ H _ I h=>wpAny_Constant_int ⟨.int i,H,I.tok _,⟨_,rfl⟩,h⟩
theorem V1 {b j pos}:PE X (.Constant (.bool b) j pos) (tC (.bl b)):=λ _ _ _ H _ I h=>Constant_bool ⟨.bl b,H,I,rfl,h⟩
theorem Br {j pos}:PE X (.Constant .none j pos) (tC .non):=λ _ _ _ H _ I h=>Constant_none ⟨.non,H,I,rfl,h⟩
theorem Jnl {x j pos}:PE X (.Constant (.str x) j pos) (tC (.str x)):=λ _ _ _ H _ I h=>Calls.Constant_str ⟨.str x,H,I.tok _,⟨_,rfl⟩,h⟩
def Gl (X:Cx) (x:Str):Prop:=X.env.kindOf x=some .globalImplicit
theorem Jo4 {E:J8i->J8k->Prop}{pins:List (Addr×Obj)}{s:J8k}{σ:St}{H:Hp}{x:Str}{u:J8i}{pos:Pos}{Q:J8i->J8k->Prop}(I:Inv X pins σ H s) (hg:Gl X x) (hm:X.mg x=some u) (h:Q u s)
 (hd:(x==("__debug__":Str))=false:=by decide):J8l (model X.prog X.w) X.A (eval (.Name x pos) X.env) Q E s:=
 J6b I.ok.kind hg (Calls.loadGlobal_global (by rw [I.ok.glob];exact I.mod.glob.keeps I.bk) hm h) hd
theorem Ja4 {E:J8i->J8k->Prop}{pins:List (Addr×Obj)}{s:J8k}{σ:St}{H:Hp}{x:Str}{u:J8i}{pos:Pos}{Q:J8i->J8k->Prop}(I:Inv X pins σ H s) (hg:Gl X x) (hm:X.mg x=none) (hv:J88 x=some u) (h:Q u s)
 (hn:x≠"__name__":=by decide) (hd:(x==("__debug__":Str))=false:=by decide):J8l (model X.prog X.w) X.A (eval (.Name x pos) X.env) Q E s:=by
 obtain ⟨mb,h1,h2⟩:=I.mod.blt
 exact J6b I.ok.kind hg (Calls.loadGlobal_builtin (by rw [I.ok.glob];exact I.mod.glob.keeps I.bk) hm (by rw [I.ok.blt];exact h1.keeps I.bk) ((h2 x hn).trans hv) h) hd
theorem Jao {x:Str}{v:V}{u:J8i}{pos:Pos}(hg:Gl X x) (hm:X.mg x=none) (hv:J88 x=some u) (r:Y3 v u) (hn:x≠"__name__":=by decide) (hd:(x==("__debug__":Str))=false:=by decide):PE X (.Name x pos) (tC v):=
 λ _ _ _ H _ I h=>Ja4 I hg hm hv ⟨v,H,I,r,h⟩ hn hd
variable {a b:Expr}{ta tb:TE}{pos:Pos}
def tB (t:TE):TT:=λ σ H Q=>t σ H λ x H1=>∃ c,x = .bl c/\Q c H1
theorem Z2 {e:Expr}{t:TE}(h:PE X e t) (he:∀ whole,isTrue e X.env whole=(do let v <- whole;J8y e.pos;holding [v] (truthy v)):=by intro _;rfl):PT X e (tB t):=by
 intro pins s σ H Q I hw
 refine isTrue_plain (thn (h pins s σ H _ I hw) λ v s1 ⟨x,H1,I1,r1,q1⟩=>?_) (he _)
 obtain ⟨d,rfl,q⟩:=q1
 cases r1
 exact wpAny_truthy_bool ⟨H1,I1,q⟩
variable {tA tB':TT}{rest:List Expr}
def Jyz (t u:TT):TT:=λ σ H Q=>t σ H λ c H1=>if c=true then u σ H1 Q else Q false H1
def tOr (t u:TT):TT:=λ σ H Q=>t σ H λ c H1=>if c=true then Q true H1 else u σ H1 Q
def Jy0 (t:TT):TT:=λ σ H Q=>t σ H λ c H1=>Q (!c) H1
theorem Jec (ha:PT X a tA):PW X (.BoolOp .And [a] pos) tA:=by
 intro wh pins s σ H Q I h
 refine isTrue_and (thn (ha pins s σ H Q I h) λ c s1 e=>?_)
 cases c with
 | true=>exact isTrue_and_nil e
 | false=>exact e
theorem B8 (ha:PT X a tA):PW X (.BoolOp .Or [a] pos) tA:=by
 intro wh pins s σ H Q I h
 refine isTrue_or (thn (ha pins s σ H Q I h) λ c s1 e=>?_)
 cases c with
 | false=>exact isTrue_or_nil e
 | true=>exact e
theorem Jhb (ha:PT X a tA) (hb:PW X (.BoolOp .And (b::rest) pos) tB'):PW X (.BoolOp .And (a::b::rest) pos) (Jyz tA tB'):=by
 intro wh pins s σ H Q I h
 refine isTrue_and (thn (ha pins s σ H _ I h) λ c s1 ⟨H1,I1,q1⟩=>?_)
 cases c with
 | true=>exact hb wh pins s1 σ H1 Q I1 q1
 | false=>exact ⟨H1,I1,q1⟩
theorem V2 (ha:PT X a tA) (hb:PW X (.BoolOp .Or (b::rest) pos) tB'):PW X (.BoolOp .Or (a::b::rest) pos) (tOr tA tB'):=by
 intro wh pins s σ H Q I h
 refine isTrue_or (thn (ha pins s σ H _ I h) λ c s1 ⟨H1,I1,q1⟩=>?_)
 cases c with
 | true=>exact ⟨H1,I1,q1⟩
 | false=>exact hb wh pins s1 σ H1 Q I1 q1
theorem Wo (ha:PT X a tA):PT X (.UnaryOp .Not a pos) (Jy0 tA):=by
 intro pins s σ H Q I h
 exact isTrue_not (ha pins s σ H (λ c H1=>Q (!c) H1) I h)
def Jvz (ta tb:TE):TE:=λ σ H Q=>ta σ H λ x H1=>∃ c,x = .bl c/\if c=true then tb σ H1 Q else Q (.bl false) H1
def Jy1 (ta tb:TE):TE:=λ σ H Q=>ta σ H λ x H1=>∃ c,x = .bl c/\if c=true then Q (.bl true) H1 else tb σ H1 Q
def Jv0 (ta:TE):TE:=λ σ H Q=>ta σ H λ x H1=>∃ c,x = .bl c/\Q (.bl (!c)) H1
theorem Jce {op} {t:TE}(h:PE X a t):PE X (.BoolOp op [a] pos) t:=λ pins s σ H Q I hw=>BoolOp_one (h pins s σ H Q I hw)
theorem Jfc (ha:PE X a ta) (hb:PE X (.BoolOp .And (b::rest) pos) tb):PE X (.BoolOp .And (a::b::rest) pos) (Jvz ta tb):=by
 intro pins s σ H Q I h
 refine BoolOp_and (thn (ha pins s σ H _ I h) λ v s1 ⟨x,H1,I1,r1,q1⟩=>?_)
 obtain ⟨c,rfl,q1⟩:=q1
 cases r1
 refine wpAny_truthy_bool ?_
 cases c with
 | true=>exact hb pins s1 σ H1 Q I1 q1
 | false=>exact ⟨.bl false,H1,I1,rfl,q1⟩
theorem Jv1 (ha:PE X a ta) (hb:PE X (.BoolOp .Or (b::rest) pos) tb):PE X (.BoolOp .Or (a::b::rest) pos) (Jy1 ta tb):=by
 intro pins s σ H Q I h
 refine BoolOp_or (thn (ha pins s σ H _ I h) λ v s1 ⟨x,H1,I1,r1,q1⟩=>?_)
 obtain ⟨c,rfl,q1⟩:=q1
 cases r1
 refine wpAny_truthy_bool ?_
 cases c with
 | false=>exact hb pins s1 σ H1 Q I1 q1
 | true=>exact ⟨.bl true,H1,I1,rfl,q1⟩
theorem Jri (ha:PE X a ta):PE X (.UnaryOp .Not a pos) (Jv0 ta):=by
 intro pins s σ H Q I h
 refine UnaryOp_ (thn (ha pins s σ H _ I h) λ v s1 ⟨x,H1,I1,r1,q1⟩=>?_)
 obtain ⟨c,rfl,q1⟩:=q1
 cases r1
 exact not_of (wpAny_truthy_bool ⟨.bl (!c),H1,I1,rfl,q1⟩)
def tIf (t:TT) (ta tb:TE):TE:=λ σ H Q=>t σ H λ c H1=>if c=true then ta σ H1 Q else tb σ H1 Q
theorem Jhc {c:Expr}(hc:PT X c tA) (ha:PE X a ta) (hb:PE X b tb):PE X (.IfExp c a b pos) (tIf tA ta tb):=by
 intro pins s σ H Q I h
 refine wpAny_IfExp (thn (hc pins s σ H _ I h) λ d s1 ⟨H1,I1,q1⟩=>?_)
 cases d with
 | true=>exact ha pins s1 σ H1 Q I1 q1
 | false=>exact hb pins s1 σ H1 Q I1 q1
end
def SqL (K:Qc) (H:Hp) (a:Addr) (xs:List V):Prop:=
 Rd H a (.lst xs) \/
  ∃ (o:Obj) (its:Array J8i) (n:Nat),K.lookup a=some o/\o.cls = .type "list"/\o.dict=none/\o.data = .seq its n/\its.size<=sizeLine/\Yg xs its.toList
def SqT (K:Qc) (H:Hp) (a:Addr) (xs:List V):Prop:=
 Rd H a (.tup xs) \/
  ∃ (o:Obj) (its:Array J8i) (n:Nat),K.lookup a=some o/\o.cls = .type "tuple"/\o.data = .seq its n/\its.size<=sizeLine/\Yg xs its.toList
noncomputable def J0q:J8i->Option V
 | .none=>some .non
 | .bool b=>some (.bl b)
 | .int i _=>some (.int i)
 | .str x _=>some (.str x)
 | .bytes b _=>some (.byt b)
 | .float b _=>some (.flt b)
 | .ref a=>some (.ref a)
 | .type n=>some (.ty n)
 | _=>none
theorem Y3.abs {x:V}{u:J8i}(r:Y3 x u):J0q u=some x:=by
 cases x with
 | non=>cases r;rfl
 | bl _=>cases r;rfl
 | int _=>obtain ⟨t,rfl⟩:=r;rfl
 | str _=>obtain ⟨t,rfl⟩:=r;rfl
 | byt _=>obtain ⟨t,rfl⟩:=r;rfl
 | flt _=>obtain ⟨t,rfl⟩:=r;rfl
 | ref _=>cases r;rfl
 | ty _=>cases r;rfl
theorem Y3.inj {x y:V}{u:J8i}(r:Y3 x u) (q:Y3 y u):x=y:=Xr (r.abs.symm.trans q.abs)
theorem Yg.inj:∀ {xs ys:List V}{us:List J8i},Yg xs us->Yg ys us->xs=ys
 | _,_,_,.nil,.nil=>rfl
 | _,_,_,.cons r t,.cons r' t'=>by rw [r.inj r',Yg.inj t t']
section
variable {X:Cx}{pins:List (Addr×Obj)}{σ:St}{H:Hp}{s:J8k}{a:Addr}{xs ys:List V}
theorem SqL.of {K:Qc}(h:H a=some (.lst xs)):SqL K H a xs:=.inl (.inl h)
theorem SqT.of {K:Qc}(h:H a=some (.tup xs)):SqT K H a xs:=.inl (.inl h)
theorem Inv.list (I:Inv X pins σ H s) (h:SqL X.K H a xs):∃ its:List J8i,Yg xs its/\PlainL s.heap a its.toArray/\xs.length<=sizeLine:=by
 rcases h with h | ⟨o,its,n,hk,hc,hd,hs,hz,r⟩
 . obtain ⟨z,its,n,r,e⟩:=h.ok I.hok
   exact ⟨its,r,⟨_,n,e,rfl,rfl,rfl⟩,z⟩
 . refine ⟨its.toList,r,⟨o,n,I.kIn a o hk,hc,hd,by simpa using hs⟩,?_⟩
   have e:=r.length
   simp only [Array.length_toList] at e
   omega
theorem Inv.tuple (I:Inv X pins σ H s) (h:SqT X.K H a xs):∃ its:List J8i,Yg xs its/\IsTup s.heap a its.toArray/\xs.length<=sizeLine:=by
 rcases h with h | ⟨o,its,n,hk,hc,hs,hz,r⟩
 . obtain ⟨z,its,r,p⟩:=h.ok I.hok
   exact ⟨its,r,p,z⟩
 . refine ⟨its.toList,r,⟨o,I.kIn a o hk,hc,n,by simpa using hs⟩,?_⟩
   have e:=r.length
   simp only [Array.length_toList] at e
   omega
theorem Inv.list_inj (I:Inv X pins σ H s) (h:SqL X.K H a xs) (h':SqL X.K H a ys):xs=ys:=by
 obtain ⟨its,r,⟨o,n,e,_,_,d⟩,_⟩:=I.list h
 obtain ⟨its',r',⟨o',n',e',_,_,d'⟩,_⟩:=I.list h'
 rw [e] at e';cases e'
 rw [d] at d'
 injection d' with d1 _
 have:its=its':=by simpa using congrArg J6c d1
 subst this
 exact r.inj r'
theorem Inv.tuple_inj (I:Inv X pins σ H s) (h:SqT X.K H a xs) (h':SqT X.K H a ys):xs=ys:=by
 obtain ⟨its,r,⟨o,e,_,n,d⟩,_⟩:=I.tuple h
 obtain ⟨its',r',⟨o',e',_,n',d'⟩,_⟩:=I.tuple h'
 rw [e] at e';cases e'
 rw [d] at d'
 injection d' with d1 _
 have:its=its':=by simpa using congrArg J6c d1
 subst this
 exact r.inj r'
end
noncomputable abbrev Cx.wish (X:Cx) (E:J8i->J8k->Prop):Cx:={ X with xe:=E }
noncomputable abbrev Cx.nox (X:Cx):Cx:=X.wish λ _ _=>False
theorem Cx.Ok.wish {X:Cx}(ok:X.Ok) (E:J8i->J8k->Prop):(X.wish E).Ok:=
 ⟨ok.mod,ok.kind,ok.glob,ok.blt,ok.above,ok.inj,ok.has,ok.cab,ok.hd,ok.frames,ok.stk,ok.exf,ok.bs,ok.bsz,ok.noex,ok.exfs,ok.funs,ok.frf⟩
theorem Cx.Ok.unwish {X:Cx}{E:J8i->J8k->Prop}(ok:(X.wish E).Ok):X.Ok:=
 ⟨ok.mod,ok.kind,ok.glob,ok.blt,ok.above,ok.inj,ok.has,ok.cab,ok.hd,ok.frames,ok.stk,ok.exf,ok.bs,ok.bsz,ok.noex,ok.exfs,ok.funs,ok.frf⟩
section
variable {X:Cx}{pins:List (Addr×Obj)}{σ:St}{H:Hp}{s:J8k}{E:J8i->J8k->Prop}
theorem Inv.wish (I:Inv X pins σ H s) (E:J8i->J8k->Prop):Inv (X.wish E) pins σ H s:=⟨I.ok.wish E,I.os,I.bare,I.base,I.loc,I.cell,I.free,I.freeC,I.pin,I.hok,I.len⟩
theorem Inv.unwish (I:Inv (X.wish E) pins σ H s):Inv X pins σ H s:=⟨I.ok.unwish,I.os,I.bare,I.base,I.loc,I.cell,I.free,I.freeC,I.pin,I.hok,I.len⟩
theorem SP.unwish {D:Ends}{f:Flow}{s':J8k}(h:SP (X.wish E) pins D f s'):SP X pins D f s':=by
 cases f with
 | next=>obtain ⟨σ',H',I,q⟩:=h;exact ⟨σ',H',I.unwish,q⟩
 | brk=>obtain ⟨σ',H',I,q⟩:=h;exact ⟨σ',H',I.unwish,q⟩
 | cont=>obtain ⟨σ',H',I,q⟩:=h;exact ⟨σ',H',I.unwish,q⟩
 | ret u=>obtain ⟨v,σ',H',I,r,q⟩:=h;exact ⟨v,σ',H',I.unwish,r,q⟩
theorem PSs.nox {st:List Stmt}{t:TS}(h:PSs X.nox st t):PSs X st t:=λ pins s σ H D I hw=>
 wpAny_mono (h pins s σ H D (I.wish _) hw) (λ _ _ q=>q.unwish) λ _ _ z=>X9 z
end
section
variable {X:Cx}{st:Stmt}{rest:List Stmt}{t u:TS}{e:Expr}{te:TE}{pos:Pos}
def Jo5:TS:=λ D σ H=>D.nx σ H
def Ja5 (t u:TS):TS:=λ D σ H=>t { D with nx:=u D } σ H
theorem Ya:PSs X [] Jo5:=λ _ _ σ H _ I h=>J9m ⟨σ,H,I,h⟩
theorem Ja (h1:PS X st t) (h2:PSs X rest u):PSs X (st::rest) (Ja5 t u):=by
 intro pins s σ H D I h
 refine wpAny_execs_cons (thn (h1 pins s σ H { D with nx:=u D } I h) λ f s1 q=>?_)
 cases f with
 | next=>
  obtain ⟨σ',H',I',q⟩:=q
  exact h2 pins s1 σ' H' D I' q
 | ret v=>exact q
 | brk=>exact q
 | cont=>exact q
theorem Jf (h1:PS X st t):PSs X [st] t:=by
 intro pins s σ H D I h
 refine wpAny_execs_cons (thn (h1 pins s σ H D I h) λ f s1 q=>?_)
 cases f with
 | next=>exact J9m q
 | ret v=>exact q
 | brk=>exact q
 | cont=>exact q
theorem Inv.quiet {pins:List (Addr×Obj)}{σ:St}{H:Hp}{s:J8k}(I:Inv X pins σ H s):interactive X.env=false:=by simp [interactive,I.ok.kind]
def Jv2 (te:TE):TS:=λ D σ H=>te σ H λ _ H1=>D.nx σ H1
theorem Jbp (he:PE X e te) (hs:J89 e none pos.line X.env=pure false:=by rfl):PS X (.Expr e pos) (Jv2 te):=by
 intro pins s σ H D I h
 exact wpAny_Expr_any (thn (he pins s σ H _ I h) λ v s1 ⟨x,H1,I1,r1,q1⟩=>⟨σ,H1,I1,q1⟩) I.quiet hs
def Jt7 (te:TE):TS:=λ D σ H=>te σ H D.rt
theorem Ju (he:PE X e te):PS X (.Return (some e) pos) (Jt7 te):=by
 intro pins s σ H D I h
 exact wpAny_Return_some (thn (he pins s σ H _ I h) λ v s1 ⟨x,H1,I1,r1,q1⟩=>⟨x,σ,H1,I1,r1,q1⟩)
def Jy2 (c:TT) (t u:TS):TS:=λ D σ H=>c σ H λ b H1=>if b=true then t D σ H1 else u D σ H1
theorem Y5 {c:Expr}{a b:List Stmt}{tc:TT}(hc:PT X c tc) (ha:PSs X a t) (hb:PSs X b u):PS X (.If c a b pos) (Jy2 tc t u):=by
 intro pins s σ H D I h
 refine wpAny_If (thn (hc pins s σ H _ I h) λ d s1 ⟨H1,I1,q1⟩=>?_)
 cases d with
 | true=>exact ha pins s1 σ H1 D I1 q1
 | false=>exact hb pins s1 σ H1 D I1 q1
def Jw7:TS:=λ _ _ _=>False
theorem Jqb {sts:List Stmt}:PSs X sts Jw7:=λ _ _ _ _ _ _ h=>h.elim
end
abbrev TG:=V->St->Hp->(St->Hp->Prop)->Prop
abbrev TGs:=List V->St->Hp->(St->Hp->Prop)->Prop
def PG (X:Cx) (target:Expr) (t:TG):Prop:=
 ∀ (pins:List (Addr×Obj)) (s:J8k) (σ:St) (H:Hp) (v:V) (u:J8i) (Q:St->Hp->Prop),Inv X pins σ H s->Y3 v u->t v σ H Q ->
  J8l (model X.prog X.w) X.A (assign target X.env u) (λ _ s'=>∃ σ' H',Inv X pins σ' H' s'/\Q σ' H') X.xe s
def PGs (X:Cx) (ts:List Expr) (t:TGs):Prop:=
 ∀ (pins:List (Addr×Obj)) (s:J8k) (σ:St) (H:Hp) (vs:List V) (us:List J8i) (Q:St->Hp->Prop),Inv X pins σ H s->Yg vs us->t vs σ H Q ->
  J8l (model X.prog X.w) X.A (assignInOrder ((assignEach ts X.env).map (·.2)) us) (λ _ s'=>∃ σ' H',Inv X pins σ' H' s'/\Q σ' H') X.xe s
abbrev Jw8:=V->V->V->Hp->(Hp->Prop)->Prop
def Jy3 (X:Cx) (t:Jw8):Prop:=
 ∀ (pins:List (Addr×Obj)) (s:J8k) (σ:St) (H:Hp) (o i v:V) (ov iv u:J8i) (Q:Hp->Prop),Inv X pins σ H s->Y3 o ov->Y3 i iv->Y3 v u->t o i v H Q ->
  J8l (model X.prog X.w) X.A (setItem ov iv u) (λ _ s'=>∃ H',Inv X pins σ H' s'/\Q H') X.xe s
abbrev TIp:=V->V->Hp->VK->Prop
def PIp (X:Cx) (op:J9i) (t:TIp):Prop:=
 ∀ (pins:List (Addr×Obj)) (s:J8k) (σ:St) (H:Hp) (x y:V) (v u:J8i) (Q:VK),Inv X pins σ H s->Y3 x v->Y3 y u->t x y H Q ->
  J8l (model X.prog X.w) X.A (inplaceOp op v u) (EP X pins σ Q) X.xe s
section
variable {X:Cx}{pos:Pos}
def B9 (i:Nat):TG:=λ v σ H Q=>Q (σ.set i (some v)) H
theorem J0 {i:Nat}{x:Str}(hN:X.N.Nodup) (hi:X.N[i]? = some x) (hx:Loc X.env.scope x) (hf:X.fn x=true\/X.env.scope.names.lookup x=some .local := by first | exact .inl rfl | exact .inr rfl | assumption):PG X (.Name x pos) (B9 i):=by
 intro pins s σ H v u Q I r h
 exact J9s (Jcd I hN hi hx r (λ s' I'=>⟨_,H,I',h⟩) hf)
def gNil:TGs:=λ vs σ H Q=>vs=[]/\Q σ H
def gCons (t:TG) (u:TGs):TGs:=λ vs σ H Q=>∃ v r,vs=v::r/\t v σ H λ σ' H'=>u r σ' H' Q
theorem Jed:PGs X [] gNil:=by
 intro pins s σ H vs us Q I r h
 obtain ⟨e,h⟩:=h
 subst e
 cases r
 exact assignInOrder_nil ⟨σ,H,I,h⟩
theorem Zb {e:Expr}{es:List Expr}{t:TG}{u:TGs}(h1:PG X e t) (h2:PGs X es u)
 (hs:(assignEach (e::es) X.env).map (·.2)=assign e X.env::(assignEach es X.env).map (·.2):=by rfl):PGs X (e::es) (gCons t u):=by
 intro pins s σ H vs us Q I r h
 obtain ⟨v,vr,e1,h⟩:=h
 subst e1
 cases r with
 | cons r rr=>
  rw [hs]
  refine assignInOrder_cons (thn (h1 pins s σ H _ _ _ I r h) λ _ s1 ⟨σ1,H1,I1,q1⟩=>?_)
  exact h2 pins s1 σ1 H1 _ _ Q I1 rr q1
def Jrj (K:Qc) (n:Nat) (t:TGs):TG:=λ v σ H Q=>∃ a xs,v = .ref a/\SqT K H a xs/\xs.length=n/\t xs σ H Q
theorem Jkc {es:List Expr}{k:Nat}{t:TGs}{n:Nat}(hc:X.calm=true) (h:PGs X es t)
 (hn:(assignEach es X.env).length=n:=by rfl) (hst:(assignEach es X.env).findIdx? (·.1)=none:=by rfl):PG X (.Tuple es k pos) (Jrj X.K n t):=by
 intro pins s σ H v u Q I r hw
 obtain ⟨a,xs,e1,hq,hl,hw⟩:=hw
 subst e1
 cases r
 obtain ⟨its,rv,ht,hz⟩:=I.tuple hq
 refine assign_Tuple_tuple (I.ok.hd hc) ht (by simp [hn,<- hl,rv.length]) hst λ h' hx=>?_
 have I1:Inv X pins σ H { s with heap:=h' }:=I.kept (t':=s.toks) λ b o e=>hx b o (Xe (Qr e)) e
 exact h pins _ σ H xs _ Q I1 (by simpa using rv) hw
def Jnm (to ti:TE) (t:Jw8):TG:=λ v σ H Q=>to σ H λ o H1=>ti σ H1 λ i H2=>t o i v H2 λ H3=>Q σ H3
theorem Za {o i:Expr}{to ti:TE}{t:Jw8}(ho:PE X o to) (hi:PE X i ti) (hs:Jy3 X t)
 (ha:∀ v,assign (.Subscript o i pos) X.env v=(do
  let ov <- holding [v] (eval o X.env)
  let iv <- holding [v,ov] (eval i X.env)
  J8y pos
  holding [v,ov,iv] (setItem ov iv v)
  release [v,ov,iv] []):=by intro _;rfl):PG X (.Subscript o i pos) (Jnm to ti t):=by
 intro pins s σ H v u Q I r h
 rw [ha]
 refine wpAny_bind (wpAny_holding (thn (ho pins s σ H _ I h) λ ov s1 ⟨x,H1,I1,r1,q1⟩=>?_))
 refine wpAny_bind (wpAny_holding (thn (hi pins s1 σ H1 _ I1 q1) λ iv s2 ⟨y,H2,I2,r2,q2⟩=>?_))
 refine wpAny_bind (wpAny_standAt (wpAny_bind (wpAny_holding (thn (hs pins s2 σ H2 x y v ov iv u _ I2 r1 r2 r q2) λ _ s3 ⟨H3,I3,q3⟩=>?_))))
 exact wpAny_release ⟨σ,H3,I3,q3⟩
def Jfd (te:TE) (g:TG):TS:=λ D σ H=>te σ H λ x H1=>g x σ H1 D.nx
theorem Yi {tg e:Expr}{te:TE}{g:TG}(he:PE X e te) (hg:PG X tg g) (hs:swapsWithSole [tg] e pos.line X.env=pure false:=by rfl) (hw:swappedStores [tg] e X.env=pure none:=by rfl)
 (h1:(assignEach [tg] X.env).map (·.2)=[assign tg X.env]:=by rfl):PS X (.Assign [tg] e pos) (Jfd te g):=by
 intro pins s σ H D I h
 refine wpAny_Assign_stores (thn (he pins s σ H _ I h) λ v s1 ⟨x,H1,I1,r1,q1⟩=>?_) hs hw
 rw [h1]
 exact thn (hg pins s1 σ H1 x v _ I1 r1 q1) λ _ s2 q=>q
theorem J5 {i:Nat}{x:Str}{e:Expr}{te:TE}{pos':Pos}(hN:X.N.Nodup) (hi:X.N[i]? = some x) (hx:Loc X.env.scope x) (he:PE X e te) (hs:J89 e (some (.Name x pos')) pos.line X.env=pure false:=by rfl) (hf:X.fn x=true\/X.env.scope.names.lookup x=some .local := by first | exact .inl rfl | exact .inr rfl | assumption) :
 PS X (.Assign [.Name x pos'] e pos) (Jfd te (B9 i)):=by
 intro pins s σ H D I h
 refine wpAny_Assign_Name (thn (he pins s σ H _ I h) λ v s1 ⟨y,H1,I1,r1,q1⟩=>?_) hs
 exact Jcd I1 hN hi hx r1 (λ s2 I2=>⟨_,H1,I2,q1⟩) hf
def Jy4 (i j:Nat) (ta:TA):TS:=λ D σ H=>ta σ H λ vs H1=>∃ v w,vs=[v,w]/\D.nx ((σ.set i (some v)).set j (some w)) H1
theorem Jkd {i j:Nat}{x y:Str}{a b:Expr}{ta:TA}{px py pt:Pos}{kt k2 pt2} (hc:X.calm=true) (hN:X.N.Nodup) (hi:X.N[i]? = some x) (hj:X.N[j]? = some y) (hij:i≠j)
 (hx:X.env.scope.names.lookup x=some .local) (hy:X.env.scope.names.lookup y=some .local) (ha:PA X [a,b] ta)
 (hw:swappedStores [.Tuple [.Name x px,.Name y py] kt pt] (.Tuple [a,b] k2 pt2) X.env=pure (some [x,y]))
 (hs:swapsWithSole [.Tuple [.Name x px,.Name y py] kt pt] (.Tuple [a,b] k2 pt2) pos.line X.env=pure false:=by rfl) :
 PS X (.Assign [.Tuple [.Name x px,.Name y py] kt pt] (.Tuple [a,b] k2 pt2) pos) (Jy4 i j ta):=by
 intro pins s σ H D I h
 rw [exec_Assign_arm]
 refine wpAny_bind (wpAny_standAt ?_)
 rw [hs]
 refine wpAny_bind (wpAny_pure ?_)
 rw [if_neg (by decide)]
 refine wpAny_bind (Tuple_ (thn (ha _ pins s σ H _ I h) λ us s1 ⟨vs,H1,I1,r1,q1⟩=>?_))
 obtain ⟨v,w,e1,q1⟩:=q1
 subst e1
 obtain ⟨u1,u2,rfl,rv,rw'⟩:∃ u1 u2,us=[u1,u2]/\Y3 v u1/\Y3 w u2:=by
  cases r1 with
  | cons p q=>
   cases q with
   | cons p' q'=>
    cases q'
    exact ⟨_,_,rfl,p,p'⟩
 refine wpAny_newObj_type ?_ (by show 2<=sizeLine;decide)
 have I2:Inv X pins σ H1 { s1 with heap:=s1.heap.push { cls:=.type "tuple",data:=.seq [u1,u2].toArray } }:=I1.kept (t':=s1.toks) λ b o e=>Qt _ e
 rw [hw]
 refine wpAny_bind (wpAny_pure ?_)
 show J8l (model X.prog X.w) X.A (do rule "assign.swapped-stores";let items <- unpackItems (.ref s1.heap.objs.size) 2 none;assignInOrder [λ v=>bindName X.env y v,λ v=>bindName X.env x v] items.reverse;pure Flow.next) _ _ _
 refine wpAny_bind (wpAny_rule (wpAny_bind (unpackItems_tuple (items:=#[u1,u2]) (I.ok.hd hc) (J4j s1.heap _) λ h' hx'=>?_)))
 have I3:=I2.kept (h':=h') (t':=s1.toks) λ b o e=>hx' b o (Xe (Qr e)) e
 show J8l _ _ (assignInOrder [λ v=>bindName X.env y v,λ v=>bindName X.env x v] [u2,u1] >>= λ _=>pure Flow.next) _ _ _
 refine wpAny_bind (assignInOrder_cons (wpAny_bindName (Jcd I3 hN hj (.inl hy) rw' (λ s2 I4=>?_) (.inr hy))))
 refine assignInOrder_cons (wpAny_bindName (Jcd I4 hN hi (.inl hx) rv (λ s3 I5=>assignInOrder_nil (wpAny_pure ?_)) (.inr hx)))
 rw [J6d _ _ (Qj hij)] at I5
 exact ⟨_,H1,I5,q1⟩
def Jy5 (i:Nat) (te:TE) (ti:TIp):TS:=λ D σ H=>∃ x,σ[i]? = some (some x)/\te σ H λ y H1=>ti x y H1 λ z H2=>D.nx (σ.set i (some z)) H2
theorem Jw9 {i:Nat}{x:Str}{e:Expr}{te:TE}{op:J9i}{ti:TIp}{pos':Pos}(hN:X.N.Nodup) (hi:X.N[i]? = some x) (hx:Loc X.env.scope x) (he:PE X e te) (ho:PIp X op ti) (hf:X.fn x=true\/X.env.scope.names.lookup x=some .local := by first | exact .inl rfl | exact .inr rfl | assumption) :
 PS X (.AugAssign (.Name x pos') op e pos) (Jy5 i te ti):=by
 intro pins s σ H D I h
 obtain ⟨v,e1,h⟩:=h
 obtain ⟨m,hn,hl⟩:=I.loc
 have vis:Vis X.env.scope x:=by rcases hx with k | k;exact .inl k;exact .inr (.inl k)
 obtain ⟨u,r,l⟩:=hl i x v hi e1 vis
 refine wpAny_AugAssign_Name ?_
 have go:J8l (model X.prog X.w) X.A (eval e X.env) (λ w s₂=>J8l (model X.prog X.w) X.A (inplaceOp op u w) (λ r s₃=>J8l (model X.prog X.w) X.A (storeName X.env x r) (λ _=>SP X pins D .next) X.xe s₃) X.xe s₂) X.xe s:=by
  refine thn (he pins s σ H _ I h) λ w s1 ⟨y,H1,I1,r1,q1⟩=>?_
  refine thn (ho pins s1 σ H1 v y u w _ I1 r r1 q1) λ z s2 ⟨zv,H2,I2,r2,q2⟩=>?_
  exact Jcd I2 hN hi hx r2 (λ s3 I3=>⟨_,H2,I3,q2⟩) hf
 rcases l with ⟨hk,hm⟩ | ⟨hk,c,hc,hcell⟩
 . exact wpAny_loadName_local I.ok.kind hk hn hm go
 . rcases hk with hk | hk
   . exact wpAny_loadName_cell I.ok.kind hk hc hcell go
   . rcases hx with k | k
     . have:X.env.scope.names.lookup x=some .free:=hk
       rw [k] at this;cases this
     . have:X.env.scope.names.lookup x=some .free:=hk
       rw [k] at this;cases this
end
section
variable {X:Cx}{pos:Pos}
def Jrk (c:TT) (tb:TS):TS:=λ D σ H=>∃ W:Nat->St->Hp->Prop,(∃ m,W m σ H)/\∀ m σ H,W m σ H ->
 c σ H λ b H1=>if b=true then ∃ N:St->Hp->Prop,(∀ σ' H',N σ' H'->∃ m',m'<m/\W m' σ' H')/\tb { D with nx:=N,ct:=N,bk:=D.nx } σ H1 else D.nx σ H1
theorem Jee {c:Expr}{body:List Stmt}{tc:TT}{tb:TS}(hp:PassesOwn (model X.prog X.w) X.A X.env X.xe) (hc:PT X c tc) (hb:PSs X body tb):PS X (.While c body [] pos) (Jrk tc tb):=by
 intro pins s σ H D I h
 obtain ⟨W,⟨m0,w0⟩,turn⟩:=h
 refine wpAny_While (codeAny_whileLoop (λ n s'=>∃ σ' H',Inv X pins σ' H' s'/\W n σ' H') ?_ m0 ⟨σ,H,I,w0⟩)
 rintro n s1 ⟨σ1,H1,I1,w1⟩
 refine J84 hp (thn (hc pins s1 σ1 H1 _ I1 (turn n σ1 H1 w1)) λ b s2 ⟨H2,I2,q2⟩=>?_)
 cases b with
 | true=>
  obtain ⟨N,hN,q2⟩:=q2
  rw [if_pos rfl]
  refine J84 hp (thn (hb pins s2 σ1 H2 _ I2 q2) λ f s3 q3=>?_)
  cases f with
  | next=>
   obtain ⟨σ3,H3,I3,n3⟩:=q3
   obtain ⟨m',hm,w3⟩:=hN σ3 H3 n3
   exact ⟨m',hm,σ3,H3,I3,w3⟩
  | cont=>
   obtain ⟨σ3,H3,I3,n3⟩:=q3
   obtain ⟨m',hm,w3⟩:=hN σ3 H3 n3
   exact ⟨m',hm,σ3,H3,I3,w3⟩
  | brk=>exact q3
  | ret v=>exact q3
 | false=>
  rw [if_neg Q7]
  exact J9m ⟨σ1,H2,I2,q2⟩
end
structure It where
 go:Nat->Hp->Prop
 yld:Nat->Hp->V->Hp->Prop
 stop:Nat->Hp->Prop
def Jds (X:Cx) (pins:List (Addr×Obj)) (H:Hp) (b:Addr):Prop:=
 H b=none/\b≠X.env.locals/\b∉X.fs/\(b∈X.ex\/X.s₀.heap.objs.size<=b)/\(∀ x c,X.env.cells.lookup x=some c->c≠b)/\∀ p∈X.pn++pins,p.1≠b
theorem Inv.fpOk {X:Cx}{pins:List (Addr×Obj)}{σ:St}{H H':Hp}{s:J8k}{b:Addr}(I:Inv X pins σ H s) (hb:s.heap.objs.size<=b) (hn:H' b=none):Jds X pins H' b:=by
 refine ⟨hn,J2v (Qz I.lt hb),I.nofs hb,.inr (Xc I.sz hb),λ x c e z=>?_,λ p hp z=>?_⟩
 . obtain ⟨v,q⟩:=I.cell x c e
   exact absurd (Qz q.lt (by rw [z];exact hb)) (Q4 _)
 . exact absurd (Qz (Qr (I.pin p hp).1) (by rw [z];exact hb)) (Q4 _)
structure Turn (P:J8n) (w:J8m) (K:Qc) (tg:Expr) (J:It) (fp:List Addr) (it:Addr) (tn:Nat->Heap->Prop):Prop where
 mem:it∈fp
 obj:∀ i h,tn i h->∀ b∈fp,∃ o,h.get? b=some o/\∀ v,o.data≠.cell v
 keep:∀ i h h',tn i h->(∀ b∈fp,∀ o,h.get? b=some o->h'.get? b=some o)->tn i h'
 item:∀ (X:Cx),X.prog=P->X.w=w->X.K=K->X.calm=true->∀ (i:Nat) (pins:List (Addr×Obj)) (s:J8k) (σ:St) (H:Hp) (E:J8i->J8k->Prop),Inv X pins σ H s->(∀ b∈fp,Jds X pins H b)->tn i s.heap->J.go i H ->
  J8l (model P w) X.A (pyNext (.ref it)) (λ r s1=>∃ u,r=some u /\
   J8l (model P w) X.A (letOwnedTupleGo tg (.ref it) u) (λ _ s2=>∃ x H',Inv X pins σ H' s2/\Y3 x u/\J.yld i H x H'/\tn (i+1) s2.heap/\∀ b∈fp,H' b=none) E s1) E s
 done:∀ (X:Cx),X.prog=P->X.w=w->X.K=K->X.calm=true->∀ (i:Nat) (pins:List (Addr×Obj)) (s:J8k) (σ:St) (H:Hp) (E:J8i->J8k->Prop),Inv X pins σ H s->(∀ b∈fp,Jds X pins H b)->tn i s.heap->J.stop i H ->
  J8l (model P w) X.A (pyNext (.ref it)) (λ r s1=>r=none/\Inv X pins σ H s1) E s
 self:∀ (A:J8o) (i:Nat) (s:J8k) (Q:J8i->J8k->Prop) (E:J8i->J8k->Prop),tn i s.heap->Q (.ref it) s->J8l (model P w) A (pyIter (.ref it)) Q E s
abbrev TI:=St->Hp->(It->Hp->Prop)->Prop
def PIE (X:Cx) (pins:List (Addr×Obj)) (σ:St) (tg:Expr) (R:It->Hp->Prop) (itv:J8i) (s2:J8k):Prop:=
 ∃ (it:Addr) (fp:List Addr) (tn:Nat->Heap->Prop) (J:It) (H':Hp),itv = .ref it/\Inv X pins σ H' s2/\Turn X.prog X.w X.K tg J fp it tn/\tn 0 s2.heap/\(∀ b∈fp,Jds X pins H' b)/\R J H'
def PI (X:Cx) (tg iter:Expr) (wi:TI):Prop:=
 ∀ (pins:List (Addr×Obj)) (s:J8k) (σ:St) (H:Hp) (R:It->Hp->Prop),Inv X pins σ H s->wi σ H R ->
  J8l (model X.prog X.w) X.A (eval iter X.env) (λ v s1=>J8l (model X.prog X.w) X.A (pyIter v) (PIE X pins σ tg R) X.xe s1) X.xe s
theorem Jrl {M:Model}{A:J8o}{E:J8i->J8k->Prop}{s:J8k}{tg:Expr}{it:Addr}{u:J8i}{o:Obj}{n:String}{vs:Array J8i}{Q:Unit->J8k->Prop}(ho:s.heap.get? it=some o) (hc:o.cls = .type n) (hd:o.data = .fields vs)
 (hn:["enumerate","zip","dict_itemiterator","dict_reverseitemiterator","odict_iterator","itertools.zip_longest","itertools.pairwise"].contains n=false) (hQ:Q () s):J8l M A (letOwnedTupleGo tg (.ref it) u) Q E s:=by
 unfold letOwnedTupleGo
 cases tg<;>first
  | exact wpAny_pure hQ
  | (cases u<;>first
   | exact wpAny_pure hQ
   | (refine wpAny_bind (wpAny_load ho ?_)
      rw [hc,hd]
      show J8l M A (if (["enumerate","zip","dict_itemiterator","dict_reverseitemiterator","odict_iterator","itertools.zip_longest","itertools.pairwise"].contains n&&vs[0]? == some (rawInt _))=true then _ else _) Q E s
      rw [if_neg (by intro h;rw [hn,J3l] at h;cases h)]
      exact wpAny_pure hQ))
noncomputable def Itl (K:Qc) (a:Addr):It:=
 ⟨λ i H=>∃ xs x,SqL K H a xs/\xs[i]? = some x,λ i H x H'=>H'=H/\∀ xs,SqL K H a xs->xs[i]? = some x,λ i H=>∃ xs,SqL K H a xs/\xs.length<=i⟩
noncomputable def Itt (K:Qc) (a:Addr):It:=
 ⟨λ i H=>∃ xs x,SqT K H a xs/\xs[i]? = some x,λ i H x H'=>H'=H/\∀ xs,SqT K H a xs->xs[i]? = some x,λ i H=>∃ xs,SqT K H a xs/\xs.length<=i⟩
noncomputable def Itr (lo:Int) (n:Nat):It:=⟨λ i _=>i<n,λ i H x H'=>H'=H/\x = .int (lo+i),λ i _=>n<=i⟩
theorem Jqc {P:J8n}{w:J8m}{K:Qc}{tg:Expr}(a it:Addr):Turn P w K tg (Itl K a) [it] it (λ i h=>h.IsListIter it a i) where
 mem:=by simp
 obj:=λ i h st b hb=>by
  have e:b=it:=by simpa using hb
  subst e
  obtain ⟨o,e,c,d⟩:=st
  exact ⟨o,e,λ v z=>by rw [d] at z;cases z⟩
 keep:=λ i h h' st k=>st.at λ o e=>k it (by simp) o e
 item:=by
  intro X hP hw hK hc i pins s σ H E I hf st hg
  subst hP hw hK
  obtain ⟨xs,x,hq,hx⟩:=hg
  obtain ⟨its,rv,p,hz⟩:=I.list hq
  obtain ⟨u,hu,ru⟩:=rv.get hx
  obtain ⟨f0,f1,f2,f3,f4,f5⟩:=hf it (by simp)
  refine wpAny_pyNext_list_item st p.isList (x:=u) (by simpa using hu) λ h' st' sb=>?_
  have I1:Inv X pins σ H { s with heap:=h' }:=I.turned (t':=s.toks) (λ b o hb e=>(sb.2 b hb).trans e) f0 f1 f3 f4 f5
  obtain ⟨o,e,c,d⟩:=id st'
  exact ⟨u,rfl,Jrl (s:={ s with heap:=h' }) e c d (by decide) ⟨x,H,I1,ru,⟨rfl,λ ys hy=>by rw [I.list_inj hy hq];exact hx⟩,st',λ b hb=>(hf b hb).1⟩⟩
 done:=by
  intro X hP hw hK hc i pins s σ H E I hf st hg
  subst hP hw hK
  obtain ⟨xs,hq,hx⟩:=hg
  obtain ⟨its,rv,p,hz⟩:=I.list hq
  obtain ⟨f0,f1,f2,f3,f4,f5⟩:=hf it (by simp)
  have hl:=rv.length
  exact wpAny_pyNext_list_end (I.ok.hd hc) st p.isList (by simp;omega) λ h' eb=>⟨rfl,I.turned (t':=s.toks) (λ b o hb e=>eb b o hb e) f0 f1 f3 f4 f5⟩
 self:=λ _ _ _ _ _ st h=>wpAny_pyIter_listiter st h
theorem Jnn {P:J8n}{w:J8m}{K:Qc}{tg:Expr}(a it:Addr):Turn P w K tg (Itt K a) [it] it (λ i h=>h.IsTupleIter it a i) where
 mem:=by simp
 obj:=λ i h st b hb=>by
  have e:b=it:=by simpa using hb
  subst e
  obtain ⟨o,e,c,d⟩:=st
  exact ⟨o,e,λ v z=>by rw [d] at z;cases z⟩
 keep:=λ i h h' st k=>st.at λ o e=>k it (by simp) o e
 item:=by
  intro X hP hw hK hc i pins s σ H E I hf st hg
  subst hP hw hK
  obtain ⟨xs,x,hq,hx⟩:=hg
  obtain ⟨its,rv,p,hz⟩:=I.tuple hq
  obtain ⟨u,hu,ru⟩:=rv.get hx
  obtain ⟨f0,f1,f2,f3,f4,f5⟩:=hf it (by simp)
  refine wpAny_pyNext_tuple_item st (show s.heap.IsTuple a its.toArray from p) (x:=u) (by simpa using hu) λ h' st' sb=>?_
  have I1:Inv X pins σ H { s with heap:=h' }:=I.turned (t':=s.toks) (λ b o hb e=>(sb.2 b hb).trans e) f0 f1 f3 f4 f5
  obtain ⟨o,e,c,d⟩:=id st'
  exact ⟨u,rfl,Jrl (s:={ s with heap:=h' }) e c d (by decide) ⟨x,H,I1,ru,⟨rfl,λ ys hy=>by rw [I.tuple_inj hy hq];exact hx⟩,st',λ b hb=>(hf b hb).1⟩⟩
 done:=by
  intro X hP hw hK hc i pins s σ H E I hf st hg
  subst hP hw hK
  obtain ⟨xs,hq,hx⟩:=hg
  obtain ⟨its,rv,p,hz⟩:=I.tuple hq
  obtain ⟨f0,f1,f2,f3,f4,f5⟩:=hf it (by simp)
  have hl:=rv.length
  exact wpAny_pyNext_tuple_end (I.ok.hd hc) st (show s.heap.IsTuple a its.toArray from p) (by simp;omega) λ h' eb=>⟨rfl,I.turned (t':=s.toks) (λ b o hb e=>eb b o hb e) f0 f1 f3 f4 f5⟩
 self:=λ _ _ _ _ _ st h=>wpAny_pyIter_tupleiter st h
theorem Jno {P:J8n}{w:J8m}{K:Qc}{tg:Expr}(it:Addr) (lo:Int) (n:Nat):Turn P w K tg (Itr lo n) [it] it (λ i h=>IsRangeIter h it (lo+(i:Nat)*1) ((n:Int)-(i:Nat)) 1) where
 mem:=by simp
 obj:=λ i h st b hb=>by
  have e:b=it:=by simpa using hb
  subst e
  exact ⟨_,st,λ v z=>by
   have z':J4k _=J2w v:=z
   cases z'⟩
 keep:=λ i h h' st k=>k it (by simp) _ st
 item:=by
  intro X hP hw hK hc i pins s σ H E I hf st hg
  subst hP hw hK
  obtain ⟨f0,f1,f2,f3,f4,f5⟩:=hf it (by simp)
  have W:=Walks.range (prog:=X.prog) (w:=X.w) (I.ok.hd hc) it lo 1 n
  refine W.item i s _ _ hg st λ v h' tk hv st' kk=>?_
  obtain ⟨t,rfl⟩:=hv
  have I1:Inv X pins σ H { s with heap:=h',toks:=tk }:=I.turned (λ b o hb e=>kk b o (by simpa using hb) e) f0 f1 f3 f4 f5
  refine ⟨_,rfl,Jrl (s:={ s with heap:=h',toks:=tk }) (n:="range_iterator") st' rfl rfl (by decide) ⟨.int (lo+i),H,I1,⟨t,?_⟩,⟨rfl,rfl⟩,st',λ b hb=>(hf b hb).1⟩⟩
  rw [J2x]
 done:=by
  intro X hP hw hK hc i pins s σ H E I hf st hg
  subst hP hw hK
  obtain ⟨f0,f1,f2,f3,f4,f5⟩:=hf it (by simp)
  exact wpAny_pyNext_range_end (I.ok.hd hc) st (by have:n<=i:=hg;omega) λ h' eb=>⟨rfl,I.turned (t':=s.toks) (λ b o hb e=>eb b o hb e) f0 f1 f3 f4 f5⟩
 self:=λ _ _ _ _ _ st h=>wpAny_pyIter_rangeiter st h
section
variable {X:Cx}{tg:Expr}
def Jo6 (K:Qc) (tl:TE):TI:=λ σ H R=>tl σ H λ x H1=>∃ a,x = .ref a/\(∃ xs,SqL K H1 a xs)/\R (Itl K a) H1
def Jy6 (K:Qc) (tl:TE):TI:=λ σ H R=>tl σ H λ x H1=>∃ a,x = .ref a/\(∃ xs,SqT K H1 a xs)/\R (Itt K a) H1
theorem Bj {l:Expr}{tl:TE}(hl:PE X l tl):PI X tg l (Jo6 X.K tl):=by
 intro pins s σ H R I h
 refine thn (hl pins s σ H _ I h) λ v s1 ⟨x,H1,I1,r1,q1⟩=>?_
 obtain ⟨a,e,⟨xs,hq⟩,q⟩:=q1
 subst e
 cases r1
 obtain ⟨its,rv,p,hz⟩:=I1.list hq
 refine wpAny_pyIter_list p.isList ?_
 refine ⟨s1.heap.objs.size,[s1.heap.objs.size],_,_,H1,rfl,I1.kept (t':=s1.toks) λ b o e=>Qt _ e,Jqc a _,⟨_,Xd _ rfl,rfl,rfl⟩,λ b hb=>?_,q⟩
 have e:b=s1.heap.objs.size:=by simpa using hb
 subst e
 exact I1.fpOk (Qm _) (I1.hok.fresh (Qm _))
theorem Jke {l:Expr}{tl:TE}(hl:PE X l tl):PI X tg l (Jy6 X.K tl):=by
 intro pins s σ H R I h
 refine thn (hl pins s σ H _ I h) λ v s1 ⟨x,H1,I1,r1,q1⟩=>?_
 obtain ⟨a,e,⟨xs,hq⟩,q⟩:=q1
 subst e
 cases r1
 obtain ⟨its,rv,p,hz⟩:=I1.tuple hq
 refine wpAny_pyIter_tuple (show s1.heap.IsTuple a its.toArray from p) ?_
 refine ⟨s1.heap.objs.size,[s1.heap.objs.size],_,_,H1,rfl,I1.kept (t':=s1.toks) λ b o e=>Qt _ e,Jnn a _,⟨_,Xd _ rfl,rfl,rfl⟩,λ b hb=>?_,q⟩
 have e:b=s1.heap.objs.size:=by simpa using hb
 subst e
 exact I1.fpOk (Qm _) (I1.hok.fresh (Qm _))
theorem Jrm {pins:List (Addr×Obj)}{σ:St}{H:Hp}{s:J8k}{R:It->Hp->Prop}{E:J8i->J8k->Prop}{lo hi:Int}{t u v:Tok}{tk:Nat}(I:Inv X pins σ H s) (h1:-(2^62)<=lo) (h2:lo<2^62) (h3:-(2^62)<=hi) (h4:hi<2^62)
 (q:R (Itr lo (hi-lo).toNat) H):J8l (model X.prog X.w) X.A (pyIter (.ref s.heap.objs.size)) (PIE X pins σ tg R) E { s with heap:=s.heap.push { cls:=.type "range",data:=.fields #[.int lo t,.int hi u,.int 1 v] },toks:=tk }:=by
 refine wpAny_pyIter_range (J4l ..) (small_one h1 h2 h3 h4) ?_
 have I1:Inv X pins σ H { s with heap:=s.heap.push { cls:=.type "range",data:=.fields #[.int lo t,.int hi u,.int 1 v] },toks:=tk }:=I.kept λ b o e=>Qt _ e
 refine ⟨(s.heap.push { cls:=.type "range",data:=.fields #[.int lo t,.int hi u,.int 1 v] }).objs.size,[(s.heap.push { cls:=.type "range",data:=.fields #[.int lo t,.int hi u,.int 1 v] }).objs.size],_,_,H,rfl,
  I1.kept (t':=tk) λ b o e=>Qt _ e,Jno _ lo (hi-lo).toNat,?_,λ b hb=>?_,q⟩
 . have e1:lo+((0:Nat):Int)*1=lo:=by simp
   have e2:(((hi-lo).toNat:Nat):Int)-((0:Nat):Int)=J75 lo hi 1:=by rw [J9t];split<;>omega
   show IsRangeIter _ _ (lo+((0:Nat):Int)*1) ((((hi-lo).toNat:Nat):Int)-((0:Nat):Int)) 1
   rw [e1,e2]
   exact Xd _ rfl
 . have e:b=(s.heap.push { cls:=.type "range",data:=.fields #[.int lo t,.int hi u,.int 1 v] }).objs.size:=by simpa using hb
   subst e
   exact I1.fpOk (Qm _) (I1.hok.fresh (Qm _))
def Jv3 (ta:TA):TI:=λ σ H R=>ta σ H λ vs H1=>∃ j:Int,vs=[.int j]/\-(2^62)<=j/\j<2^62/\R (Itr 0 j.toNat) H1
theorem Yr {a:Expr}{ta:TA}{p pos:Pos}(hg:Gl X "range") (hm:X.mg "range" = none) (ha:PA X [a] ta) (hs:starEach [a] X.env=[(false,eval a X.env)]:=by rfl):PI X tg (.Call (.Name "range" p) [a] [] pos) (Jv3 ta):=by
 intro pins s σ H R I h
 refine Call_ (Ja4 I hg hm boot_range (U9 (thn (ha pos pins s σ H _ I h) λ us s1 ⟨vs,H1,I1,r1,q1⟩=>?_) hs rfl))
 obtain ⟨j,e,q1,q2,q⟩:=q1
 subst e
 cases r1 with
 | cons r rr=>
  cases rr
  obtain ⟨t,rfl⟩:=r
  exact call_range_1 (Jrm I1 (by omega) (by omega) q1 q2 (by simpa using q))
def Jy7 (wi:TI) (g:TG) (tb:TS):TS:=λ D σ H=>wi σ H λ J H1=>∃ W:Nat->Nat->St->Hp->Prop,(∃ m,W 0 m σ H1)/\∀ i m σ H,W i m σ H ->
 (J.stop i H/\D.nx σ H)\/(J.go i H/\∃ N:St->Hp->Prop,(∀ σ' H',N σ' H'->∃ m',m'<m/\W (i+1) m' σ' H')/\∀ x H',J.yld i H x H'->g x σ H' λ σ2 H2=>tb { D with nx:=N,ct:=N,bk:=D.nx } σ2 H2)
noncomputable def Jfe (fp:List Addr) (h:Heap):List (Addr×Obj):=fp.filterMap λ b=>(h.get? b).map λ o=>(b,o)
theorem V4 {fp:List Addr}{h:Heap}{b:Addr}{o:Obj}(hb:b∈fp) (e:h.get? b=some o):(b,o)∈Jfe fp h:=J6e.mpr ⟨b,hb,by rw [e];rfl⟩
theorem Jqd {fp:List Addr}{h:Heap}{p:Addr×Obj}(hp:p∈Jfe fp h):p.1∈fp/\h.get? p.1=some p.2:=by
 obtain ⟨b,hb,e⟩:=J6e.mp hp
 cases q:h.get? b with
 | none=>rw [q] at e;cases e
 | some o=>
  rw [q] at e
  have e':(b,o)=p:=Xr e
  subst e'
  exact ⟨hb,q⟩
theorem Inv.pinned {pins:List (Addr×Obj)}{σ:St}{H:Hp}{s:J8k}{fp:List Addr}(I:Inv X pins σ H s) (hf:∀ b∈fp,Jds X pins H b) (ho:∀ b∈fp,∃ o,s.heap.get? b=some o/\∀ v,o.data≠.cell v):Inv X (pins++Jfe fp s.heap) σ H s:=
 I.pins_of λ p hp=>(Xk.mp hp).elim (λ z=>I.pin p (Xf _ z)) λ z=>by
  obtain ⟨hb,e⟩:=Jqd z
  obtain ⟨f0,f1,f2,_⟩:=hf p.1 hb
  obtain ⟨o,e',d⟩:=ho p.1 hb
  rw [e] at e';cases e'
  exact ⟨e,f0,f1,f2,d⟩
theorem Inv.unpinned {pins pl:List (Addr×Obj)}{σ:St}{H:Hp}{s:J8k}(I:Inv X (pins++pl) σ H s):Inv X pins σ H s:=I.pins_of λ p hp=>I.pin p (Xf _ (Xn _ hp))
theorem Zt {iter:Expr}{body:List Stmt}{wi:TI}{g:TG}{tb:TS}{pos:Pos}(hp:PassesOwn (model X.prog X.w) X.A X.env X.xe) (hc:X.calm=true) (hi:PI X tg iter wi) (hg:PG X tg g) (hb:PSs X body tb)
 (hs:∀ x,J9j iter X.env x=pure x:=by intro _;rfl):PS X (.For tg iter body [] pos) (Jy7 wi g tb):=by
 intro pins s σ H D I h
 refine wpAny_For (thn (hi pins s σ H _ I h) λ v s1 h1=>thn h1 λ itv s2 h2=>?_) hs
 obtain ⟨it,fp,tn,J,H2,e,I2,T,st2,f2,W,⟨m0,w0⟩,turn⟩:=h2
 subst e
 -- what stays true of the iterator's objects through the loop
 have stat:∀ {H':Hp},(∀ b∈fp,H' b=none)->∀ b∈fp,Jds X pins H' b:=λ hn b hb=>⟨hn b hb,(f2 b hb).2⟩
 refine codeAny_forLoop_any (λ n s'=>∃ i σ' H',Inv X pins σ' H' s'/\tn i s'.heap/\(∀ b∈fp,H' b=none)/\W i n σ' H') ?_ m0 ⟨0,σ,H2,I2,st2,λ b hb=>(f2 b hb).1,w0⟩
 rintro n s3 ⟨i,σ3,H3,I3,st3,fr3,w3⟩
 rcases turn i n σ3 H3 w3 with ⟨stop,qn⟩ | ⟨go,N,hN,step⟩
 . refine J84 hp (thn (T.done X rfl rfl rfl hc i pins s3 σ3 H3 X.xe I3 (stat fr3) st3 stop) λ r s4 ⟨hr,I4⟩=>?_)
   subst hr
   exact J9m ⟨σ3,H3,I4,qn⟩
 . refine J84 hp (thn (T.item X rfl rfl rfl hc i pins s3 σ3 H3 X.xe I3 (stat fr3) st3 go) λ r s4 ⟨u,hr,h4⟩=>?_)
   subst hr
   refine J84 hp (thn h4 λ _ s5 ⟨x,H5,I5,r5,y5,st5,fr5⟩=>?_)
   have I5':=I5.pinned (stat fr5) (T.obj _ _ st5)
   refine J84 hp (thn (hg _ s5 σ3 H5 x u _ I5' r5 (step x H5 y5)) λ _ s6 ⟨σ6,H6,I6,q6⟩=>?_)
   refine J84 hp (thn (hb _ s6 σ6 H6 _ I6 q6) λ f s7 q7=>?_)
   have again:∀ {σ7:St} {H7:Hp},Inv X (pins++Jfe fp s5.heap) σ7 H7 s7->N σ7 H7->∃ m,m<n/\∃ i σ' H',Inv X pins σ' H' s7/\tn i s7.heap/\(∀ b∈fp,H' b=none)/\W i m σ' H':=λ {σ7 H7} I7 n7=>by
    obtain ⟨m',hm,w7⟩:=hN σ7 H7 n7
    refine ⟨m',hm,i+1,σ7,H7,I7.unpinned,T.keep _ _ _ st5 λ b hb o e=>(I7.pin (b,o) (Xf _ (Xf _ (V4 hb e)))).1,λ b hb=>?_,w7⟩
    obtain ⟨o,e,d⟩:=T.obj _ _ st5 b hb
    exact (I7.pin (b,o) (Xf _ (Xf _ (V4 hb e)))).2.1
   cases f with
   | next=>obtain ⟨σ7,H7,I7,n7⟩:=q7;exact again I7 n7
   | cont=>obtain ⟨σ7,H7,I7,n7⟩:=q7;exact again I7 n7
   | brk=>obtain ⟨σ7,H7,I7,q7⟩:=q7;exact ⟨σ7,H7,I7.unpinned,q7⟩
   | ret v=>obtain ⟨x7,σ7,H7,I7,r7,q7⟩:=q7;exact ⟨x7,σ7,H7,I7.unpinned,r7,q7⟩
end
abbrev R2:=V->V->Hp->VK->Prop
def OpR (X:Cx) (f:J8i->J8i->Sem J8i) (r:R2):Prop:=
 ∀ (pins:List (Addr×Obj)) (s:J8k) (σ:St) (H:Hp) (x y:V) (v u:J8i) (Q:VK),Inv X pins σ H s->Y3 x v->Y3 y u->r x y H Q ->
  J8l (model X.prog X.w) X.A (f v u) (EP X pins σ Q) X.xe s
def UnR (X:Cx) (f:J8i->Sem J8i) (r:V->Hp->VK->Prop):Prop:=
 ∀ (pins:List (Addr×Obj)) (s:J8k) (σ:St) (H:Hp) (x:V) (v:J8i) (Q:VK),Inv X pins σ H s->Y3 x v->r x H Q ->
  J8l (model X.prog X.w) X.A (f v) (EP X pins σ Q) X.xe s
def V3 (X:Cx) (f:J8i) (r:List V->Hp->VK->Prop):Prop:=
 ∀ (pins:List (Addr×Obj)) (s:J8k) (σ:St) (H:Hp) (xs:List V) (us:List J8i) (Q:VK),Inv X pins σ H s->Yg xs us->r xs H Q ->
  J8l (model X.prog X.w) X.A (call f us) (EP X pins σ Q) X.xe s
def J0r (X:Cx) (r:V->Hp->(Bool->Hp->Prop)->Prop):Prop:=
 ∀ (pins:List (Addr×Obj)) (s:J8k) (σ:St) (H:Hp) (x:V) (v:J8i) (Q:Bool->Hp->Prop),Inv X pins σ H s->Y3 x v->r x H Q ->
  J8l (model X.prog X.w) X.A (truthy v) (TP X pins σ Q) X.xe s
def tOp (r:R2) (ta tb:TE):TE:=λ σ H Q=>ta σ H λ x H1=>tb σ H1 λ y H2=>r x y H2 Q
def tUn (r:V->Hp->VK->Prop) (ta:TE):TE:=λ σ H Q=>ta σ H λ x H1=>r x H1 Q
def rI (C:Int->Int->Prop) (g:Int->Int->V):R2:=λ x y H Q=>∃ i j,x = .int i/\y = .int j/\C i j/\Q (g i j) H
def rI0 (g:Int->Int->V):R2:=λ x y H Q=>∃ i j,x = .int i/\y = .int j/\Q (g i j) H
def rU (g:Int->V):V->Hp->VK->Prop:=λ x H Q=>∃ i,x = .int i/\Q (g i) H
section
variable {X:Cx}{a b c:Expr}{ta tb tc:TE}{pos:Pos}
theorem Jxa (ha:PE X a ta) (hb:PE X b tb) {pins:List (Addr×Obj)}{s:J8k}{σ:St}{H:Hp}{R:V->V->Hp->Prop}(I:Inv X pins σ H s)
 (h:ta σ H λ x H1=>tb σ H1 λ y H2=>R x y H2) {Q:J8i->J8k->Prop} {f:J8i->J8i->Sem J8i}
 (hf:∀ v u s2 x y H2,Inv X pins σ H2 s2->Y3 x v->Y3 y u->R x y H2->J8l (model X.prog X.w) X.A (f v u) Q X.xe s2) :
 J8l (model X.prog X.w) X.A (eval a X.env) (λ v s₁=>J8l (model X.prog X.w) X.A (eval b X.env) (λ u s₂=>J8l (model X.prog X.w) X.A (f v u) Q X.xe s₂) X.xe s₁) X.xe s:=by
 refine thn (ha pins s σ H _ I h) λ v s1 ⟨x,H1,I1,r1,q1⟩=>?_
 refine thn (hb pins s1 σ H1 _ I1 q1) λ u s2 ⟨y,H2,I2,r2,q2⟩=>?_
 exact hf v u s2 x y H2 I2 r1 r2 q2
theorem Jo {op:J9i}{r:R2}(ho:OpR X (binaryOp op) r) (ha:PE X a ta) (hb:PE X b tb):PE X (.BinOp a op b pos) (tOp r ta tb):=by
 intro pins s σ H Q I h
 exact wpAny_BinOp (Jxa ha hb I h λ v u s2 x y H2 I2 rx ry q=>ho pins s2 σ H2 x y v u Q I2 rx ry q)
theorem Bl {op:UnaryOp}{r:V->Hp->VK->Prop}(ho:UnR X (unaryOp op) r) (ha:PE X a ta):PE X (.UnaryOp op a pos) (tUn r ta):=by
 intro pins s σ H Q I h
 exact UnaryOp_ (thn (ha pins s σ H _ I h) λ v s1 ⟨x,H1,I1,r1,q1⟩=>ho pins s1 σ H1 x v Q I1 r1 q1)
theorem opI {f:J8i->J8i->Sem J8i}{C:Int->Int->Prop}{g:Int->Int->Int}
 (rule:∀ (i j:Int) (t u:Tok) (s:J8k) (Q:J8i->J8k->Prop) (E:J8i->J8k->Prop),C i j->Q (.int (g i j) s.toks) { s with toks:=s.toks+1 }->J8l (model X.prog X.w) X.A (f (.int i t) (.int j u)) Q E s) :
 OpR X f (rI C λ i j=>.int (g i j)):=by
 intro pins s σ H x y v u Q I rx ry h
 obtain ⟨i,j,rfl,rfl,hc,q⟩:=h
 obtain ⟨t,rfl⟩:=rx
 obtain ⟨t',rfl⟩:=ry
 exact rule i j t t' s _ _ hc ⟨.int (g i j),H,I.tok _,⟨_,rfl⟩,q⟩
theorem Jy8 {f:J8i->J8i->Sem J8i}{g:Int->Int->Int}
 (rule:∀ (i j:Int) (t u:Tok) (s:J8k) (Q:J8i->J8k->Prop) (E:J8i->J8k->Prop),Q (.int (g i j) s.toks) { s with toks:=s.toks+1 }->J8l (model X.prog X.w) X.A (f (.int i t) (.int j u)) Q E s) :
 OpR X f (rI0 λ i j=>.int (g i j)):=by
 intro pins s σ H x y v u Q I rx ry h
 obtain ⟨i,j,rfl,rfl,q⟩:=h
 obtain ⟨t,rfl⟩:=rx
 obtain ⟨t',rfl⟩:=ry
 exact rule i j t t' s _ _ ⟨.int (g i j),H,I.tok _,⟨_,rfl⟩,q⟩
theorem Jt8 {f:J8i->J8i->Sem J8i}{g:Int->Int->Bool}
 (rule:∀ (i j:Int) (t u:Tok) (s:J8k) (Q:J8i->J8k->Prop) (E:J8i->J8k->Prop),Q (.bool (g i j)) s->J8l (model X.prog X.w) X.A (f (.int i t) (.int j u)) Q E s) :
 OpR X f (rI0 λ i j=>.bl (g i j)):=by
 intro pins s σ H x y v u Q I rx ry h
 obtain ⟨i,j,rfl,rfl,q⟩:=h
 obtain ⟨t,rfl⟩:=rx
 obtain ⟨t',rfl⟩:=ry
 exact rule i j t t' s _ _ ⟨.bl (g i j),H,I,rfl,q⟩
def J0s (i j:Int):Prop:=0<=j/\j<=1000000/\i.natAbs<2^64
def Jxb (i j:Int):Prop:=(-(2^64)<i/\i<2^64)\/(-(2^64)<j/\j<2^64)
theorem Jxb.ok {i j:Int}(h:Jxb i j):J9k i j:=by
 rcases h with ⟨h1,h2⟩ | ⟨h1,h2⟩
 . exact .of_left (intBits_le_64 h1 h2)
 . exact .of_right (intBits_le_64 h1 h2)
theorem Zu:OpR X (binaryOp .Add) (rI0 λ i j=>.int (i+j)):=Jy8 λ _ _ _ _ _ _ _ q=>add_int q
theorem Vr:OpR X (binaryOp .Sub) (rI0 λ i j=>.int (i-j)):=Jy8 λ _ _ _ _ _ _ _ q=>sub_int q
theorem Jff:OpR X (binaryOp .Mult) (rI Jxb λ i j=>.int (i*j)):=opI λ _ _ _ _ _ _ _ hc q=>mul_int q hc.ok
theorem Bs:OpR X (binaryOp .Mod) (rI (λ _ j=>0<j) λ i j=>.int (i%j)):=opI λ i j _ _ _ _ _ hc q=>by
 have h1:(0:Int)<j:=hc
 exact mod_int' (by omega) (by rw [Int.fmod_eq_emod_of_nonneg i (by omega)];exact q)
theorem Jkf:OpR X (binaryOp .Pow) (rI J0s λ i j=>.int (i^j.toNat)):=opI λ _ _ _ _ _ _ _ hc q=>pow_int_small hc.1 hc.2.1 hc.2.2 q
theorem unI {f:J8i->Sem J8i}{g:Int->Int}
 (rule:∀ (i:Int) (t:Tok) (s:J8k) (Q:J8i->J8k->Prop) (E:J8i->J8k->Prop),Q (.int (g i) s.toks) { s with toks:=s.toks+1 }->J8l (model X.prog X.w) X.A (f (.int i t)) Q E s) :
 UnR X f (rU λ i=>.int (g i)):=by
 intro pins s σ H x v Q I rx h
 obtain ⟨i,rfl,q⟩:=h
 obtain ⟨t,rfl⟩:=rx
 exact rule i t s _ _ ⟨.int (g i),H,I.tok _,⟨_,rfl⟩,q⟩
theorem Wp:UnR X (unaryOp .USub) (rU λ i=>.int (-i)):=unI λ _ _ _ _ _ q=>neg_int q
end
noncomputable def Jt9:V->V->Bool
 | .non,.non=>true | .non,.int _=>true | .int _,.non=>true | .non,.bl _=>true | .bl _,.non=>true | .non,.str _=>true | .str _,.non=>true
 | .int _,.int _=>true | .bl _,.bl _=>true | .str _,.str _=>true | .byt _,.byt _=>true
 | .int _,.str _=>true | .str _,.int _=>true | .bl _,.str _=>true | .str _,.bl _=>true
 | _,_=>false
def rEq:R2:=λ x y H Q=>Jt9 x y=true/\Q (.bl (decide (x=y))) H
def rNe:R2:=λ x y H Q=>Jt9 x y=true/\Q (.bl (!decide (x=y))) H
theorem Jo7 {i j:Int}:decide (V.int i=V.int j)=(i==j):=by
 rw [U1]
 simp
theorem Jrn {i j:Bool}:decide (V.bl i=V.bl j)=(i==j):=by
 rw [U1]
 simp
theorem Jo8 {i j:Str}:decide (V.str i=V.str j)=(i==j):=by
 rw [U1]
 simp
theorem Jo9 {i j:Array UInt8}:decide (V.byt i=V.byt j)=(i.toList==j.toList):=by
 rw [U1]
 cases i
 cases j
 simp
section
variable {X:Cx}{a b c:Expr}{ta tb tc:TE}{pos:Pos}
theorem Yt {pins:List (Addr×Obj)}{σ:St}{H:Hp}{s:J8k}{Q:VK}{k k':Bool}(I:Inv X pins σ H s) (q:Q (.bl k) H) (e:k=k'):EP X pins σ Q (.bool k') s:=by
 subst e
 exact ⟨.bl k,H,I,rfl,q⟩
theorem Jbc:OpR X (compareOp .Eq) rEq:=by
 intro pins s σ H x y v u Q I rx ry h
 obtain ⟨hs,q⟩:=h
 cases x with
 | non=>
  cases rx
  cases y with
  | non=>cases ry;exact PySem.EqNone.eq_none_none (Yt I q (by simp))
  | bl j=>cases ry;exact PySem.EqNone.eq_none_bool (Yt I q (by simp))
  | int j=>obtain ⟨t',rfl⟩:=ry;exact PySem.EqNone.eq_none_int (Yt I q (by simp))
  | str j=>obtain ⟨t',rfl⟩:=ry;exact PySem.EqNone.eq_none_str (Yt I q (by simp))
  | _=>exact absurd (show false=true from hs) Q7
 | bl i=>
  cases rx
  cases y with
  | non=>cases ry;exact PySem.EqNone.eq_bool_none (Yt I q (by simp))
  | bl j=>cases ry;exact eq_bool (Yt I q Jrn)
  | str j=>obtain ⟨t',rfl⟩:=ry;exact J76 (Yt I q (by simp))
  | _=>exact absurd (show false=true from hs) Q7
 | int i=>
  obtain ⟨t,rfl⟩:=rx
  cases y with
  | non=>cases ry;exact PySem.EqNone.eq_int_none (Yt I q (by simp))
  | int j=>obtain ⟨t',rfl⟩:=ry;exact eq_int (Yt I q Jo7)
  | str j=>obtain ⟨t',rfl⟩:=ry;exact J77 (Yt I q (by simp))
  | _=>exact absurd (show false=true from hs) Q7
 | str i=>
  obtain ⟨t,rfl⟩:=rx
  cases y with
  | non=>cases ry;exact PySem.EqNone.eq_str_none (Yt I q (by simp))
  | bl j=>cases ry;exact J78 (Yt I q (by simp))
  | int j=>obtain ⟨t',rfl⟩:=ry;exact J79 (Yt I q (by simp))
  | str j=>obtain ⟨t',rfl⟩:=ry;exact eq_str (Yt I q Jo8)
  | _=>exact absurd (show false=true from hs) Q7
 | byt i=>
  obtain ⟨t,rfl⟩:=rx
  cases y with
  | byt j=>obtain ⟨t',rfl⟩:=ry;exact PySem.W.eq_bytes (Yt I q Jo9)
  | _=>exact absurd (show false=true from hs) Q7
 | _=>cases y<;>exact absurd (show false=true from hs) Q7
theorem Jf7:OpR X (compareOp .NotEq) rNe:=by
 intro pins s σ H x y v u Q I rx ry h
 obtain ⟨hs,q⟩:=h
 cases x with
 | non=>
  cases rx
  cases y with
  | non=>cases ry;exact PySem.EqNone.ne_none_none (Yt I q (by simp))
  | bl j=>cases ry;exact PySem.EqNone.ne_none_bool (Yt I q (by simp))
  | int j=>obtain ⟨t',rfl⟩:=ry;exact PySem.EqNone.ne_none_int (Yt I q (by simp))
  | str j=>obtain ⟨t',rfl⟩:=ry;exact PySem.EqNone.ne_none_str (Yt I q (by simp))
  | _=>exact absurd (show false=true from hs) Q7
 | bl i=>
  cases rx
  cases y with
  | non=>cases ry;exact PySem.EqNone.ne_bool_none (Yt I q (by simp))
  | bl j=>cases ry;exact ne_bool (Yt I q (congrArg not Jrn))
  | str j=>obtain ⟨t',rfl⟩:=ry;exact J8a (Yt I q (by simp))
  | _=>exact absurd (show false=true from hs) Q7
 | int i=>
  obtain ⟨t,rfl⟩:=rx
  cases y with
  | non=>cases ry;exact PySem.EqNone.ne_int_none (Yt I q (by simp))
  | int j=>obtain ⟨t',rfl⟩:=ry;exact ne_int (Yt I q (congrArg not Jo7))
  | str j=>obtain ⟨t',rfl⟩:=ry;exact J8b (Yt I q (by simp))
  | _=>exact absurd (show false=true from hs) Q7
 | str i=>
  obtain ⟨t,rfl⟩:=rx
  cases y with
  | non=>cases ry;exact PySem.EqNone.ne_str_none (Yt I q (by simp))
  | bl j=>cases ry;exact J8c (Yt I q (by simp))
  | int j=>obtain ⟨t',rfl⟩:=ry;exact J8d (Yt I q (by simp))
  | str j=>obtain ⟨t',rfl⟩:=ry;exact ne_str (Yt I q (congrArg not Jo8))
  | _=>exact absurd (show false=true from hs) Q7
 | byt i=>
  obtain ⟨t,rfl⟩:=rx
  cases y with
  | byt j=>obtain ⟨t',rfl⟩:=ry;exact PySem.W.ne_bytes (Yt I q (congrArg not Jo9))
  | _=>exact absurd (show false=true from hs) Q7
 | _=>cases y<;>exact absurd (show false=true from hs) Q7
theorem B0:OpR X (compareOp .Lt) (rI0 λ i j=>.bl (decide (i<j))):=Jt8 λ _ _ _ _ _ _ _ q=>lt_int q
theorem Jro:OpR X (compareOp .LtE) (rI0 λ i j=>.bl (decide (i<=j))):=Jt8 λ _ _ _ _ _ _ _ q=>le_int q
theorem Jlt:OpR X (compareOp .Gt) (rI0 λ i j=>.bl (decide (j<i))):=Jt8 λ _ _ _ _ _ _ _ q=>gt_int q
theorem Jv4:OpR X (compareOp .GtE) (rI0 λ i j=>.bl (decide (j<=i))):=Jt8 λ _ _ _ _ _ _ _ q=>ge_int q
theorem Jhd:OpR X (compareOp .Is) (λ x y H Q=>y = .non/\Q (.bl (decide (x = .non))) H):=by
 intro pins s σ H x y v u Q I rx ry h
 obtain ⟨rfl,q⟩:=h
 cases ry
 refine is_none_gen (Yt I q ?_)
 cases x<;>first
  | (cases rx;rfl)
  | (obtain ⟨t,rfl⟩:=rx;rfl)
theorem Jua:OpR X (compareOp .IsNot) (λ x y H Q=>y = .non/\Q (.bl (!decide (x = .non))) H):=by
 intro pins s σ H x y v u Q I rx ry h
 obtain ⟨rfl,q⟩:=h
 cases ry
 refine isnot_none_gen (Yt I q ?_)
 cases x<;>first
  | (cases rx;rfl)
  | (obtain ⟨t,rfl⟩:=rx;rfl)
theorem J4 (b:Expr) {op:CmpOp}(h:op≠.In:=by decide) (h2:op≠.NotIn:=by decide):J9n op b=false:=by
 have e1:(op==CmpOp.In)=false:=by cases op<;>first | rfl | exact absurd rfl h
 have e2:(op==CmpOp.NotIn)=false:=by cases op<;>first | rfl | exact absurd rfl h2
 cases b<;>simp [J9n,e1,e2]
theorem Wj {op:CmpOp}{r:R2}(ho:OpR X (compareOp op) r) (ha:PE X a ta) (hb:PE X b tb) (hm:J9n op b=false):PE X (.Compare a [op] [b] pos) (tOp r ta tb):=by
 intro pins s σ H Q I h
 exact wpAny_Compare1 (Jxa ha hb I h λ v u s2 x y H2 I2 rx ry q=>ho pins s2 σ H2 x y v u Q I2 rx ry q) hm
def Jv5 (t:TE):TT:=λ σ H Q=>t σ H λ x H'=>∃ k,x = .bl k/\Q k H'
theorem Jy {op:CmpOp}{r:R2}(ho:OpR X (compareOp op) r) (ha:PE X a ta) (hb:PE X b tb) (hm:J9n op b=false):PT X (.Compare a [op] [b] pos) (Jv5 (tOp r ta tb)):=by
 intro pins s σ H Q I h
 refine wpAny_isTrue_Compare1 (thn (ha pins s σ H _ I h) λ v s1 ⟨x,H1,I1,r1,q1⟩=>thn (hb pins s1 σ H1 _ I1 q1) λ u s2 ⟨y,H2,I2,r2,q2⟩=>
  thn (ho pins s2 σ H2 x y v u _ I2 r1 r2 q2) λ c s3 ⟨z,H3,I3,r3,k,e,q3⟩=>?_) hm
 subst e
 cases r3
 exact wpAny_truthy_bool ⟨H3,I3,q3⟩
def Jrp (r r':R2) (ta tb tc:TE):TE:=λ σ H Q=>ta σ H λ x H1=>tb σ H1 λ y H2=>r x y H2 λ z H3=>∃ k,z = .bl k /\
 (if k=true then tc σ H3 λ w' H4=>r' y w' H4 Q else Q (.bl false) H3)
theorem Jrq {op op':CmpOp}{r r':R2}(ho:OpR X (compareOp op) r) (ho':OpR X (compareOp op') r') (ha:PE X a ta) (hb:PE X b tb) (hc:PE X c tc)
 (hm:lastMarks [op,op'] [b,c]=false:=by with_unfolding_all rfl):PE X (.Compare a [op,op'] [b,c] pos) (Jrp r r' ta tb tc):=by
 intro pins s σ H Q I h
 refine Compare_chain (thn (ha pins s σ H _ I h) λ v s1 ⟨x,H1,I1,r1,q1⟩=>chain_link (thn (hb pins s1 σ H1 _ I1 q1) λ u s2 ⟨y,H2,I2,r2,q2⟩=>
  thn (ho pins s2 σ H2 x y v u _ I2 r1 r2 q2) λ d s3 ⟨z,H3,I3,r3,k,e,q3⟩=>?_)) hm
 subst e
 cases r3
 refine wpAny_truthy_bool ?_
 cases k with
 | false=>exact ite_ff ⟨.bl false,H3,I3,rfl,q3⟩
 | true=>exact ite_tt (chain_last (thn (hc pins s3 σ H3 _ I3 q3) λ w' s4 ⟨z',H4,I4,r4,q4⟩=>ho' pins s4 σ H4 y z' u w' Q I4 r2 r4 q4))
def Jxc (K:Qc) (x:V) (H:Hp) (k:Bool):Prop:=
 match x with
 | .non=>k=false
 | .bl b=>k=b
 | .int i=>k=(i != 0)
 | .str y=>y.length<=sizeLine/\k=((y.length:Int) != 0)
 | .byt y=>y.size<=sizeLine/\k=((y.size:Int) != 0)
 | .ref p=>(∃ xs,SqL K H p xs/\k = !xs.isEmpty)\/(∃ xs,SqT K H p xs/\k = !xs.isEmpty)\/∃ kvs,H p=some (.dK kvs)/\k = !kvs.isEmpty
 | _=>False
theorem Jnp {κ:Type}{kvs:List (κ×V)}{vs:List (κ×J8i)}(r:KV kvs vs):(!vs.isEmpty) = !kvs.isEmpty:=by
 cases r<;>rfl
theorem Jhe {xs:List V}{its:List J8i}(r:Yg xs its):(!its.toArray.isEmpty) = !xs.isEmpty:=by
 cases r<;>simp
theorem Jhf:(sizeLine:Nat)<2^63:=by rw [J8p];decide
theorem Jxd:J0r X (λ x H Q=>∃ k,Jxc X.K x H k/\Q k H):=by
 intro pins s σ H x v Q I rx h
 obtain ⟨k,e,q⟩:=h
 have hl:=Jhf
 have hs:sizeLine=16777216:=J8p
 cases x with
 | non=>
  cases rx
  have e':k=false:=e
  subst e'
  exact truthy_none ⟨H,I,q⟩
 | bl b=>
  cases rx
  have e':k=b:=e
  subst e'
  exact wpAny_truthy_bool ⟨H,I,q⟩
 | int i=>
  obtain ⟨t,rfl⟩:=rx
  have e':k=(i != 0):=e
  subst e'
  exact PySem.P.truthy_int ⟨H,I,q⟩
 | str y=>
  obtain ⟨t,rfl⟩:=rx
  obtain ⟨hy,e'⟩:y.length<=sizeLine/\k=((y.length:Int) != 0):=e
  subst e'
  exact PySem.P.truthy_str (by omega) ⟨H,I.tok _,q⟩
 | byt y=>
  obtain ⟨t,rfl⟩:=rx
  obtain ⟨hy,e'⟩:y.size<=sizeLine/\k=((y.size:Int) != 0):=e
  subst e'
  exact PySem.W.truthy_bytes (by omega) ⟨H,I.tok _,q⟩
 | ref p=>
  cases rx
  have e':(∃ xs,SqL X.K H p xs/\k = !xs.isEmpty)\/(∃ xs,SqT X.K H p xs/\k = !xs.isEmpty)\/∃ kvs,H p=some (.dK kvs)/\k = !kvs.isEmpty:=e
  rcases e' with ⟨xs,hx,e'⟩ | ⟨xs,hx,e'⟩ | ⟨kvs,hx,e'⟩
  . subst e'
    obtain ⟨its,r,pl,hz⟩:=I.list hx
    have hlen:=r.length
    exact wpAny_truthy_list pl.isList (by simp only [Q3];omega) ⟨H,I.tok _,by rw [Jhe r];exact q⟩
  . subst e'
    obtain ⟨its,r,pl,hz⟩:=I.tuple hx
    have hlen:=r.length
    exact truthy_tuple pl (by simp only [Q3];omega) ⟨H,I.tok _,by rw [Jhe r];exact q⟩
  . subst e'
    obtain ⟨hz,hS,vs,r,m⟩:kvs.length<=sizeLine/\(p==sysModules)=false/\∃ vs,KV kvs vs/\s.heap.DictOf (Jka X.prog X.w) p vs:=I.hok p _ hx
    have hlen:kvs.length=vs.length:=J6a r
    exact wpAny_truthy_dict hS m (by omega) ⟨H,I.tok _,by rw [Jnp r];exact q⟩
 | _=>exact (show False from e).elim
theorem Jrr (ha:PE X a ta) (he:∀ whole,isTrue a X.env whole=(do let v <- whole;J8y a.pos;holding [v] (truthy v))) :
 PT X a (λ σ H Q=>ta σ H λ x H'=>∃ k,Jxc X.K x H' k/\Q k H'):=by
 intro pins s σ H Q I h
 exact isTrue_plain (thn (ha pins s σ H _ I h) λ v s1 ⟨x,H1,I1,r1,q1⟩=>Jxd pins s1 σ H1 x v Q I1 r1 q1) (he _)
theorem Jap {x:V}{us:List J8i}(r:Yg [x] us):∃ u,us=[u]/\Y3 x u:=by
 cases r with
 | cons r1 r2=>cases r2;exact ⟨_,rfl,r1⟩
theorem Jpa {x y:V}{us:List J8i}(r:Yg [x,y] us):∃ u w',us=[u,w']/\Y3 x u/\Y3 y w':=by
 cases r with
 | cons r1 r2=>
  cases r2 with
  | cons r3 r4=>cases r4;exact ⟨_,_,rfl,r1,r3⟩
theorem Jrs:V3 X (.builtin "abs") (λ xs H Q=>∃ i,xs=[.int i]/\Q (.int (if i<0 then -i else i)) H):=by
 intro pins s σ H xs us Q I r h
 obtain ⟨i,rfl,q⟩:=h
 obtain ⟨u,rfl,t,rfl⟩:=Jap r
 exact call_abs_int λ u tk=>⟨.int (if i<0 then -i else i),H,I.tok _,⟨_,rfl⟩,q⟩
theorem Jqe (hc:X.calm=true):V3 X (.builtin "max") (λ xs H Q=>∃ i j,xs=[.int i,.int j]/\Q (.int (if j>i then j else i)) H):=by
 intro pins s σ H xs us Q I r h
 obtain ⟨i,j,rfl,q⟩:=h
 obtain ⟨u,w',rfl,⟨t,rfl⟩,⟨t',rfl⟩⟩:=Jpa r
 refine max_two_ints (I.ok.hd hc) λ h' tk k=>⟨_,H,I.kept k,?_,q⟩
 by_cases hj:j>i
 . rw [if_pos hj,if_pos hj];exact ⟨_,rfl⟩
 . rw [if_neg hj,if_neg hj];exact ⟨_,rfl⟩
theorem Jqf (hc:X.calm=true):V3 X (.builtin "min") (λ xs H Q=>∃ i j,xs=[.int i,.int j]/\Q (.int (if j<i then j else i)) H):=by
 intro pins s σ H xs us Q I r h
 obtain ⟨i,j,rfl,q⟩:=h
 obtain ⟨u,w',rfl,⟨t,rfl⟩,⟨t',rfl⟩⟩:=Jpa r
 refine min_two_ints (I.ok.hd hc) λ h' tk k=>⟨_,H,I.kept k,?_,q⟩
 by_cases hj:j<i
 . rw [if_pos hj,if_pos hj];exact ⟨_,rfl⟩
 . rw [if_neg hj,if_neg hj];exact ⟨_,rfl⟩
theorem Jfg:V3 X (.type "int") (λ xs H Q=>(∃ i,xs=[.int i]/\Q (.int i) H)\/∃ k,xs=[.bl k]/\Q (.int (if k then 1 else 0)) H):=by
 intro pins s σ H xs us Q I r h
 rcases h with ⟨i,rfl,q⟩ | ⟨k,rfl,q⟩
 . obtain ⟨u,rfl,t,rfl⟩:=Jap r
   exact call_int_int ⟨.int i,H,I,⟨_,rfl⟩,q⟩
 . obtain ⟨u,rfl,r1⟩:=Jap r
   cases r1
   exact call_int_bool ⟨.int (if k then 1 else 0),H,I.tok _,⟨_,rfl⟩,q⟩
end
structure ObjM (h:Heap) (x dx C:Addr) (mA:Str->Option J8i):Prop where
 obj:h.get? x=some (U8 C dx)
 ns:h.Ns1 dx mA
 ne:dx≠x
theorem Jqg {h:Heap}{dx:Addr}{mA:Str->Option J8i}(n:h.Ns1 dx mA):∃ od,h.get? dx=some od/\∀ name,J3m name od=some (mA name):=by
 obtain ⟨o,es,ep,ho,hd,hk,_,hm⟩:=n
 refine ⟨o,ho,λ name=>?_⟩
 have e:=hm name
 unfold nsFind findBy at e
 rw [<- Array.find?_toList] at e
 unfold J3m
 rw [hd]
 dsimp only
 split
 . rename_i y q
   rw [q] at e
   exact congrArg some e
 . rename_i q
   rw [q] at e
   have a:es.toList.any (·.refKey)=false:=by
    rw [List.any_eq_false]
    intro y hy
    obtain ⟨z,t,hkey⟩:=hk y (Array.mem_toList_iff.mp hy)
    simp [DictEntry.refKey,hkey]
   have a':¬ es.toList.any (·.refKey)=true:=by rw [a];exact Q7
   rw [if_neg a']
   exact congrArg some e
theorem ObjM.look {h:Heap}{x dx C:Addr}{mA:Str->Option J8i}(I:ObjM h x dx C mA):∃ od,PySem.W.InstAt h x (U8 C dx) C (some od)/\∀ name,J3m name od=some (mA name):=
 let ⟨od,ho,hl⟩:=Jqg I.ns
 ⟨od,⟨I.obj,rfl,rfl,ho⟩,hl⟩
section
variable {prog:J8n}{w:J8m}{A:J8o}{E:J8i->J8k->Prop}{s:J8k}{K:Qc}{x dx C f:Addr}{mA:Str->Option J8i}{name:Str}{v:J8i}
theorem Jub {expr:Bool}{Q:J8i->J8k->Prop}(X:K.In s.heap) (I:ObjM s.heap x dx C mA) (hg:J3n K C name=true) (hh:J4m K C=true)
 (ha:Ue K (.ref C) name=some none) (hv:mA name=some v) (hv':J6f v=true) (h:Q v { s with toks:=s.toks+1 }) :
 J8l (model prog w) A (getAttr (.ref x) name expr) Q E s:=by
 obtain ⟨od,J,hl⟩:=I.look
 exact PySem.W.get_value X J (J4n hg).1 (PySem.W.findObj_own hh ha rfl (by rw [hl,hv])) hv' h
theorem Jrt {pl:Sem Bool}{Q:J8i×List J8i->J8k->Prop}(X:K.In s.heap) (I:ObjM s.heap x dx C mA) (hg:J3n K C name=true)
 (hf:Ue K (.ref C) name=some (some (.ref f))) (ht:J2y K (.ref f)=true) (hv:mA name=none) (h:Q (.ref f,[.ref x]) s) :
 J8l (model prog w) A (getMethod (.ref x) name pl) Q E s:=by
 obtain ⟨od,J,hl⟩:=I.look
 exact PySem.W.method_fn X J (J4n hg).1 (J4n hg).2 hf (beq_iff_eq.mp ht) (by show (J3m name od).map (·.isSome)=some false;rw [hl,hv];rfl) h
theorem Juc {ns:List Str}{Q:Unit->J8k->Prop}(X:K.In s.heap) (I:ObjM s.heap x dx C mA)
 (hs:Ue K (.ref C) "__setattr__" = some (some (.builtin "object.__setattr__"))) (hp:J6g K C=true) (ht:J4o K C name=some none) (hh:J4m K C=true)
 (hw:J4f mA ns) (hsz:ns.length<=sizeLine)
 (h:∀ h',ObjM h' x dx C (λ y=>if y=name then some v else mA y)->X1 dx s.heap h'->Q () { s with heap:=h',toks:=s.toks+2 }) :
 J8l (model prog w) A (setAttr (.ref x) name v) Q E s:=by
 obtain ⟨od,J,hl⟩:=I.look
 refine PySem.W.set_plain X J hs (PySem.W.osa_open (s:={ s with toks:=s.toks+1 }) (r:=none) X J hp ht λ b=>?_)
 obtain ⟨cd,hc,hd'⟩:=PySem.W.any_some hh
 have hx:s.heap.get? x=some ⟨.ref C,some dx,.plain,#[]⟩:=I.obj
 refine wpAny_bind (wpAny_pure (wpAny_bind (wpAny_bind (wpAny_loadPart hx (wpAny_bind (J8e (s:={ s with toks:=s.toks+1 }) (PySem.W.looks_clsIn X hc) ?_))))))
 rw [hd']
 refine wpAny_pure (a:=some dx) (wpAny_bind (wpAny_pure (wpAny_bind ?_)))
 refine wpAny_nsSet1 (s:={ s with toks:=s.toks+1 }) I.ns λ h' hn2 hs2=>?_
 obtain ⟨oD,esD,epD,hoD,hdD,hcD⟩:=hn2.count (J4f.cons name v hw)
 refine wpAny_bind (wpAny_lookBehind hoD (by rw [hdD];exact pastItsLine_dict (Xc hcD (by rw [X2];omega))) ?_)
 exact wpAny_pure (h _ ⟨(hs2.2 _ (Qj I.ne)).trans I.obj,hn2,I.ne⟩ hs2)
theorem Jru {R:J81->J8k->Prop}{vs:List J8i}{kw:List (Str×J8i)}(X:K.In s.heap) (hm:J4p K C=true)
 (hi:Ue K (.ref C) "__init__" = some (some (.ref f))) (hf:PySem.W.typeIn K (.ref f)=some (.type "function"))
 (h:J8w (model prog w) (A.under (.builtin "type.__call__" ⟨.ref C::vs,kw⟩)) (.call (.ref f) ⟨.ref (s.heap.objs.size+1)::vs,kw⟩) (PySem.W.InitBack (s.heap.objs.size+1) R)
  { s with heap:=(s.heap.push U2).push (U8 C s.heap.objs.size) }) :
 J8w (model prog w) A (.call (.ref C) ⟨vs,kw⟩) R s:=by
 obtain ⟨hh,g,d,t,os⟩:=s
 exact PySem.W.make_core (PySem.W.makes_of X hm) (PySem.W.looks_findIn X hi) (λ self=>PySem.W.bind_fn X self hf) (.inl rfl) h
end
noncomputable def putF (f:Str) (v:V):List (Str×V)->List (Str×V)
 | []=>[(f,v)]
 | (g,x)::r=>if g=f then (g,v)::r else (g,x)::putF f v r
theorem Jf8 (f g:Str) (v:V):∀ fs:List (Str×V),(putF f v fs).lookup g=if g=f then some v else fs.lookup g
 | []=>by
  show J1v g [(f,v)]=_
  by_cases h:g=f
  . have hb:(g==f)=true:=beq_iff_eq.mpr h
    simp only [J1v,hb,if_pos h]
  . have hb:(g==f)=false:=beq_eq_false_iff_ne.mpr h
    simp only [J1v,hb,if_neg h]
 | (k,x)::r=>by
  have ih:=Jf8 f g v r
  rw [show putF f v ((k,x)::r)=(if k=f then (k,v)::r else (k,x)::putF f v r) from rfl]
  by_cases hk:k=f
  . rw [if_pos hk]
    by_cases h:g=k
    . have hb:(g==k)=true:=beq_iff_eq.mpr h
      simp only [J1v,hb,if_pos (h.trans hk)]
    . have hb:(g==k)=false:=beq_eq_false_iff_ne.mpr h
      simp only [J1v,hb,if_neg (λ e:g=f=>h (e.trans hk.symm))]
  . rw [if_neg hk]
    by_cases h:g=k
    . have hb:(g==k)=true:=beq_iff_eq.mpr h
      simp only [J1v,hb,if_neg (λ e:g=f=>hk (h.symm.trans e))]
    . have hb:(g==k)=false:=beq_eq_false_iff_ne.mpr h
      simp only [J1v,hb]
      exact ih
theorem Jfh (f:Str) (v:V):∀ fs:List (Str×V),f∈(putF f v fs).map (·.1)/\∀ g,g∈fs.map (·.1)->g∈(putF f v fs).map (·.1)
 | []=>⟨by simp [putF],λ g h=>by simp at h⟩
 | (k,x)::r=>by
  obtain ⟨i1,i2⟩:=Jfh f v r
  rw [show putF f v ((k,x)::r)=(if k=f then (k,v)::r else (k,x)::putF f v r) from rfl]
  by_cases hk:k=f
  . rw [if_pos hk]
    subst hk
    exact ⟨by simp,λ g h=>by simpa using h⟩
  . rw [if_neg hk]
    refine ⟨?_,λ g h=>?_⟩
    . rw [Xa]
      exact Ql _ i1
    . rw [Xa] at h ⊢
      rcases Qh.mp h with e | e
      . exact Qh.mpr (.inl e)
      . exact Ql _ (i2 g e)
theorem Jf9 (f:Str) (v:V):∀ fs:List (Str×V),(putF f v fs).length<=fs.length+1
 | []=>by simp [putF]
 | (k,x)::r=>by
  have ih:=Jf9 f v r
  rw [show putF f v ((k,x)::r)=(if k=f then (k,v)::r else (k,x)::putF f v r) from rfl]
  by_cases hk:k=f
  . rw [if_pos hk,X2,X2];omega
  . rw [if_neg hk,X2,X2];omega
theorem Ji2.some_of {v:V}{o:Option J8i}(r:Ji2 (some v) o):∃ u,o=some u/\Y3 v u:=by
 cases o with
 | none=>exact (show False from r).elim
 | some u=>exact ⟨u,rfl,r⟩
theorem Ji2.none_of {o:Option J8i}(r:Ji2 none o):o=none:=by
 cases o with
 | none=>rfl
 | some u=>exact (show False from r).elim
theorem Jqh {v:V}{u:J8i}(r:Y3 v u):J6f u=true:=by
 cases v with
 | non=>cases (show u=Ul from r);rfl
 | bl b=>cases (show u=J1u b from r);rfl
 | int i=>obtain ⟨t,e⟩:=(show ∃ t,u=Uv i t from r);cases e;rfl
 | str x=>obtain ⟨t,e⟩:=(show ∃ t,u=J2a x t from r);cases e;rfl
 | byt b=>obtain ⟨t,e⟩:=(show ∃ t,u=J59 b t from r);cases e;rfl
 | flt b=>obtain ⟨t,e⟩:=(show ∃ t,u=J4e b t from r);cases e;rfl
 | ref a=>cases (show u=Q2 a from r);rfl
 | ty n=>cases (show u=J2b n from r);rfl
section
variable {P:J8n}{w:J8m}{H H':Hp}{h h':Heap}{a C dx:Addr}{fs fs':List (Str×V)}
theorem Jgw (hok:HOk P w H h) (e:H a=some (.ins C dx fs)):∃ mA,ObjM h a dx C mA/\(∀ f,Ji2 (fs.lookup f) (mA f))/\J4f mA (fs.map (·.1))/\fs.length<=1000/\H dx=some (.own a):=by
 obtain ⟨d,z,ne,ob,mA,n,r,q⟩:=(show Zx P w H h a (.ins C dx fs) from hok a _ e)
 exact ⟨mA,⟨ob,n,ne⟩,r,q,z,d⟩
end
structure Cls (K:Qc) (C:Addr):Prop where
 pg:J3n K C Str.empty=true
 hd:J4m K C=true
 po:J6g K C=true
 sa:Ue K (.ref C) "__setattr__" = some (some (.builtin "object.__setattr__"))
theorem Cls.get {K:Qc}{C:Addr}(c:Cls K C) (f:Str):J3n K C f=true:=c.pg
def NoAttr (K:Qc) (C:Addr) (f:Str):Prop:=Ue K (.ref C) f=some none
theorem NoAttr.taker {K:Qc}{C:Addr}{f:Str}(n:NoAttr K C f):J4o K C f=some none:=by
 unfold J4o
 rw [show Ue K (.ref C) f=some none from n]
 rfl
structure Meth (K:Qc) (C:Addr) (m:Str) (f:Addr):Prop where
 at_:Ue K (.ref C) m=some (some (.ref f))
 fn:J2y K (.ref f)=true
 kp:Uf K (.ref f)=true
section
variable {X:Cx}{pins:List (Addr×Obj)}{σ:St}{H:Hp}{s:J8k}{a C dx:Addr}{fs:List (Str×V)}{f:Str}{v:V}{A:J8o}{E:J8i->J8k->Prop}
theorem Jnq {b:Bool}{Q:J8i->J8k->Prop}(I:Inv X pins σ H s) (e:H a=some (.ins C dx fs)) (c:Cls X.K C) (n:NoAttr X.K C f) (l:fs.lookup f=some v)
 (h:∀ u s',Inv X pins σ H s'->Y3 v u->Q u s'):J8l (model X.prog X.w) A (getAttr (.ref a) f b) Q E s:=by
 obtain ⟨mA,O,r,_,_,_⟩:=Jgw I.hok e
 obtain ⟨u,hu,ru⟩:=Ji2.some_of (v:=v) (o:=mA f) (by rw [<- l];exact r f)
 exact Jub I.kIn O (c.get f) c.hd n hu (Jqh ru) (h u _ (I.tok _) ru)
theorem Jhg {m:Str}{g:Addr}{pl:Sem Bool}{Q:J8i×List J8i->J8k->Prop}(I:Inv X pins σ H s) (e:H a=some (.ins C dx fs)) (c:Cls X.K C) (k:Meth X.K C m g) (l:fs.lookup m=none)
 (h:Q (.ref g,[.ref a]) s):J8l (model X.prog X.w) A (getMethod (.ref a) m pl) Q E s:=by
 obtain ⟨mA,O,r,_,_,_⟩:=Jgw I.hok e
 have hn:mA m=none:=Ji2.none_of (by rw [<- l];exact r m)
 exact Jrt I.kIn O (c.get m) k.at_ k.fn hn h
theorem Jnr {y:V}{u:J8i}{Q:Unit->J8k->Prop}(I:Inv X pins σ H s) (e:H a=some (.ins C dx fs)) (c:Cls X.K C) (n:NoAttr X.K C f) (hl:fs.length<1000) (ry:Y3 y u)
 (h:∀ s',Inv X pins σ (upd H a (.ins C dx (putF f y fs))) s'->Q () s'):J8l (model X.prog X.w) A (setAttr (.ref a) f u) Q E s:=by
 obtain ⟨mA,O,r,wi,_,ho⟩:=Jgw I.hok e
 have hz:(fs.map (·.1)).length<=sizeLine:=by rw [Qb,J8p];omega
 refine Juc I.kIn O c.sa c.po n.taker c.hd wi hz λ h' O' sb=>h _ ?_
 have hd:∃ o,h'.get? dx=some o:=let ⟨o,_,_,e',_⟩:=O'.ns;⟨o,e'⟩
 refine I.write (x:=a) (e:=dx) (by rw [e];exact J1w) (.inr ho) (λ b q hb z=>(sb.2 b hb).trans z) hd ?_
 refine ⟨by rw [Jh O.ne];exact ho,?_,O.ne,O'.obj,_,O'.ns,λ g=>?_,λ g hg=>?_⟩
 . have:=Jf9 f y fs;omega
 . show Ji2 ((putF f y fs).lookup g) (if g=f then some u else mA g)
   rw [Jf8]
   by_cases q:g=f
   . rw [if_pos q,if_pos q];exact ry
   . rw [if_neg q,if_neg q];exact r g
 . by_cases q:g=f
   . rw [q];exact (Jfh f y fs).1
   . refine (Jfh f y fs).2 g (wi g λ z=>hg ?_)
     show (if g=f then some u else mA g)=none
     rw [if_neg q];exact z
theorem Inv.made (I:Inv X pins σ H s):Inv X pins σ (upd (upd H s.heap.objs.size (.own (s.heap.objs.size+1))) (s.heap.objs.size+1) (.ins C s.heap.objs.size []))
 { s with heap:=(s.heap.push U2).push (U8 C s.heap.objs.size) }:=by
 have e1:(s.heap.push U2).get? s.heap.objs.size=some U2:=Xd s.heap rfl
 have e2:((s.heap.push U2).push (U8 C s.heap.objs.size)).get? (s.heap.objs.size+1)=some (U8 C s.heap.objs.size):=by
  have:=Xd (s.heap.push U2) (o:=U8 C s.heap.objs.size) rfl
  rwa [Xy] at this
 have e3:(s.heap.push U2).Ns s.heap.objs.size (λ _=>none):=⟨U2,#[],_,e1,rfl,(λ e he=>absurd he (by simp)),λ _=>rfl⟩
 have I1:=I.laid (a:=s.heap.objs.size) (o:=.own (s.heap.objs.size+1)) (h':=s.heap.push U2) (t':=s.toks) (λ b u q=>Qt _ q) (Qm _) ⟨_,e1⟩
 refine I1.laid (a:=s.heap.objs.size+1) (o:=.ins C s.heap.objs.size []) (t':=s.toks) (λ b u q=>Qt _ q) (J3o (Xy _ _)) ?_
 have ne:s.heap.objs.size≠s.heap.objs.size+1:=Xe (J3p _)
 refine ⟨by rw [Jh ne,Jj],Xu _,ne,e2,λ _=>none,(Heap.Ns1.of_empty e3).at λ o q=>Qt _ q,λ _=>J1w,λ y hy=>absurd rfl hy⟩
theorem Jud {prog:J8n}{w:J8m}{env:Env}{e:Expr}{f:Str}{pos:Pos}{s:J8k}{Q:J8i->J8k->Prop}(hb:J9o e f env (eval e env)=eval e env)
 (h:J8l (model prog w) A (eval e env) (λ o s₁=>J8l (model prog w) A (getAttr o f true) Q E s₁) E s):J8l (model prog w) A (eval (.Attribute e f pos) env) Q E s:=
 Attribute_any_ h (by rw [arm_eval_Attribute,hb])
end
def Jns (K:Qc) (ta:TE) (f:Str):TE:=λ σ H Q=>ta σ H λ x H1=>∃ a C dx fs v,x = .ref a/\H1 a=some (.ins C dx fs)/\Cls K C/\NoAttr K C f/\fs.lookup f=some v/\Q v H1
def Jue (K:Qc) (ta tv:TE) (f:Str):TS:=λ D σ H=>tv σ H λ y H1=>ta σ H1 λ x H2=>∃ a C dx fs,x = .ref a/\H2 a=some (.ins C dx fs)/\Cls K C/\NoAttr K C f/\fs.length<1000 /\
 D.nx σ (upd H2 a (.ins C dx (putF f y fs)))
section
variable {X:Cx}{o e value:Expr}{f:Str}{pos pos' tpos:Pos}{ta tv:TE}
theorem Jxe (he:PE X e ta) (hb:J9o e f X.env (eval e X.env)=eval e X.env):PE X (.Attribute e f pos) (Jns X.K ta f):=by
 intro pins s σ H Q I h
 refine Jud hb (thn (he pins s σ H _ I h) λ u s1 ⟨x,H1,I1,rx,a,C,dx,fs,v,ex,ea,c,n,l,q⟩=>?_)
 subst ex
 obtain rfl:u=Q2 a:=rx
 exact Jnq I1 ea c n l λ u' s2 I2 ru=>⟨v,H1,I2,ru,q⟩
theorem Jbq (ha:PE X o ta) (hv:PE X value tv) (hs:J89 value (some (.Attribute o f pos')) pos.line X.env=pure false):PS X (.Assign [.Attribute o f pos'] value pos) (Jue X.K ta tv f):=by
 intro pins s σ H D I h
 refine plainObj_wpAny_Assign_Attribute (thn (hv pins s σ H _ I h) λ u s1 ⟨y,H1,I1,ry,q⟩=>thn (ha pins s1 σ H1 _ I1 q) λ ov s2 ⟨x,H2,I2,rx,a,C,dx,fs,ex,ea,c,n,l,q2⟩=>?_) hs
 subst ex
 obtain rfl:ov=Q2 a:=rx
 exact Jnr I2 ea c n l ry λ s3 I3=>⟨σ,_,I3,q2⟩
end
section
variable {X:Cx}{pins:List (Addr×Obj)}{σ:St}{H:Hp}{s:J8k}{A:J8o}{E:J8i->J8k->Prop}{Q:J8i->J8k->Prop}{c:J8i}{b:Bool}
inductive TyOf (K:Qc) (H:Hp):V->J8i->Prop where
 | non:TyOf K H .non (.type "NoneType")
 | bl (x:Bool):TyOf K H (.bl x) (.type "bool")
 | int (i:Int):TyOf K H (.int i) (.type "int")
 | str (x:Str):TyOf K H (.str x) (.type "str")
 | flt (x:UInt64):TyOf K H (.flt x) (.type "float")
 | lst {a:Addr} {xs:List V} (e:H a=some (.lst xs)):TyOf K H (.ref a) (.type "list")
 | frz {a:Addr} {o:Obj} {xs:List V} (e:H a=some (.frz o (.lst xs))):TyOf K H (.ref a) (.type "list")
 | tup {a:Addr} {xs:List V} (e:H a=some (.tup xs)):TyOf K H (.ref a) (.type "tuple")
 | dK {a:Addr} {kvs:List (Key×V)} (e:H a=some (.dK kvs)):TyOf K H (.ref a) (.type "dict")
 | dT {a:Addr} {kvs:List (List Key×V)} (e:H a=some (.dT kvs)):TyOf K H (.ref a) (.type "dict")
 | ins {a C dx:Addr} {fs:List (Str×V)} (e:H a=some (.ins C dx fs)) (cl:Cls K C) (ha:Ue K (.ref C) "__class__" = some (some (.builtin "object.__class__")))
  (hn:PySem.W.specialIn K (.builtin "object.__class__") "__get__" = some (some (.builtin "getset_descriptor.__get__"))) (htk:PySem.W.takesIn K (.builtin "object.__class__")=some true)
  (hm:PySem.W.mroIn K C (.type "object")=some true):TyOf K H (.ref a) (.ref C)
theorem Jqi {x:V}{u t:J8i}(I:Inv X pins σ H s) (rx:Y3 x u) (ty:TyOf X.K H x t) (e:J4q X.K t c=some b) (h:∀ tk,Q (.bool b) { s with toks:=tk }) :
 J8l (model X.prog X.w) A (call (.builtin "isinstance") [u,c]) Q E s:=by
 cases ty with
 | non=>cases (show u=Ul from rx);exact Uo PySem.W.kitx_none I.kIn J1w e (λ z=>nomatch z) h
 | bl y=>cases (show u=J1u y from rx);exact Uo PySem.W.kitx_bool I.kIn J1w e (λ z=>nomatch z) h
 | int i=>obtain ⟨t,q⟩:=(show ∃ t,u=Uv i t from rx);cases q;exact Uo PySem.W.kitx_int I.kIn J1w e (λ z=>nomatch z) h
 | str y=>obtain ⟨t,q⟩:=(show ∃ t,u=J2a y t from rx);cases q;exact Uo PySem.W.kitx_str I.kIn J1w e (λ z=>nomatch z) h
 | flt y=>obtain ⟨t,q⟩:=(show ∃ t,u=J4e y t from rx);cases q;exact Uo PySem.W.kitx_float I.kIn J1w e (λ z=>nomatch z) h
 | @lst a xs ea=>
  cases (show u=Q2 a from rx)
  obtain ⟨_,_,n,_,h1⟩:=(show Zx X.prog X.w H s.heap a (.lst xs) from I.hok a _ ea)
  exact Uo J6h I.kIn ⟨_,h1,rfl⟩ e (λ z=>nomatch z) h
 | @frz a ob xs ea=>
  cases (show u=Q2 a from rx)
  obtain ⟨_,_,_,n,_,h1⟩:=(show Zx X.prog X.w H s.heap a (.frz ob (.lst xs)) from I.hok a _ ea)
  exact Uo J6h I.kIn ⟨_,h1,rfl⟩ e (λ z=>nomatch z) h
 | @tup a xs ea=>
  cases (show u=Q2 a from rx)
  obtain ⟨_,_,_,p⟩:=(show Zx X.prog X.w H s.heap a (.tup xs) from I.hok a _ ea)
  obtain ⟨o,h1,h2,_⟩:=p
  exact Uo PySem.W.kitx_tuple I.kIn ⟨o,h1,h2⟩ e (λ z=>nomatch z) h
 | @dK a kvs ea=>
  cases (show u=Q2 a from rx)
  obtain ⟨_,_,vs,_,p⟩:=(show Zx X.prog X.w H s.heap a (.dK kvs) from I.hok a _ ea)
  obtain ⟨o,es,ep,h1,h2,_⟩:=p
  exact Uo J6i I.kIn ⟨o,h1,h2.1⟩ e (λ z=>nomatch z) h
 | @dT a kvs ea=>
  cases (show u=Q2 a from rx)
  obtain ⟨_,_,xs,_,o,es,ep,h1,h2,_⟩:=(show Zx X.prog X.w H s.heap a (.dT kvs) from I.hok a _ ea)
  exact Uo J6i I.kIn ⟨o,h1,h2.1⟩ e (λ z=>nomatch z) h
 | @ins a C dx fs ea cl ha hn htk hm=>
  cases (show u=Q2 a from rx)
  obtain ⟨mA,O,_⟩:=Jgw I.hok ea
  obtain ⟨od,J,_⟩:=O.look
  exact Uo (PySem.W.kitx_own (cl.get _) cl.hd ha hn htk hm) I.kIn J e (λ z=>nomatch z) h
end
structure Room (k:Nat) (A:J8o):Prop where
 hd:A.handled=none
 dp:A.depth+3*k+5<recursionLimit
 un:A.units+16*k+200<cLine
 gd:A.guards=some []
theorem Room.mono {j k:Nat}{A:J8o}(r:Room k A) (h:j<=k):Room j A:=⟨r.hd,by have:=r.dp;omega,by have:=r.un;omega,r.gd⟩
theorem Room.deeper {k:Nat}{A:J8o}(r:Room (k+1) A) (env:Env):Room k (A.deeper env):=
 ⟨r.hd,by have:=r.dp;show A.depth+1+3*k+5<_;omega,by have:=r.un;show A.units+3+16*k+200<_;omega,r.gd⟩
theorem Jnt {A:J8o}{C:Addr}{us:List J8i}{kw:List (Str×J8i)}:(A.under (.builtin "type.__call__" ⟨.ref C::us,kw⟩)).depth=A.depth+1:=by
 first | rfl | simp [J3q,Code.weight,Code.isCreation,Code.isGuard,Code.isCaller,Code.frames,Code.isFrame,guardIds]
theorem Jnu {A:J8o}{C:Addr}{us:List J8i}{kw:List (Str×J8i)}:(A.under (.builtin "type.__call__" ⟨.ref C::us,kw⟩)).units=A.units+1:=by
 first | rfl | simp [J3q,Code.cUnits,Code.frames,Code.isFrame]
theorem Room.make {k:Nat}{A:J8o}(r:Room (k+1) A) (C:Addr) (us:List J8i) (kw:List (Str×J8i)):Room k (A.under (.builtin "type.__call__" ⟨.ref C::us,kw⟩)):=
 ⟨r.hd,by have:=r.dp;rw [Jnt];omega,by have:=r.un;rw [Jnu];omega,by first | exact r.gd | (simpa [J3q,Code.guards,pushGuards,Code.isGuard,guardIds] using r.gd)⟩
theorem Room.depth {k:Nat}{A:J8o}(r:Room k A):A.depth<recursionLimit:=by have:=r.dp;omega
theorem Room.units {k:Nat}{A:J8o}(r:Room k A):A.units+64<cLine:=by have:=r.un;omega
def Jbd:TA:=λ _ H Q=>Q [] H
def Yp (ta:TE) (tr:TA):TA:=λ σ H Q=>ta σ H λ x H1=>tr σ H1 λ xs H2=>Q (x::xs) H2
section
variable {X:Cx}{e:Expr}{es:List Expr}{te:TE}{t:TA}{pos:Pos}
theorem Jc:PA X [] Jbd:=λ _ _ _ _ H Q I h=>J4r ⟨[],H,I,.nil,h⟩
theorem Vs (ha:PE X e te) (hr:PA X es t) (hs:starEach (e::es) X.env=(false,eval e X.env)::starEach es X.env:=by rfl):PA X (e::es) (Yp te t):=by
 intro pos pins s σ H Q I h
 rw [hs]
 show J8l _ _ (spliced ((false,eval e X.env)::backTo pos (starEach es X.env))) _ _ s
 refine J4s (thn (ha pins s σ H _ I h) λ u s1 ⟨x,H1,I1,r1,q1⟩=>?_)
 exact thn (hr pos pins s1 σ H1 _ I1 q1) λ us s2 ⟨xs,H2,I2,r2,q2⟩=>⟨x::xs,H2,I2,.cons r1 r2,q2⟩
def Juf (t:TA):TE:=λ σ H Q=>t σ H λ xs H1=>xs.length<=sizeLine/\∀ p,H1 p=none->Q (.ref p) (upd H1 p (.tup xs))
def Jxf (t:TA):TE:=λ σ H Q=>t σ H λ xs H1=>xs.length<=sizeLine/\∀ p,H1 p=none->Q (.ref p) (upd H1 p (.lst xs))
theorem Jxg {x1} (h:PA X es t):PE X (.Tuple es x1 pos) (Juf t):=by
 intro pins s σ H Q I hq
 refine wpAny_Tuple_spliced (thn (h pos pins s σ H _ I hq) λ us s1 ⟨xs,H1,I1,r,z,q⟩=>⟨by rw [<- r.length];exact z,?_⟩)
 have hf:H1 s1.heap.objs.size=none:=I1.hok.fresh (Qm _)
 refine ⟨.ref s1.heap.objs.size,upd H1 s1.heap.objs.size (.tup xs),I1.laid (t':=s1.toks) (λ b u e=>Qt _ e) (Qm _) ?_,rfl,q _ hf⟩
 exact ⟨z,us,r,⟨_,Xd _ rfl,rfl,_,rfl⟩⟩
theorem Jxh (h:PA X es t):PE X (.List es pos) (Jxf t):=by
 intro pins s σ H Q I hq
 refine wpAny_List_spliced (thn (h pos pins s σ H _ I hq) λ us s1 ⟨xs,H1,I1,r,z,q⟩=>⟨by rw [<- r.length];exact z,?_⟩)
 have hf:H1 s1.heap.objs.size=none:=I1.hok.fresh (Qm _)
 refine ⟨.ref s1.heap.objs.size,upd H1 s1.heap.objs.size (.lst xs),I1.laid (t':=s1.toks) (λ b u e=>Qt _ e) (Qm _) ?_,rfl,q _ hf⟩
 exact ⟨z,us,0,r,Xd _ rfl⟩
end
abbrev Sp:=List V->Hp->VK->XK->Prop
abbrev CXT:=List Env->Hp->J8k->XK->J8i->J8k->Prop
structure Env0 (P:J8n) (w:J8m) (K:Qc) (mg:Str->Option J8i) (base:Heap) (A:J8o) (outer:List Env) (s:J8k) (H:Hp):Prop where
 frames:A.frames=some outer
 mod:Mod K mg base
 bs:∀ b o,base.get? b=some o->s.heap.get? b=some o/\H b=none
 bsz:base.objs.size<=s.heap.objs.size
 funs:s.heap.FunFrames base outer
 frf:∀ b∈frs outer,H b=none
 hok:HOk P w H s.heap
 bare:J8z s.gens
def CE (outer:List Env) (P:J8n) (w:J8m) (H:Hp) (s:J8k) (Q:VK) (u:J8i) (s':J8k):Prop:=
 ∃ v H',s'.os=s.os/\J8z s'.gens/\Un (frs outer) [] H H' s.heap s'.heap/\HOk P w H' s'.heap/\Y3 v u/\Q v H'
def CR (CX:CXT) (outer:List Env) (P:J8n) (w:J8m) (H:Hp) (s:J8k) (Q:VK) (E:XK) (r:J81) (s':J8k):Prop:=
 match r with
 | .ok (.ret u)=>CE outer P w H s Q u s'
 | .ok _=>False
 | .error e=>CX outer H s E e s'
structure FnOk (P:J8n) (w:J8m) (K:Qc) (mg:Str->Option J8i) (base:Heap) (CX:CXT) (k:Nat) (f:Addr) (fd:J8t) (ps:List Str) (sp:Sp):Prop where
 len:∀ vs H Q E,sp vs H Q E->vs.length=ps.length
 run:∀ (A:J8o) (outer:List Env) (s:J8k) (H:Hp) (args:Args) (us:List J8i) (vs:List V) (Q:VK) (E:XK),Room k A->Env0 P w K mg base A outer s H->J9a s fd args (ps.zip us)->Yg vs us->sp vs H Q E ->
  J8w (model P w) A (.call (.ref f) args) (CR CX outer P w H s Q E) s
theorem FnOk.imp {P:J8n}{w:J8m}{K:Qc}{mg:Str->Option J8i}{base:Heap}{CX:CXT}{k:Nat}{f:Addr}{fd:J8t}{ps:List Str}{sp sp':Sp}(F:FnOk P w K mg base CX k f fd ps sp)
 (h:∀ vs H Q E,sp' vs H Q E->sp vs H Q E):FnOk P w K mg base CX k f fd ps sp':=
 ⟨λ vs H Q E q=>F.len vs H Q E (h _ _ _ _ q),λ A outer s H args us vs Q E hr he hb hv hs=>F.run A outer s H args us vs Q E hr he hb hv (h _ _ _ _ hs)⟩
theorem Env0.make {P:J8n}{w:J8m}{K:Qc}{mg:Str->Option J8i}{base:Heap}{A:J8o}{outer:List Env}{s:J8k}{H:Hp}(e:Env0 P w K mg base A outer s H) (C:Addr) (us:List J8i) (kw:List (Str×J8i)) :
 Env0 P w K mg base (A.under (.builtin "type.__call__" ⟨.ref C::us,kw⟩)) outer s H:=⟨by first | exact e.frames | (simpa [J3q,Code.envs,Code.isFrame,pushEnvs] using e.frames),e.mod,e.bs,e.bsz,e.funs,e.frf,e.hok,e.bare⟩
section
variable {X:Cx}{pins:List (Addr×Obj)}{σ:St}{H:Hp}{s s':J8k}
theorem Inv.env0 (I:Inv X pins σ H s):Env0 X.prog X.w X.K X.mg X.base X.A X.stack s H:=
 ⟨I.ok.frames,I.ok.mod,I.bs,Xc I.ok.bsz I.sz,I.stack,I.stkFree,I.hok,I.bare⟩
theorem Inv.after {Q:VK}{u:J8i}(I:Inv X pins σ H s) (h:CE X.stack X.prog X.w H s Q u s'):EP X pins σ Q u s':=by
 obtain ⟨v,H',os,bare,un,hok,r,q⟩:=h
 obtain ⟨hh,g,d,t,os'⟩:=s'
 obtain rfl:os'=s.os:=os
 exact ⟨v,H',I.call (h':=hh) (g':=g) (d':=d) (t':=t) (ch:=[]) un hok bare (λ b z=>absurd z (by simp)),r,q⟩
end
def Jjk (sp:Sp) (dvs:List V) (E:XK) (t:TA):TE:=λ σ H Q=>t σ H λ vs H1=>sp (vs++dvs) H1 Q E
def Jga (C:Addr) (m:Str) (sp:Sp) (dvs:List V) (E:XK) (ta:TE) (t:TA):TE:=λ σ H Q=>ta σ H λ x H1=>∃ a dx fs,x = .ref a/\H1 a=some (.ins C dx fs)/\fs.lookup m=none /\
 t σ H1 λ vs H2=>sp (x::(vs++dvs)) H2 Q E
def Jv6 (C:Addr) (sp:Sp) (dvs:List V) (E:XK) (t:TA):TE:=λ σ H Q=>t σ H λ vs H1=>∀ x dx,H1 x=none->H1 dx=none->dx≠x ->
 sp (.ref x::(vs++dvs)) (upd (upd H1 dx (.own x)) x (.ins C dx [])) (λ v H2=>v = .non/\Q (.ref x) H2) E
def Bm (K:Qc) (fd:J8t) (ps:List Str) (ds:List J8i):Prop:=
 ∀ (s:J8k) (us:List J8i),K.In s.heap->(us++ds).length=ps.length->J9a s fd ⟨us,[]⟩ (ps.zip (us++ds))
theorem Bm.all {K:Qc}{fd:J8t}{ps:List Str}(h:∀ us:List J8i,us.length=ps.length->J9b fd ⟨us,[]⟩=pure (ps.zip us)):Bm K fd ps []:=λ s us _ hl=>by
 rw [U3] at hl ⊢
 exact .of_eq (h us hl)
def Jdt (CX:CXT) (X:Cx) (E:XK):Prop:=∀ (pins:List (Addr×Obj)) (σ:St) (H:Hp) (s:J8k) (e:J8i) (s':J8k),Inv X pins σ H s->CX X.stack H s E e s'->X.xe e s'
section
variable {X:Cx}{CX:CXT}{k:Nat}{f C:Addr}{fd:J8t}{ps:List Str}{sp:Sp}{dvs:List V}{ds:List J8i}{E:XK}{x m:Str}{p pos apos:Pos}{e o:Expr}{es:List Expr}{ta:TE}{t:TA}
theorem Jnv {pins:List (Addr×Obj)}{σ:St}{H:Hp}{s:J8k}{Q:VK}{us:List J8i}{vs:List V}(F:FnOk X.prog X.w X.K X.mg X.base CX k f fd ps sp) (hr:Room k X.A) (hb:Bm X.K fd ps ds) (hd:Yg dvs ds) (hx:Jdt CX X E)
 (I:Inv X pins σ H s) (r:Yg vs us) (h:sp (vs++dvs) H Q E):J8l (model X.prog X.w) X.A (call (.ref f) us) (EP X pins σ Q) X.xe s:=by
 have r2:Yg (vs++dvs) (us++ds):=r.append hd
 have hl:(us++ds).length=ps.length:=by rw [<- r2.length];exact F.len _ _ _ _ h
 refine wpAny_call (codeAny_mono (F.run X.A X.stack s H ⟨us,[]⟩ (us++ds) (vs++dvs) Q E hr I.env0 (hb s us I.kIn hl) r2 h) λ r s' hq=>?_)
 cases r with
 | error e=>exact hx pins σ H s e s' I hq
 | ok fl=>
  cases fl with
  | ret u=>exact I.after hq
  | next=>exact X9 hq
  | brk=>exact X9 hq
  | cont=>exact X9 hq
theorem Jug (F:FnOk X.prog X.w X.K X.mg X.base CX k f fd ps sp) (hr:Room k X.A) (hg:Gl X x) (hm:X.mg x=some (.ref f)) (hk:Uf X.K (.ref f)=true) (hb:Bm X.K fd ps ds) (hd:Yg dvs ds) (hx:Jdt CX X E)
 (ha:PA X (e::es) t) (hdb:(x==("__debug__":Str))=false:=by decide) (he:starEach (e::es) X.env=(false,eval e X.env)::starEach es X.env:=by rfl) (hpl:(backTo pos (starEach es X.env)).any (·.1)=false:=by rfl) :
 PE X (.Call (.Name x p) (e::es) [] pos) (Jjk sp dvs E t):=by
 intro pins s σ H Q I h
 refine J9c (Jo4 I hg hm ?_ hdb)
 refine J4t (h₀:=X.base) I.ok.mod.kin hk (thn (ha pos pins s σ H _ I h) λ us s1 ⟨vs,H1,I1,r,q⟩=>⟨I1.kIn,?_⟩) he hpl
 exact Jnv F hr hb hd hx I1 r q
theorem Juh {pl:Sem Bool}(he:PE X o ta) (c:Cls X.K C) (hm:Meth X.K C m f) (F:FnOk X.prog X.w X.K X.mg X.base CX k f fd ps sp) (hr:Room k X.A) (hb:Bm X.K fd ps ds) (hd:Yg dvs ds) (hx:Jdt CX X E) (ha:PA X (e::es) t)
 (hst:starEach (e::es) X.env=(false,eval e X.env)::starEach es X.env:=by rfl) (hpl:(backTo pos (starEach es X.env)).any (·.1)=false:=by rfl)
 (ht:eval (.Call (.Attribute o m apos) (e::es) [] pos) X.env=(do
  let ov <- eval o X.env
  J8y apos.atName
  let (f,first) <- holding [ov] (getMethod ov m pl)
  callWith pos f first (backTo pos (starEach (e::es) X.env)) (backToKw pos (keywordEach [] X.env))):=by rfl) :
 PE X (.Call (.Attribute o m apos) (e::es) [] pos) (Jga C m sp dvs E ta t):=by
 intro pins s σ H Q I h
 refine J6j (pl:=pl) (thn (he pins s σ H _ I h) λ u s1 ⟨x,H1,I1,rx,a,dx,fs,ex,ea,l,q⟩=>?_) ht
 subst ex
 obtain rfl:u=Q2 a:=rx
 refine Jhg I1 ea c hm l ?_
 refine J4t (first:=[.ref a]) (h₀:=X.base) I.ok.mod.kin hm.kp (thn (ha pos pins s1 σ H1 _ I1 q) λ us s2 ⟨vs,H2,I2,r,q2⟩=>⟨I2.kIn,?_⟩) hst hpl
 exact Jnv (us:=.ref a::us) (vs:=.ref a::vs) F hr hb hd hx I2 (.cons rfl r) q2
theorem Jrv {pl:Sem Bool}(he:PE X o ta) (c:Cls X.K C) (hm:Meth X.K C m f) (F:FnOk X.prog X.w X.K X.mg X.base CX k f fd ps sp) (hr:Room k X.A) (hb:Bm X.K fd ps ds) (hd:Yg dvs ds) (hx:Jdt CX X E)
 (ht:eval (.Call (.Attribute o m apos) [] [] pos) X.env=(do
  let ov <- eval o X.env
  J8y apos.atName
  let (f,first) <- holding [ov] (getMethod ov m pl)
  callWith pos f first (backTo pos (starEach [] X.env)) (backToKw pos (keywordEach [] X.env))):=by rfl) :
 PE X (.Call (.Attribute o m apos) [] [] pos) (Jga C m sp dvs E ta Jbd):=by
 intro pins s σ H Q I h
 refine J6j (pl:=pl) (thn (he pins s σ H _ I h) λ u s1 ⟨x,H1,I1,rx,a,dx,fs,ex,ea,l,q⟩=>?_) ht
 subst ex
 obtain rfl:u=Q2 a:=rx
 refine Jhg I1 ea c hm l ?_
 exact PySem.W.callWith_K0 (first:=[.ref a]) I1.kIn hm.kp (Jnv (us:=[.ref a]) (vs:=[.ref a]) F hr hb hd hx I1 (.cons rfl .nil) q)
structure Mk (K:Qc) (C f:Addr):Prop where
 makes:J4p K C=true
 init:Ue K (.ref C) "__init__" = some (some (.ref f))
 fn:J2y K (.ref f)=true
 kp:Uf K (.ref C)=true
theorem Jrw {pins:List (Addr×Obj)}{σ:St}{H:Hp}{s:J8k}{Q:VK}{us:List J8i}{vs:List V}(M:Mk X.K C f) (F:FnOk X.prog X.w X.K X.mg X.base CX k f fd ps sp) (hr:Room (k+1) X.A) (hb:Bm X.K fd ps ds) (hd:Yg dvs ds)
 (hx:Jdt CX X E) (I:Inv X pins σ H s) (r:Yg vs us)
 (h:∀ x dx,H x=none->H dx=none->dx≠x->sp (.ref x::(vs++dvs)) (upd (upd H dx (.own x)) x (.ins C dx [])) (λ v H2=>v = .non/\Q (.ref x) H2) E) :
 J8l (model X.prog X.w) X.A (call (.ref C) us) (EP X pins σ Q) X.xe s:=by
 have hq:=h (s.heap.objs.size+1) s.heap.objs.size (I.hok.fresh (J4u _)) (I.hok.fresh (Qm _)) (Xe (J3p _))
 have I2:=Inv.made (C:=C) I
 have r2:Yg (V.ref (s.heap.objs.size+1)::(vs++dvs)) (Q2 (s.heap.objs.size+1)::(us++ds)):=.cons rfl (r.append hd)
 have hl:(Q2 (s.heap.objs.size+1)::us++ds).length=ps.length:=by
  have e:=r2.length
  rw [F.len _ _ _ _ hq] at e
  exact e.symm
 refine wpAny_call (Jru (f:=f) I.kIn M.makes M.init (beq_iff_eq.mp M.fn) (codeAny_mono (F.run _ X.stack _ _ ⟨Q2 (s.heap.objs.size+1)::us,[]⟩ (Q2 (s.heap.objs.size+1)::(us++ds)) _ _ E (hr.make C us [])
  (I2.env0.make C us []) (hb _ (Q2 (s.heap.objs.size+1)::us) I2.kIn hl) r2 hq) λ r s' hq'=>?_))
 cases r with
 | error e=>exact hx pins σ _ _ e s' I2 hq'
 | ok fl=>
  cases fl with
  | ret u=>
   obtain ⟨v,H',I3,rv,ev,q3⟩:=I2.after hq'
   subst ev
   exact ⟨rv,⟨V.ref (s.heap.objs.size+1),H',I3,rfl,q3⟩⟩
  | next=>exact X9 hq'
  | brk=>exact X9 hq'
  | cont=>exact X9 hq'
theorem Jui (M:Mk X.K C f) (F:FnOk X.prog X.w X.K X.mg X.base CX k f fd ps sp) (hr:Room (k+1) X.A) (hg:Gl X x) (hm:X.mg x=some (.ref C)) (hb:Bm X.K fd ps ds) (hd:Yg dvs ds) (hx:Jdt CX X E)
 (ha:PA X (e::es) t) (hdb:(x==("__debug__":Str))=false:=by decide) (he:starEach (e::es) X.env=(false,eval e X.env)::starEach es X.env:=by rfl) (hpl:(backTo pos (starEach es X.env)).any (·.1)=false:=by rfl) :
 PE X (.Call (.Name x p) (e::es) [] pos) (Jv6 C sp dvs E t):=by
 intro pins s σ H Q I h
 refine J9c (Jo4 I hg hm ?_ hdb)
 refine J4t (h₀:=X.base) I.ok.mod.kin M.kp (thn (ha pos pins s σ H _ I h) λ us s1 ⟨vs,H1,I1,r,q⟩=>⟨I1.kIn,?_⟩) he hpl
 exact Jrw M F hr hb hd hx I1 r q
end
section
variable {X:Cx}{CX:CXT}{k:Nat}{f C:Addr}{fd:J8t}{ps ks:List Str}{sp:Sp}{E:XK}{x m:Str}{p pos apos kpos:Pos}{e o:Expr}{es:List Expr}{kws:List J9d}{te ta:TE}{t tk:TA}{nm:Option Str}
variable {g:List J8i->List J8i->List J8i}{gV:List V->List V->List V}
end
structure FnScope (N P:List Str) (sc:J8q):Prop where
 kind:sc.kind = .function
 co:sc.isCoroutine=false
 gen:sc.isGenerator=false
 nd:N.Nodup
 pre:N.take P.length=P
 par:∀ x∈P,sc.names.lookup x=some .local \/ sc.names.lookup x=some .cell
 nofree:∀ y∈sc.names,y.2≠.free
theorem Jjl {kindOf:Str->Option J8s}{x:Str}:∀ {binds:List (Str×J8i)}{m:Str->Option J8i},(∀ v,(x,v)∉binds)->bindL kindOf binds m x=m x
 | [],_,_=>rfl
 | (n,v)::r,m,h=>by
  unfold bindL
  rw [Jjl λ w hw=>h w (Ql _ hw)]
  split
  . have:x≠n:=by rintro rfl;exact h v Qn
    simp [this]
  . rfl
theorem Jjm {kindOf:Str->Option J8s}{x:Str}:∀ {binds:List (Str×J8i)}{m:Str->Option J8i},(∀ v,(x,v)∉binds)->bindC kindOf binds m x=m x
 | [],_,_=>rfl
 | (n,v)::r,m,h=>by
  unfold bindC
  rw [Jjm λ w hw=>h w (Ql _ hw)]
  split
  . rfl
  . have:x≠n:=by rintro rfl;exact h v Qn
    simp [this]
theorem Jjn {kindOf:Str->Option J8s}{x:Str}{v:J8i}:∀ {P:List Str}{vs:List J8i}{i:Nat}{m:Str->Option J8i},P.Nodup->P[i]? = some x->vs[i]? = some v->kindOf x=some .local ->
 bindL kindOf (P.zip vs) m x=some v
 | [],_,_,_,_,h,_,_=>by simp at h
 | _::_,[],_,_,_,_,h,_=>by simp at h
 | p::P,w::vs,0,m,nd,h1,h2,hk=>by
  simp at h1 h2;subst h1;subst h2
  show bindL kindOf ((p,w)::P.zip vs) m p=_
  unfold bindL
  rw [Jjl λ v hv=>(Xz.mp nd).1 (J1o hv).1,if_pos hk]
  simp
 | p::P,w::vs,i+1,m,nd,h1,h2,hk=>by
  show bindL kindOf ((p,w)::P.zip vs) m x=_
  unfold bindL
  exact Jjn (i:=i) (Xz.mp nd).2 (by simpa using h1) (by simpa using h2) hk
theorem Jjo {kindOf:Str->Option J8s}{x:Str}{v:J8i}:∀ {P:List Str}{vs:List J8i}{i:Nat}{m:Str->Option J8i},P.Nodup->P[i]? = some x->vs[i]? = some v->kindOf x≠some .local ->
 bindC kindOf (P.zip vs) m x=some v
 | [],_,_,_,_,h,_,_=>by simp at h
 | _::_,[],_,_,_,_,h,_=>by simp at h
 | p::P,w::vs,0,m,nd,h1,h2,hk=>by
  simp at h1 h2;subst h1;subst h2
  show bindC kindOf ((p,w)::P.zip vs) m p=_
  unfold bindC
  rw [Jjm λ v hv=>(Xz.mp nd).1 (J1o hv).1,if_neg hk]
  simp
 | p::P,w::vs,i+1,m,nd,h1,h2,hk=>by
  show bindC kindOf ((p,w)::P.zip vs) m x=_
  unfold bindC
  exact Jjo (i:=i) (Xz.mp nd).2 (by simpa using h1) (by simpa using h2) hk
noncomputable def start (N:List Str) (vs:List V):St:=vs.map some++Qp (N.length-vs.length) none
noncomputable def Jnw (CX:CXT) (P:J8n) (w:J8m) (K:Qc) (mg:Str->Option J8i) (base:Heap) (N:List Str) (qual:Str) (scope:J8q) (f:Addr) (cd:J8i) (A:J8o) (outer:List Env) (s:J8k) (H:Hp) (E:XK):Cx where
 prog:=P
 w:=w
 K:=K
 mg:=mg
 base:=base
 A:=A.deeper (envOfC qual scope s.heap.objs.size f cd)
 N:=N
 s₀:=s
 H₀:=H
 env:=envOfC qual scope s.heap.objs.size f cd
 outer:=outer
 stack:=envOfC qual scope s.heap.objs.size f cd::outer
 ex:=[]
 calm:=true
 fn:=λ _=>true
 pn:=[]
 xe:=λ e s'=>J8l (model P w) (A.deeper (envOfC qual scope s.heap.objs.size f cd)) (leaving (envOfC qual scope s.heap.objs.size f cd) e) (λ _ s''=>CX outer H s E e s'') (λ e' s''=>CX outer H s E e' s'') s'
theorem Jlu {sc:J8q}{n:Nat}{x:Str}(h:sc.names.lookup x=some .cell):∃ c,(cellsFrom n sc.names []).lookup x=some c:=by
 have q:=J6k sc.names n [] (.inl h)
 exact Option.isSome_iff_exists.mp q
theorem Jqj {CX:CXT}{P:J8n}{w:J8m}{K:Qc}{mg:Str->Option J8i}{base:Heap}{N ps:List Str}{qual:Str}{scope:J8q}{f:Addr}{cd:J8i}{A:J8o}{outer:List Env}{s s1:J8k}{H:Hp}{E:XK}{us:List J8i}{vs:List V}
 (S:FnScope N ps scope) (hd:A.handled=none) (e0:Env0 P w K mg base A outer s H) (hl:vs.length=ps.length) (r:Yg vs us)
 (x:InCallC s s.heap.objs.size (bindL (envOfC qual scope s.heap.objs.size f cd).kindOf (ps.zip us) λ _=>none) (cellsFrom (s.heap.objs.size+1) scope.names []) (bindC (envOfC qual scope s.heap.objs.size f cd).kindOf (ps.zip us) λ _=>none) s1) :
 Inv (Jnw CX P w K mg base N qual scope f cd A outer s H E) [] (start N vs) H s1:=by
 have hpl:ps.length<=N.length:=by have:=congrArg J2z S.pre;rw [J20] at this;omega
 obtain ⟨h1,tk,rfl,hk⟩:=x.done
 have noA:∀ b:Addr,b∉(Jnw CX P w K mg base N qual scope f cd A outer s H E).ex:=λ b z=>absurd (show b∈([]:List Addr) from z) (by simp)
 refine ⟨⟨e0.mod,S.kind,rfl,rfl,Qm _,λ y z c h1 h2=>?_,λ y hy=>?_,λ y c _ h=>?_,λ _=>hd,Around.frames_deeper e0.frames,.inr ⟨rfl,rfl⟩,λ b z=>absurd z (noA b),e0.bs,e0.bsz,λ b _ _=>noA b,λ b z=>absurd z (noA b),e0.funs,e0.frf⟩,
  rfl,e0.bare,Un.kept hk,⟨_,x.toInCall.ns,λ i y v h1 h2 h3=>?_⟩,λ y c h=>⟨_,x.cell y c h⟩,e0.hok.fresh (Qm _),λ y c h=>?_,λ p hp=>absurd (show p∈([]:List (Addr×Obj)) from hp) (by simp),e0.hok.kept hk,?_⟩
 . exact name_of_addr x.apart (Xt h1) (Xt h2)
 . have hy:scope.names.lookup y=some .cell\/scope.names.lookup y=some .free:=hy
   rcases hy with hy | hy
   . exact Jlu hy
   . exact absurd rfl (S.nofree _ (Xt hy))
 . exact Um (x.above y c (Xt h))
 . have hi:i<vs.length:=by
    unfold start at h2
    by_cases hi:i<vs.length
    . exact hi
    . rw [J1p (by simpa using hi)] at h2
      rw [U4] at h2
      split at h2<;>cases h2
   have ha:vs[i]? = some v:=by
    unfold start at h2
    rw [Up (by simpa using hi),Qk] at h2
    cases e:vs[i]? with
    | none=>rw [e] at h2;cases h2
    | some a=>rw [e] at h2;cases h2;rfl
   obtain ⟨u,hu,rv⟩:=r.get ha
   have hp:ps[i]? = some y:=by
    rw [<- S.pre,List.getElem?_take_of_lt (by omega)];exact h1
   have ndP:ps.Nodup:=by rw [<- S.pre];exact S.nd.sublist (List.take_sublist _ _)
   refine ⟨u,rv,?_⟩
   rcases S.par y (Xo hp) with k | k
   . exact .inl ⟨k,Jjn ndP hp hu k⟩
   . obtain ⟨c,e⟩:=Jlu (n:=s.heap.objs.size+1) k
     refine .inr ⟨.inl k,c,e,?_⟩
     have q:=x.cell y c e
     rw [Jjo ndP hp hu (by show scope.names.lookup y≠_;rw [k];decide)] at q
     exact q
 . exact e0.hok.fresh (Um (x.above y c (Xt h)))
 . unfold start
   show _=N.length
   rw [Xp,Qb,X3]
   omega
theorem Jv7 {CX:CXT}{P:J8n}{w:J8m}{K:Qc}{mg:Str->Option J8i}{base:Heap}{k:Nat}{f:Addr}{name qual:Str}{params:Arguments}{body:List Stmt}{scope:J8q}{dV kV doc pm cdv ct oc:J8i}{an od:Option Addr}
 {osl:Array (Option J8i)} {N ps:List Str} {sp:Sp} (lk:K.lookup f=some ⟨oc,od,.func (X0 name qual params body scope dV kV doc pm an cdv ct),osl⟩) (hcd:J1q K cdv qual=true) (S:FnScope N ps scope)
 (len:∀ vs H Q E,sp vs H Q E->vs.length=ps.length)
 (hbody:∀ (A:J8o) (outer:List Env) (s:J8k) (H:Hp) (vs:List V) (Q:VK) (E:XK),Room k (A.deeper (envOfC qual scope s.heap.objs.size f cdv))->sp vs H Q E ->
  ∃ t,PSs (Jnw CX P w K mg base N qual scope f cdv A outer s H E) body t/\t { nx:=λ _ H'=>Q .non H',rt:=Q } (start N vs) H) :
 FnOk P w K mg base CX (k+1) f (X0 name qual params body scope dV kV doc pm an cdv ct) ps sp:=by
 refine ⟨len,λ A outer s H args us vs Q E hr e0 hb r hsp=>?_⟩
 have hl:=len _ _ _ _ hsp
 have KX:K.In s.heap:=e0.mod.kin.keeps λ b o e=>(e0.bs b o e).1
 have lim:s.heap.NoLimit:=e0.mod.nolimit.keeps λ b o e=>(e0.bs b o e).1
 have hkind:∀ y∈ps.zip us,scope.names.lookup y.1=some .local \/ (scope.names.lookup y.1=some .cell/\((cellsFrom (s.heap.objs.size+1) scope.names []).lookup y.1).isSome=true):=λ ⟨n,v⟩ hy=>by
  rcases S.par n (J1o hy).1 with q | q
  . exact .inl q
  . exact .inr ⟨q,J6k _ _ _ (.inl q)⟩
 refine codeAny_call_function hr.depth (KX _ _ lk) rfl S.co S.gen rfl (PySem.W.codeRec_of KX hcd) (hb _ _ _ _ ?_)
 refine wpAny_newFunctionEnv_cells S.kind hkind λ env he s1 x=>?_
 subst he
 refine ⟨lim.keeps x.toInCall.keep,codeAny_func ?_⟩
 obtain ⟨t,ht,hq⟩:=hbody A outer s H vs Q E (hr.deeper _) hsp
 have I:Inv (Jnw CX P w K mg base N qual scope f cdv A outer s H E) [] (start N vs) H s1:=Jqj S hr.hd e0 hl r x
 refine wpAny_mono (ht [] s1 (start N vs) H _ I hq) (λ fl s' hs=>?_) λ e s' hs=>hs
 have fin:∀ {σ':St} {H':Hp} {v:V} {u:J8i},Inv (Jnw CX P w K mg base N qual scope f cdv A outer s H E) [] σ' H' s'->Y3 v u->Q v H'->CE outer P w H s Q u s':=
  λ {σ' H' v u} J rv q=>⟨v,H',J.os,J.bare,J.base,J.hok,rv,q⟩
 cases fl with
 | ret u=>
  obtain ⟨v,σ',H',J,rv,q⟩:=hs
  exact fin J rv q
 | next=>
  obtain ⟨σ',H',J,q⟩:=hs
  exact fin (v:=V.non) (u:=Ul) J rfl q
 | brk=>
  obtain ⟨_,_,_,q⟩:=hs
  exact X9 q
 | cont=>
  obtain ⟨_,_,_,q⟩:=hs
  exact X9 q
section
variable {X:Cx}{x:Str}{p pos:Pos}{e:Expr}{es:List Expr}{t:TA}{id T:String}{r:List V->Hp->VK->Prop}
def tCB (r:List V->Hp->VK->Prop) (t:TA):TE:=λ σ H Q=>t σ H λ vs H1=>r vs H1 Q
theorem Jw (hc:V3 X (.builtin id) r) (hg:Gl X x) (hm:X.mg x=none) (hv:J88 x=some (.builtin id)) (ha:PA X (e::es) t) (hn:x≠"__name__":=by decide) (hdb:(x==("__debug__":Str))=false:=by decide)
 (he:starEach (e::es) X.env=(false,eval e X.env)::starEach es X.env:=by rfl) (hpl:(backTo pos (starEach es X.env)).any (·.1)=false:=by rfl):PE X (.Call (.Name x p) (e::es) [] pos) (tCB r t):=by
 intro pins s σ H Q I h
 refine J9c (Ja4 I hg hm hv ?_ hn hdb)
 exact PyProof.Rows.callWith_builtin1 (thn (ha pos pins s σ H _ I h) λ us s1 ⟨vs,H1,I1,r1,q1⟩=>hc pins s1 σ H1 vs us Q I1 r1 q1) he hpl
theorem Yj (hc:V3 X (.type T) r) (hg:Gl X x) (hm:X.mg x=none) (hv:J88 x=some (.type T)) (ha:PA X (e::es) t) (hn:x≠"__name__":=by decide) (hdb:(x==("__debug__":Str))=false:=by decide)
 (he:starEach (e::es) X.env=(false,eval e X.env)::starEach es X.env:=by rfl) (hpl:(backTo pos (starEach es X.env)).any (·.1)=false:=by rfl):PE X (.Call (.Name x p) (e::es) [] pos) (tCB r t):=by
 intro pins s σ H Q I h
 refine J9c (Ja4 I hg hm hv ?_ hn hdb)
 exact U9 (thn (ha pos pins s σ H _ I h) λ us s1 ⟨vs,H1,I1,r1,q1⟩=>hc pins s1 σ H1 vs us Q I1 r1 q1) he hpl
end
end L2
namespace HT
open PySem PyProof.Rows
section
open PySem.SeqAt
open PySem.AutoSeq1 (wpAny_loadPart')
open PySem.MeetsSeq PySem.MeetsSeq2 PySem.MeetsSeq3
end
section
variable {prog:J8n}{w:J8m}{A:J8o}{E:J8i->J8k->Prop}{s:J8k}
theorem cat_tup {t b:Addr}{vs ws:List J8i}{Q:J8i->J8k->Prop}(ht:IsTup s.heap t vs.toArray) (hb:IsTup s.heap b ws.toArray) (hv:vs≠[])
 (h1:ws=[]->Q (.ref t) s) (h2:ws≠[]->Q (.ref s.heap.objs.size) { s with heap:=s.heap.push { cls:=.type "tuple",data:=.seq (vs++ws).toArray } })
 (hsz:vs.length+ws.length<=sizeLine):J8l (model prog w) A (binaryOp .Add (.ref t) (.ref b)) Q E s:=by
 obtain ⟨⟨cls,dd,data,sl⟩,ho,hc,n,hd⟩:=id ht
 obtain ⟨⟨cls2,dd2,data2,sl2⟩,ho2,hc2,n2,hd2⟩:=id hb
 simp only at hc hd hc2 hd2
 subst hc hd hc2 hd2
 have e:vs.toArray++ws.toArray=(vs++ws).toArray:=by simp
 by_cases hw:ws=[]
 . exact concat_meets ⟨_,ho,rfl⟩ ⟨_,ho2,rfl⟩ noFill_tuple_add seq_tuple_add J6l J6m (J6n _ _)
    (tuple_addW1 t b vs.toArray ws.toArray n n2 dd dd2 sl sl2 (by simpa using hv) (by simp [hw])) ⟨ho,ho2,h1 hw⟩
 . refine concat_meets ⟨_,ho,rfl⟩ ⟨_,ho2,rfl⟩ noFill_tuple_add seq_tuple_add J6l J6m (J6n _ _)
    (tuple_addW2 t b vs.toArray ws.toArray n n2 dd dd2 sl sl2 (by simpa using hv) (by simpa using hw) (by rw [Q3,Q3];exact hsz)) ⟨ho,ho2,?_⟩
   rw [e]
   exact h2 hw
noncomputable def sIx (n d:Nat):Option Int->Nat
 | none=>d
 | some v=>if v<0 then (v+(n:Int)).toNat else min v.toNat n
theorem sIx_none (n d:Nat):sIx n d none=d:=rfl
theorem sIx_nat (n d k:Nat):sIx n d (some (k:Int))=min k n:=by
 show (if (k:Int)<0 then ((k:Int)+(n:Int)).toNat else min (k:Int).toNat n)=min k n
 rw [if_neg (by omega),Qy]
end
end HT
namespace L2
abbrev TO:=St->Hp->(Option Int->Hp->Prop)->Prop
def PO (X:Cx) (e:Option Expr) (t:TO):Prop:=
 ∀ (pins:List (Addr×Obj)) (s:J8k) (σ:St) (H:Hp) (Q:Option Int->Hp->Prop),Inv X pins σ H s->t σ H Q ->
  J8l (model X.prog X.w) X.A (evalPart e X.env) (λ u s'=>∃ o H',Inv X pins σ H' s'/\IsPart u o/\Q o H') X.xe s
def Jpb:TO:=λ _ H Q=>Q none H
def Jv8 (t:TE):TO:=λ σ H Q=>t σ H λ x H1=>∃ i,x = .int i/\Q (some i) H1
theorem Jbr {ns:List Int}:∀ {us:List J8i},Yg (ns.map V.int) us->J9e us ns:=by
 induction ns with
 | nil=>intro us r;rw [J2c] at r;cases r;exact .nil
 | cons n ns ih=>
  intro us r
  rw [Xa] at r
  cases r with
  | cons r1 r2=>
   obtain ⟨t,e⟩:=r1
   subst e
   exact .cons n t (ih r2)
section
variable {X:Cx}{e:Expr}{te:TE}{lo hi:Option Expr}{tl th:TO}{pos p2:Pos}
theorem Jaq:PO X none Jpb:=by
 intro pins s σ H Q I h
 rw [evalPart_none]
 exact wpAny_pure ⟨none,H,I,.none,h⟩
theorem Jas (h:PE X e te):PO X (some e) (Jv8 te):=by
 intro pins s σ H Q I hw
 rw [evalPart_some]
 refine thn (h pins s σ H _ I hw) λ u s1 ⟨x,H1,I1,r1,q1⟩=>?_
 obtain ⟨i,rfl,q⟩:=q1
 obtain ⟨t,rfl⟩:=r1
 exact ⟨some i,H1,I1,.int i t,q⟩
def SlR (X:Cx) (r:V->Option Int->Option Int->Hp->VK->Prop):Prop:=
 ∀ (pins:List (Addr×Obj)) (s:J8k) (σ:St) (H:Hp) (x:V) (v vl vu:J8i) (lo hi:Option Int) (sl:Addr) (Q:VK),Inv X pins σ H s->Y3 x v->s.heap.IsSliceOf sl vl vu .none->IsPart vl lo->IsPart vu hi->r x lo hi H Q ->
  ∃ T id,typeLookup (.type T) "__getitem__" = pure (some (.builtin id))/\s.TypeIs v T/\J8l (model X.prog X.w) X.A (getItem v (.ref sl)) (EP X pins σ Q) X.xe s
def tSl (r:V->Option Int->Option Int->Hp->VK->Prop) (te:TE) (tl th:TO):TE:=λ σ H Q=>te σ H λ x H1=>tl σ H1 λ l H2=>th σ H2 λ u H3=>r x l u H3 Q
theorem Bn {r:V->Option Int->Option Int->Hp->VK->Prop}(hr:SlR X r) (he:PE X e te) (hl:PO X lo tl) (hu:PO X hi th):PE X (.Subscript e (.Slice lo hi none p2) pos) (tSl r te tl th):=by
 intro pins s σ H Q I h
 refine Subscript_ (thn (he pins s σ H _ I h) λ v s1 ⟨x,H1,I1,r1,q1⟩=>?_)
 refine wpAny_Slice (thn (hl pins s1 σ H1 _ I1 q1) λ vl s2 ⟨l,H2,I2,pl,q2⟩=>thn (hu pins s2 σ H2 _ I2 q2) λ vu s3 ⟨u,H3,I3,pu,q3⟩=>?_)
 rw [evalPart_none]
 refine wpAny_pure ?_
 have I4:Inv X pins σ H3 { s3 with heap:=s3.heap.push { cls:=.type "slice",data:=.fields #[vl,vu,.none] } }:=I3.kept (t':=s3.toks) λ b ob q=>Qt _ q
 obtain ⟨T,id,hT,ht,hg⟩:=hr pins { s3 with heap:=s3.heap.push { cls:=.type "slice",data:=.fields #[vl,vu,.none] } } σ H3 x v vl vu l u s3.heap.objs.size Q I4 r1 (J8f ..) pl pu q3
 show J8l (model X.prog X.w) X.A (subscriptTail e (.Slice lo hi none p2) v (.ref s3.heap.objs.size)) (EP X pins σ Q) X.xe { s3 with heap:=s3.heap.push { cls:=.type "slice",data:=.fields #[vl,vu,.none] } }
 exact tail_any (ops:=[.ref s3.heap.objs.size,v]) ht hT hg (by with_unfolding_all rfl)
noncomputable def Jlv (xs:List V) (lo hi:Option Int):List V:=(xs.drop (HT.sIx xs.length 0 lo)).take (HT.sIx xs.length xs.length hi-HT.sIx xs.length 0 lo)
theorem Jgb (xs:List V) (lo hi:Option Int):(Jlv xs lo hi).length<=xs.length:=by
 unfold Jlv
 rw [J20,J21]
 omega
def Jv9 (K:Qc):R2:=λ x y H Q=>∃ a b xs ys,x = .ref a/\y = .ref b/\SqT K H a xs/\SqT K H b ys/\xs≠[]/\xs.length+ys.length<=sizeLine /\
 (ys=[]->Q (.ref a) H)/\(ys≠[]->∀ p,H p=none->Q (.ref p) (upd H p (.tup (xs++ys))))
theorem Yg.nil_iff {xs:List V}{us:List J8i}(r:Yg xs us):us=[]↔xs=[]:=by
 cases r with
 | nil=>simp
 | cons _ _=>simp
theorem Juj:OpR X (binaryOp .Add) (Jv9 X.K):=by
 intro pins s σ H x y v u Q I rx ry h
 obtain ⟨a,b,xs,ys,rfl,rfl,ha,hb,hx,hz,q1,q2⟩:=h
 cases rx
 cases ry
 obtain ⟨its,r1,p1,_⟩:=I.tuple ha
 obtain ⟨its2,r2,p2,_⟩:=I.tuple hb
 refine HT.cat_tup p1 p2 (λ z=>hx (r1.nil_iff.mp z)) (λ z=>⟨.ref a,H,I,rfl,q1 (r2.nil_iff.mp z)⟩) (λ z=>?_) (by rw [<- r1.length,<- r2.length];exact hz)
 refine ⟨.ref s.heap.objs.size,_,I.laid (t':=s.toks) (o:=.tup (xs++ys)) (λ b ob q=>Qt _ q) (Qm _) ?_,rfl,q2 (λ w=>z (r2.nil_iff.mpr w)) _ (I.hok.fresh (Qm _))⟩
 exact ⟨by rw [Xp];exact hz,_,r1.append r2,J4j _ _⟩
end
noncomputable def ixN (n:Nat) (i:Int):Option Nat:=if 0<=i then (if i<n then some i.toNat else none) else if -(n:Int)<=i then some (i+n).toNat else none
noncomputable def atI {α:Type}(xs:List α) (i:Int):Option α:=(ixN xs.length i).bind λ j=>xs[j]?
theorem Jpc {n:Nat}{i:Int}{j:Nat}(h:ixN n i=some j):seqIndex? i n=some j/\j<n/\-(n:Int)<=i/\i<n:=by
 unfold ixN at h
 by_cases h0:0<=i
 . rw [if_pos h0] at h
   by_cases h1:i<n
   . rw [if_pos h1] at h
     have e:i.toNat=j:=Xr h
     exact ⟨by rw [seqIndex_of h0 h1,e],by omega,by omega,h1⟩
   . rw [if_neg h1] at h;cases h
 . rw [if_neg h0] at h
   by_cases h1:-(n:Int)<=i
   . rw [if_pos h1] at h
     have e:(i+n).toNat=j:=Xr h
     exact ⟨by rw [J9u (by omega) h1,e],by omega,h1,by omega⟩
   . rw [if_neg h1] at h;cases h
theorem Jpd {α:Type}{xs:List α}{i:Int}{v:α}(h:atI xs i=some v):∃ j,seqIndex? i xs.length=some j/\xs[j]? = some v/\j<xs.length/\-(xs.length:Int)<=i/\i<xs.length:=by
 unfold atI at h
 cases e:ixN xs.length i with
 | none=>rw [e] at h;cases h
 | some j=>
  rw [e] at h
  obtain ⟨h1,h2,h3,h4⟩:=Jpc e
  exact ⟨j,h1,h,h2,h3,h4⟩
theorem Jkg {α:Type}{xs:List α}{j:Nat}{v:α}(h:xs[j]? = some v):atI xs (j:Int)=some v:=by
 have hj:j<xs.length:=(Qs.mp h).1
 have e:ixN xs.length (j:Int)=some j:=by
  unfold ixN
  rw [if_pos (by omega),if_pos (by omega)];simp
 unfold atI;rw [e];exact h
def Juk (b:Expr):Prop:=∀ o i,subscripted b false o i=operate [o,i] (getItem o i)
def IxR (X:Cx) (r:R2):Prop:=
 ∀ (value slice:Expr) (pins:List (Addr×Obj)) (s:J8k) (σ:St) (H:Hp) (x y:V) (v u:J8i) (Q:VK),Inv X pins σ H s->Y3 x v->Y3 y u->r x y H Q ->
  subscripted slice false v u=operate [v,u] (getItem v u)->J8l (model X.prog X.w) X.A (subscriptTail value slice v u) (EP X pins σ Q) X.xe s
def MtR (X:Cx) (id:String) (r:V->List V->Hp->VK->Prop):Prop:=
 ∀ (pins:List (Addr×Obj)) (s:J8k) (σ:St) (H:Hp) (x:V) (xs:List V) (v:J8i) (us:List J8i) (Q:VK),Inv X pins σ H s->Y3 x v->Yg xs us->r x xs H Q ->
  J8l (model X.prog X.w) X.A (call (.builtin id) (v::us)) (EP X pins σ Q) X.xe s
section
variable {X:Cx}{a b:Expr}{ta tb:TE}{pos:Pos}
theorem Ji {r:R2}(hr:IxR X r) (ha:PE X a ta) (hb:PE X b tb) (hs:Juk b):PE X (.Subscript a b pos) (tOp r ta tb):=by
 intro pins s σ H Q I h
 exact Subscript_ (Jxa ha hb I h λ v u s2 x y H2 I2 rx ry q=>hr a b pins s2 σ H2 x y v u Q I2 rx ry q (hs _ _))
def Jlw (K:Qc):R2:=λ x y H Q=>∃ p xs i v,x = .ref p/\y = .int i/\SqL K H p xs/\atI xs i=some v/\Q v H
def Jxi (K:Qc):R2:=λ x y H Q=>∃ p xs i v,x = .ref p/\y = .int i/\SqT K H p xs/\atI xs i=some v/\Q v H
theorem Js:IxR X (Jlw X.K):=by
 intro value slice pins s σ H x y v u Q I rx ry h hs
 obtain ⟨p,xs,i,z,rfl,rfl,hq,he,q⟩:=h
 cases rx
 obtain ⟨t,rfl⟩:=ry
 obtain ⟨its,r,pl,hz⟩:=I.list hq
 obtain ⟨j,h1,h2,h3,h4,h5⟩:=Jpd he
 obtain ⟨w,ew,rw'⟩:=r.get h2
 have hl:=r.length
 have hn:=Jhf
 have fin:EP X pins σ Q w s:=⟨z,H,I,rw',q⟩
 by_cases h0:0<=i
 . have hj:i.toNat=j:=by
    rw [seqIndex_of h0 h5] at h1
    exact Xr h1
   exact item_listR pl.isList h0 (by omega) (by rw [hj];simpa using ew) fin hs
 . have hj:(i+(its.toArray.size:Int)).toNat=j:=by
    rw [J9u (by omega) h4] at h1
    rw [Q3,<- hl]
    exact Xr h1
   exact J9w (x:=w) pl.isList.typeIs slot_list_getitem.lookup
    (wpAny_getItem_list_neg (Q:=λ r s'=>r=w/\EP X pins σ Q r s') pl.isList (by omega) (by rw [Q3]<;>omega) (by omega) (by rw [hj];simpa using ew) ⟨rfl,fin⟩) hs
theorem Jp:IxR X (Jxi X.K):=by
 intro value slice pins s σ H x y v u Q I rx ry h hs
 obtain ⟨p,xs,i,z,rfl,rfl,hq,he,q⟩:=h
 cases rx
 obtain ⟨t,rfl⟩:=ry
 obtain ⟨its,r,pl,hz⟩:=I.tuple hq
 obtain ⟨j,h1,h2,h3,h4,h5⟩:=Jpd he
 obtain ⟨w,ew,rw'⟩:=r.get h2
 have hl:=r.length
 have hn:=Jhf
 have fin:EP X pins σ Q w s:=⟨z,H,I,rw',q⟩
 exact J9w (x:=w) pl.typeIs slot_tuple_getitem.lookup
  (getItem_tuple (j:=j) (Q:=λ r s'=>r=w/\EP X pins σ Q r s') pl (by omega) (by omega) (by rw [Q3,<- hl];exact h1) (by simpa using ew) ⟨rfl,fin⟩) hs
theorem Jnx (its:List J8i) (n j:Nat) (u:J8i):J22 (·.setIfInBounds j u) { cls:=.type "list",data:=.seq its.toArray n } = { cls:=.type "list",data:=.seq (its.set j u).toArray n }:=by
 simp [J22]
theorem Inv.lst {pins:List (Addr×Obj)}{σ:St}{H:Hp}{s:J8k}{p:Addr}{xs:List V}(I:Inv X pins σ H s) (h:H p=some (.lst xs)) :
 ∃ (its:List J8i) (n:Nat),Yg xs its/\s.heap.get? p=some { cls:=.type "list",data:=.seq its.toArray n }/\xs.length<=sizeLine:=by
 obtain ⟨z,its,n,r,e⟩:=I.hok p _ h
 exact ⟨its,n,r,e,z⟩
theorem Inv.lstUpd {pins:List (Addr×Obj)}{σ:St}{H:Hp}{s:J8k}{p:Addr}{xs ys:List V}{its its':List J8i}{n n':Nat}{f:Obj->Obj}(I:Inv X pins σ H s) (h:H p=some (.lst xs))
 (ho:s.heap.get? p=some { cls:=.type "list",data:=.seq its.toArray n }) (hf:f { cls:=.type "list",data:=.seq its.toArray n } = { cls:=.type "list",data:=.seq its'.toArray n' }) (r:Yg ys its') (hz:ys.length<=sizeLine) (t:Nat) :
 Inv X pins σ (upd H p (.lst ys)) { s with heap:=s.heap.update p f,toks:=t }:=by
 have e:(s.heap.update p f).get? p=some { cls:=.type "list",data:=.seq its'.toArray n' }:=by
  rw [J3r f ho (by rw [hf]<;>rfl),hf]
 refine I.write (x:=p) (e:=p) (by rw [h];trivial) (.inl rfl) (λ b u hb q=>(U5 _ _ (Qj hb)).trans q) ⟨_,e⟩ ?_
 exact ⟨hz,its',n',r,e⟩
def Jhh:V->V->V->Hp->(Hp->Prop)->Prop:=λ o i v H Q=>∃ p xs k j,o = .ref p/\i = .int k/\H p=some (.lst xs)/\ixN xs.length k=some j/\Q (upd H p (.lst (xs.set j v)))
theorem Yh:Jy3 X Jhh:=by
 intro pins s σ H o i v ov iv u Q I ro ri rv h
 obtain ⟨p,xs,k,j,rfl,rfl,hp,hj,q⟩:=h
 cases ro
 obtain ⟨t,rfl⟩:=ri
 obtain ⟨its,n,r,ho,hz⟩:=I.lst hp
 obtain ⟨h1,h2,h3,h4⟩:=Jpc hj
 have hl:=r.length
 have hn:=Jhf
 have I':Inv X pins σ (upd H p (.lst (xs.set j v))) { s with heap:=s.heap.update p (J22 (·.setIfInBounds j u)) }:=
  I.lstUpd hp ho (Jnx its n j u) (r.set rv j) (by rw [Qq];exact hz) s.toks
 by_cases h0:0<=k
 . have hk:k.toNat=j:=by
    rw [seqIndex_of h0 h4] at h1
    exact Xr h1
   exact PySem.W.ki_setAt ho h0 (by omega) (by rw [Q3,<- hl];exact h4) (by rw [hk];exact ⟨_,I',q⟩)
 . have hk:(k+(its.toArray.size:Int)).toNat=j:=by
    rw [J9u (by omega) h3] at h1
    rw [Q3,<- hl]
    exact Xr h1
   exact PySem.W.ki_setBack ho (by omega) (by rw [Q3,<- hl];exact h3) (by omega) (by rw [hk];exact ⟨_,I',q⟩)
theorem Jkh (lo hi:Option Int) (n:Nat):(sliceBounds lo hi none n).1=((HT.sIx n 0 lo:Nat):Int)/\(sliceBounds lo hi none n).2.1=((HT.sIx n n hi:Nat):Int)/\(sliceBounds lo hi none n).2.2=1:=by
 refine ⟨?_,?_,rfl⟩
 . cases lo with
   | none=>simp [sliceBounds,HT.sIx]
   | some i=>
    simp only [sliceBounds,HT.sIx,Option.getD_none,show (1:Int)>0 by decide,if_true]
    by_cases h:i<0
    . simp only [h,if_true]<;>omega
    . simp only [h,if_false]<;>omega
 . cases hi with
   | none=>simp [sliceBounds,HT.sIx]
   | some i=>
    simp only [sliceBounds,HT.sIx,Option.getD_none,show (1:Int)>0 by decide,if_true]
    by_cases h:i<0
    . simp only [h,if_true]<;>omega
    . simp only [h,if_false]<;>omega
theorem Ji3 (its:List J8i) (lo hi:Option Int):slicePick its.toArray lo hi none=((its.drop (HT.sIx its.length 0 lo)).take (HT.sIx its.length its.length hi-HT.sIx its.length 0 lo)).toArray:=by
 obtain ⟨h1,h2,h3⟩:=Jkh lo hi its.toArray.size
 unfold slicePick
 rw [h1,h2,h3]
 simp only [sliceRange_one,pick_run,Q3]<;>rfl
def Jy9 (K:Qc):V->Option Int->Option Int->Hp->VK->Prop:=λ x lo hi H Q=>∃ a xs,x = .ref a/\SqL K H a xs/\∀ p,H p=none->Q (.ref p) (upd H p (.lst (Jlv xs lo hi)))
theorem Jat:SlR X (Jy9 X.K):=by
 intro pins s σ H x v vl vu lo hi sl Q I rx hs pl pu h
 obtain ⟨a,xs,rfl,hx,q⟩:=h
 cases rx
 obtain ⟨its,r,ht,hz⟩:=I.list hx
 have hlen:=r.length
 refine ⟨"list",_,slot_list_getitem.lookup,ht.isList.typeIs,?_⟩
 refine wpAny_getItem_list_slice ht.isList hs pl pu .none (by simp) ?_ (by rw [Q3]<;>omega)
 rw [Ji3,<- hlen]
 refine ⟨.ref s.heap.objs.size,_,I.laid (t':=s.toks) (o:=.lst (Jlv xs lo hi)) (λ b ob q=>Qt _ q) (Qm _) ?_,rfl,q _ (I.hok.fresh (Qm _))⟩
 exact ⟨Xc (Jgb xs lo hi) hz,_,0,(r.drop (HT.sIx xs.length 0 lo)).take (HT.sIx xs.length xs.length hi-HT.sIx xs.length 0 lo),Xd _ rfl⟩
noncomputable def Jdn:V->Bool
 | .non=>true
 | .bl _=>true
 | .int _=>true
 | .str _=>true
 | _=>false
noncomputable def eqV:V->V->Bool
 | .non,.non=>true
 | .bl a,.bl b=>a==b
 | .bl a,.int b=>(if a then 1 else 0)==b
 | .int a,.bl b=>a==(if b then 1 else 0)
 | .int a,.int b=>a==b
 | .str a,.str b=>a==b
 | _,_=>false
theorem Jxj {A:J8o}{s:J8k}{y x:V}{u v:J8i}(ry:Y3 y u) (rx:Y3 x v) (fy:Jdn y=true) (fx:Jdn x=true):SeqAt.EqAt A s u v (eqV y x):=by
 cases y with
 | non=>
  cases ry
  cases x with
  | non=>cases rx;exact SeqAt.EqAt.same _
  | bl b=>cases rx;exact SeqAt.EqAt.none_bool b
  | int b=>obtain ⟨t,rfl⟩:=rx;exact SeqAt.EqAt.none_int b t
  | str b=>obtain ⟨t,rfl⟩:=rx;exact SeqAt.EqAt.none_str b t
  | _=>exact absurd (show false=true from fx) Q7
 | bl a=>
  cases ry
  cases x with
  | non=>cases rx;exact SeqAt.EqAt.bool_none a
  | bl b=>cases rx;exact SeqAt.EqAt.bool_bool a b
  | int b=>obtain ⟨t,rfl⟩:=rx;exact SeqAt.EqAt.bool_int a b t
  | str b=>obtain ⟨t,rfl⟩:=rx;exact SeqAt.EqAt.bool_str a b t
  | _=>exact absurd (show false=true from fx) Q7
 | int a=>
  obtain ⟨t',rfl⟩:=ry
  cases x with
  | non=>cases rx;exact SeqAt.EqAt.int_none a t'
  | bl b=>cases rx;exact SeqAt.EqAt.int_bool a t' b
  | int b=>obtain ⟨t,rfl⟩:=rx;exact SeqAt.EqAt.int_int a t' b t
  | str b=>obtain ⟨t,rfl⟩:=rx;exact J57 a t' b t
  | _=>exact absurd (show false=true from fx) Q7
 | str a=>
  obtain ⟨t',rfl⟩:=ry
  cases x with
  | non=>cases rx;exact SeqAt.EqAt.str_none a t'
  | bl b=>cases rx;exact SeqAt.EqAt.str_bool a t' b
  | int b=>obtain ⟨t,rfl⟩:=rx;exact J58 a t' b t
  | str b=>obtain ⟨t,rfl⟩:=rx;exact SeqAt.EqAt.str_str a t' b t
  | _=>exact absurd (show false=true from fx) Q7
 | _=>exact absurd (show false=true from fy) Q7
noncomputable def eqU (x:V) (u:J8i):Bool:=match u with
 | .none=>eqV .non x
 | .bool b=>eqV (.bl b) x
 | .int i _=>eqV (.int i) x
 | .str z _=>eqV (.str z) x
 | _=>false
theorem Jrx {x y:V}{u:J8i}(r:Y3 y u) (f:Jdn y=true):eqU x u=eqV y x:=by
 cases y with
 | non=>cases r;rfl
 | bl b=>cases r;rfl
 | int i=>obtain ⟨t,rfl⟩:=r;rfl
 | str z=>obtain ⟨t,rfl⟩:=r;rfl
 | _=>exact absurd (show false=true from f) Q7
theorem Jef {x:V}:∀ {xs:List V}{us:List J8i},Yg xs us->xs.all Jdn=true->us.any (eqU x)=xs.any λ y=>eqV y x
 | _,_,.nil,_=>rfl
 | y::xs,u::us,.cons r t,f=>by
  rw [J2d,Ua] at f
  rw [J23,J23,Jrx r f.1,Jef t f.2]
theorem Jcf {A:J8o}{s:J8k}{x:V}{v:J8i}(rx:Y3 x v) (fx:Jdn x=true):∀ {xs:List V}{us:List J8i},Yg xs us->xs.all Jdn=true->∀ u∈us,SeqAt.EqAt A s u v (eqU x u)
 | _,_,.nil,_=>λ u hu=>by cases hu
 | y::xs,u::us,.cons r t,f=>λ u' hu=>by
  rw [J2d,Ua] at f
  rcases Qh.mp hu with rfl | hu
  . rw [Jrx r f.1];exact Jxj r rx f.1 fx
  . exact Jcf rx fx t f.2 u' hu
noncomputable def inV (x:V) (xs:List V):Bool:=xs.any λ y=>eqV y x
def rIn (K:Qc) (neg:Bool):R2:=λ x y H Q=>∃ p xs,y = .ref p/\(SqL K H p xs\/SqT K H p xs)/\Jdn x=true/\xs.all Jdn=true/\Q (.bl (if neg then !inV x xs else inV x xs)) H
theorem Jfi:OpR X (compareOp .In) (rIn X.K false):=by
 intro pins s σ H x y v u Q I rx ry h
 obtain ⟨p,xs,rfl,hq,fx,fs,q⟩:=h
 cases ry
 rcases hq with hq | hq
 . obtain ⟨its,r,pl,hz⟩:=I.list hq
   refine SeqAt.in_listAt (eqU x) pl.isList (λ w hw=>Jcf rx fx r fs w (by simpa using hw)) ⟨.bl _,H,I,rfl,?_⟩
   rw [show its.toArray.any (eqU x)=its.any (eqU x) by simp,Jef r fs]
   exact q
 . obtain ⟨its,r,pl,hz⟩:=I.tuple hq
   refine SeqAt.in_tupleAt (eqU x) pl (λ w hw=>Jcf rx fx r fs w (by simpa using hw)) ⟨.bl _,H,I,rfl,?_⟩
   rw [show its.toArray.any (eqU x)=its.any (eqU x) by simp,Jef r fs]
   exact q
theorem Jbs:OpR X (compareOp .NotIn) (rIn X.K true):=by
 intro pins s σ H x y v u Q I rx ry h
 obtain ⟨p,xs,rfl,hq,fx,fs,q⟩:=h
 cases ry
 rcases hq with hq | hq
 . obtain ⟨its,r,pl,hz⟩:=I.list hq
   refine SeqAt.notIn_listAt (eqU x) pl.isList (λ w hw=>Jcf rx fx r fs w (by simpa using hw)) ⟨.bl _,H,I,rfl,?_⟩
   rw [show its.toArray.any (eqU x)=its.any (eqU x) by simp,Jef r fs]
   exact q
 . obtain ⟨its,r,pl,hz⟩:=I.tuple hq
   refine SeqAt.notIn_tupleAt (eqU x) pl (λ w hw=>Jcf rx fx r fs w (by simpa using hw)) ⟨.bl _,H,I,rfl,?_⟩
   rw [show its.toArray.any (eqU x)=its.any (eqU x) by simp,Jef r fs]
   exact q
theorem J1:V3 X (.builtin "len") (λ xs H Q=>∃ p ys,xs=[.ref p]/\(SqL X.K H p ys\/SqT X.K H p ys)/\Q (.int ys.length) H):=by
 intro pins s σ H xs us Q I r h
 obtain ⟨p,ys,rfl,hq,q⟩:=h
 obtain ⟨u,rfl,rx⟩:=Jap r
 cases rx
 have hn:=Jhf
 rcases hq with hq | hq
 . obtain ⟨its,r',pl,hz⟩:=I.list hq
   have hlen:=r'.length
   exact Calls.call_len_list pl.isList (by simp only [Q3]<;>omega) ⟨.int ys.length,H,I.tok _,⟨s.toks+1,by rw [Q3,hlen]⟩,q⟩
 . obtain ⟨its,r',pl,hz⟩:=I.tuple hq
   have hlen:=r'.length
   exact len_tuple pl (by simp only [Q3]<;>omega) ⟨.int ys.length,H,I.tok _,⟨s.toks+1,by rw [Q3,hlen]⟩,q⟩
theorem Wy:V3 X (.type "list") (λ xs H Q=>∃ p ys,xs=[.ref p]/\(SqL X.K H p ys\/SqT X.K H p ys)/\∀ l,H l=none->Q (.ref l) (upd H l (.lst ys))):=by
 intro pins s σ H xs us Q I r h
 obtain ⟨p,ys,rfl,hq,q⟩:=h
 obtain ⟨u,rfl,rx⟩:=Jap r
 cases rx
 have fin:∀ (its:List J8i),Yg ys its->ys.length<=sizeLine->∀ (h':Heap) (c':Nat),(∀ b o',s.heap.get? b=some o'->h'.get? b=some o') ->
  h'.get? s.heap.objs.size=some { cls:=.type "list",dict:=none,data:=.seq its.toArray c',slots:=#[] }->EP X pins σ Q (.ref s.heap.objs.size) { s with heap:=h' }:=λ its r' hz h' c' kp e=>
  ⟨.ref s.heap.objs.size,_,I.laid (t':=s.toks) kp (Qm _) (show Zx X.prog X.w _ h' _ (.lst ys) from ⟨hz,its,c',r',e⟩),rfl,q _ (I.hok.fresh (Qm _))⟩
 rcases hq with hq | hq
 . obtain ⟨its,r',pl,hz⟩:=I.list hq
   have hlen:=r'.length
   obtain ⟨o,ho,hc,n,hd⟩:=pl.isList
   exact call_list_seq p (.inl rfl) ho hc hd (λ h' c' kp e=>fin its r' hz h' c' kp e) (by simp only [Q3]<;>omega)
 . obtain ⟨its,r',pl,hz⟩:=I.tuple hq
   have hlen:=r'.length
   obtain ⟨o,ho,hc,n,hd⟩:=pl
   exact call_list_seq p (.inr rfl) ho hc hd (λ h' c' kp e=>fin its r' hz h' c' kp e) (by simp only [Q3]<;>omega)
theorem Yu:V3 X (.type "tuple") (λ xs H Q=>∃ p ys,xs=[.ref p]/\((SqL X.K H p ys/\∀ l,H l=none->Q (.ref l) (upd H l (.tup ys)))\/(SqT X.K H p ys/\Q (.ref p) H))):=by
 intro pins s σ H xs us Q I r h
 obtain ⟨p,ys,rfl,h⟩:=h
 obtain ⟨u,rfl,rx⟩:=Jap r
 cases rx
 rcases h with ⟨hq,q⟩ | ⟨hq,q⟩
 . obtain ⟨its,r',pl,hz⟩:=I.list hq
   have hlen:=r'.length
   refine call_tuple_list pl.isList (λ h' kp=>?_) (by simp only [Q3]<;>omega)
   have I1:Inv X pins σ H { s with heap:=h' }:=I.kept (t':=s.toks) kp
   have I2:Inv X pins σ (upd H h'.objs.size (.tup ys)) { s with heap:=h'.push { cls:=.type "tuple",data:=.seq its.toArray } }:=
    I1.laid (t':=s.toks) (λ b o e=>Qt _ e) (Qm _) (show Zx X.prog X.w _ _ _ (.tup ys) from ⟨hz,its,r',J4j _ _⟩)
   exact ⟨.ref h'.objs.size,_,I2,rfl,q _ (I1.hok.fresh (Qm _))⟩
 . obtain ⟨its,r',pl,hz⟩:=I.tuple hq
   exact call_tuple_same pl ⟨.ref p,H,I,rfl,q⟩
def tyV (K:Qc) (T:String) (x:V) (H:Hp):Prop:=match x with
 | .str _=>T = "str"
 | .int _=>T = "int"
 | .ref p=>(T = "list"/\∃ xs,SqL K H p xs)\/(T = "tuple"/\∃ o,K.lookup p=some o/\o.cls = .type "tuple"/\o.dict=none) \/
  (T = "dict"/\((∃ kvs,H p=some (.dK kvs))\/∃ kvs,H p=some (.dT kvs)))\/(T = "set"/\∃ S n,H p=some (.set S n))
 | _=>False
theorem Jxk {pins:List (Addr×Obj)}{σ:St}{H:Hp}{s:J8k}{T:String}{x:V}{v:J8i}(I:Inv X pins σ H s) (r:Y3 x v) (ty:tyV X.K T x H) :
 s.TypeIs v T/\∀ a,v = .ref a->∃ ob,s.heap.get? a=some ob/\ob.dict=none:=by
 cases x with
 | str z=>
  obtain ⟨t,rfl⟩:=r
  cases (show T = "str" from ty)
  exact ⟨typeIs_str s z t,λ _ e=>nomatch e⟩
 | int i=>
  obtain ⟨t,rfl⟩:=r
  cases (show T = "int" from ty)
  exact ⟨typeIs_int s i t,λ _ e=>nomatch e⟩
 | ref p=>
  cases r
  rcases ty with ⟨rfl,xs,hq⟩ | ⟨rfl,o,hk,hc,hd⟩ | ⟨rfl,hk⟩ | ⟨rfl,S,n,hk⟩
  . obtain ⟨its,_,pl,_⟩:=I.list hq
    refine ⟨pl.isList.typeIs,λ a e=>?_⟩
    cases e
    obtain ⟨o,n,e,c,hd,_⟩:=pl
    exact ⟨o,e,hd⟩
  . refine ⟨⟨o,I.kIn p o hk,hc⟩,λ a e=>?_⟩
    cases e
    exact ⟨o,I.kIn _ o hk,hd⟩
  . have z:∃ o,s.heap.get? p=some o/\o.ExactDict:=by
     rcases hk with ⟨kvs,hk⟩ | ⟨kvs,hk⟩
     . obtain ⟨_,_,_,_,o,_,_,e,ex,_⟩:=I.hok p _ hk
       exact ⟨o,e,ex⟩
     . obtain ⟨_,_,_,_,o,_,_,e,ex,_⟩:=I.hok p _ hk
       exact ⟨o,e,ex⟩
    obtain ⟨o,e,ex⟩:=z
    refine ⟨⟨o,e,ex.1⟩,λ a e2=>?_⟩
    cases e2
    exact ⟨o,e,ex.2.1⟩
  . obtain ⟨o,_,_,_,e,ex,_⟩:=I.hok p _ hk
    refine ⟨⟨o,e,ex.1⟩,λ a e2=>?_⟩
    cases e2
    exact ⟨o,e,ex.2.1⟩
 | _=>exact X9 ty
def tBM (K:Qc) (T:String) (r:V->List V->Hp->VK->Prop) (to:TE) (t:TA):TE:=λ σ H Q=>to σ H λ x H1=>tyV K T x H1/\t σ H1 λ xs H2=>r x xs H2 Q
variable {o e:Expr}{es:List Expr}{to:TE}{t:TA}{name:Str}{apos cpos:Pos}{T id:String}{r:V->List V->Hp->VK->Prop}
theorem Jjp (pa:PlainAttrs T) (slot:Slot T name id) (hty:typeOf (.builtin id)=pure (.type "method_descriptor")) (hm:MtR X id r) (ho:PE X o to) (ha:PA X (e::es) t)
 (hbase:J9o o name X.env (eval o X.env)=eval o X.env:=by rfl)
 (hfew:((backTo cpos (starEach (e::es) X.env)).all (λ x=>!x.1)&&(backToKw cpos (keywordEach [] X.env)).all (λ x=>x.1.isSome)
  && decide ((e::es).length+([]:List J9d).length+(if ([]:List J9d).isEmpty then 0 else 1)<30))=true:=by rfl)
 (hline:(apos.endLine==cpos.line)=true:=by rfl) (hs:starEach (e::es) X.env=(false,eval e X.env)::starEach es X.env:=by rfl) (hplain:(backTo cpos (starEach es X.env)).any (·.1)=false:=by rfl) :
 PE X (.Call (.Attribute o name apos) (e::es) [] cpos) (tBM X.K T r to t):=by
 intro pins s σ H Q I h
 refine wpAny_Call_method_late hbase hfew hline rfl (thn (ho pins s σ H _ I h) λ v s1 ⟨x,H1,I1,r1,ty,q1⟩=>?_)
 obtain ⟨h1,h2⟩:=Jxk I1 r1 ty
 refine ⟨T,id,pa,slot,hty,h1,h2,?_⟩
 have hA:=ha cpos pins s1 σ H1 _ I1 q1
 rw [hs] at hA ⊢
 refine Calls.callWith_builtin (by show (false||(backTo cpos (starEach es X.env)).any (·.1))=false;rw [hplain]<;>rfl) (Calls.evalArgs_plain ?_)
 exact thn hA λ us s2 ⟨vs,H2,I2,r2,q2⟩=>hm pins s2 σ H2 x vs v us Q I2 r1 r2 q2
end
def MtM (X:Cx) (id:String) (r:V->List V->Hp->VK->Prop):Prop:=
 ∀ (pins:List (Addr×Obj)) (s:J8k) (σ:St) (H:Hp) (x:V) (xs:List V) (v:J8i) (us:List J8i) (Q:VK),Inv X pins σ H s->Y3 x v->Yg xs us->r x xs H Q ->
  J8l (model X.prog X.w) X.A (call (.builtin id) (v::us)) (EP X pins σ Q) X.xe s
theorem Yg.one:∀ {x:V}{us:List J8i},Yg [x] us->∃ u,us=[u]/\Y3 x u
 | _,_,.cons r .nil=>⟨_,rfl,r⟩
theorem Yg.rep {xs:List V}{us:List J8i}(h:Yg xs us):∀ k:Nat,Yg (Qp k xs).flatten (Qp k us).flatten
 | 0=>.nil
 | k+1=>by
  rw [U6,U6,J1x,J1x]
  exact Yg.append h (Yg.rep h k)
theorem Jc9 (its:List J8i):∀ (k:Nat) (acc:List J8i),
 J24 (λ x1 x2=>x1++x2) acc.toArray (Qp k its.toArray)=(acc++(Qp k its).flatten).toArray
 | 0,acc=>by simp
 | k+1,acc=>by
  have e:acc.toArray++its.toArray=(acc++its).toArray:=by simp
  have e2:(acc++its)++(Qp k its).flatten=acc++(Qp (k+1) its).flatten:=by
   rw [U6,J1x,List.append_assoc]
  rw [<- e2,<- Jc9 its k (acc++its),<- e,U6,List.foldl_cons]
section
variable {X:Cx}{pins:List (Addr×Obj)}{σ:St}{H:Hp}{s:J8k}{l b:Addr}{xs ys zs:List V}
theorem Inv.lset {its its':List J8i}{n:Nat}{f:Array J8i->Array J8i}{t':Nat}(I:Inv X pins σ H s) (hH:H l=some (.lst xs))
 (e:s.heap.get? l=some { cls:=.type "list",data:=.seq its.toArray n }) (hf:f its.toArray=its'.toArray) (hv:Yg ys its') (hz:ys.length<=sizeLine) :
 Inv X pins σ (upd H l (.lst ys)) { s with heap:=s.heap.update l (J22 f),toks:=t' }:=by
 have q:=PySem.IsL.update e f
 rw [hf] at q
 refine I.write (x:=l) (e:=l) (by rw [hH];exact trivial) (.inl rfl) (λ b' u hb hu=>(U5 s.heap (J22 f) (Qj hb)).trans hu) ⟨_,q⟩ ?_
 exact ⟨hz,its',_,hv,q⟩
theorem Inv.lnew {its:List J8i}{t':Nat}(I:Inv X pins σ H s) (hv:Yg ys its) (hz:ys.length<=sizeLine) :
 Inv X pins σ (upd H s.heap.objs.size (.lst ys)) { s with heap:=s.heap.push { cls:=.type "list",data:=.seq its.toArray },toks:=t' }:=
 I.laid (λ _ _ q=>Qt _ q) (Qm _) ⟨hz,its,0,hv,Xd _ rfl⟩
theorem Inv.fresh (I:Inv X pins σ H s):H s.heap.objs.size=none:=I.hok.fresh (Qm _)
theorem Inv.lstM (I:Inv X pins σ H s) (hH:H l=some (.lst xs)):xs.length<=sizeLine/\∃ (its:List J8i) (n:Nat),Yg xs its/\xs.length=its.length/\s.heap.get? l=some { cls:=.type "list",data:=.seq its.toArray n }:=by
 obtain ⟨z,its,n,r,e⟩:=I.hok l _ hH
 exact ⟨z,its,n,r,r.length,e⟩
theorem Jlx {n:Nat}(h:n<=sizeLine):J3s n=false:=by
 unfold J3s
 exact decide_eq_false (by omega)
end
section
variable {X:Cx}
def Jpe:V->List V->Hp->VK->Prop:=λ x vs H Q=>∃ l xs y,x = .ref l/\vs=[y]/\H l=some (.lst xs)/\xs.length<sizeLine/\Q .non (upd H l (.lst (xs++[y])))
theorem Vo:MtM X "list.append" Jpe:=by
 intro pins s σ H x vs v us Q I rx rv h
 obtain ⟨l,xs,y,rfl,rfl,hH,hz,q⟩:=h
 cases rx
 obtain ⟨u,rfl,ru⟩:=rv.one
 obtain ⟨z,its,n,r,hl,e⟩:=I.lstM hH
 refine call_meets F.slot_list_append ⟨_,e,rfl⟩ F.entry_list_append (F.args_list_append_2 _ _) (PySem.list_append l its.toArray n u (by rw [Q3];omega)) ⟨e,?_⟩
 refine ⟨.non,_,I.lset (its':=its++[u]) hH e (by simp) (r.append (.cons ru .nil)) ?_,rfl,q⟩
 rw [Xp,J1y]
 omega
def Jza:R2:=λ x y H Q=>∃ l b xs zs,x = .ref l/\y = .ref b/\H l=some (.lst xs)/\H b=some (.lst zs)/\xs.length+zs.length<=sizeLine/\∀ p,H p=none->Q (.ref p) (upd H p (.lst (xs++zs)))
theorem Jfj:OpR X (binaryOp .Add) Jza:=by
 intro pins s σ H x y v u Q I rx ry h
 obtain ⟨l,b,xs,zs,rfl,rfl,hH,hB,hz,q⟩:=h
 cases rx
 cases ry
 obtain ⟨z,its,n,r,hl,e⟩:=I.lstM hH
 obtain ⟨z2,its2,n2,r2,hl2,e2⟩:=I.lstM hB
 refine PySem.P.add_list e e2 ?_ (by rw [Q3,Q3];omega)
 have ea:its.toArray++its2.toArray=(its++its2).toArray:=by simp
 rw [ea]
 exact ⟨.ref _,_,I.lnew (t':=s.toks) (r.append r2) (by rw [Xp];omega),rfl,q _ I.fresh⟩
def Jzb:R2:=λ x y H Q=>∃ l k xs,x = .ref l/\y = .int k/\H l=some (.lst xs)/\-(2^63)<=k/\k<2^63/\xs.length*k.toNat<=sizeLine /\
 ∀ p,H p=none->Q (.ref p) (upd H p (.lst (Qp k.toNat xs).flatten))
theorem Jeg {α:Type}(xs:List α) (k:Nat):(Qp k xs).flatten.length=k*xs.length:=by
 induction k with
 | zero=>simp
 | succ k ih=>rw [U6,J1x,Xp,ih,Nat.succ_mul,Nat.add_comm]
theorem Jaa:OpR X (binaryOp .Mult) Jzb:=by
 intro pins s σ H x y v u Q I rx ry h
 obtain ⟨l,k,xs,rfl,rfl,hH,h1,h2,hz,q⟩:=h
 cases rx
 obtain ⟨t,rfl⟩:=ry
 obtain ⟨z,its,n,r,hl,e⟩:=I.lstM hH
 have hlen:its.toArray.size*k.toNat<=sizeLine:=by rw [Q3,<- hl];exact hz
 have hcap:¬ its.toArray.size*k.toNat>(2^63-1)/8:=by
  have:(sizeLine:Nat)<=(2^63-1)/8:=by decide
  omega
 have hfit:¬ (!Builtin.List.listFitsIndex k)=true:=by
  rw [fitsIndex_both h1 h2]
  exact Q7
 have hlong:¬ J3s (its.toArray.size*k.toNat)=true:=by
  rw [Jlx hlen]
  exact Q7
 have hnew:J24 (λ x1 x2=>x1++x2) #[] (Qp (if its.toArray.isEmpty=true then 0 else k.toNat) its.toArray)=(Qp k.toNat its).flatten.toArray:=by
  have f0:∀ m:Nat,J24 (λ x1 x2=>x1++x2) #[] (Qp m its.toArray)=(Qp m its).flatten.toArray:=λ m=>by
   have:=Jc9 its m []
   rw [J3t] at this
   exact this
  rw [f0]
  cases its with
  | nil=>simp
  | cons a r'=>rw [if_neg (by simp)]
 refine J9x (T:="list") (U:="int") (by decide) ⟨_,e,rfl⟩ (λ s'=>typeIs_int s' k t) noFill_list_mul F.fills_int_mul J6o repeat_list F.slot_int_index.lookup
  (call_meets J6o (typeIs_int s k t) F.entry_int_rmul (F.args_int_rmul_2 _ _) (int___rmul___int_list k t l its.toArray n)
   ⟨e,rfl,⟨_,e,rfl⟩,call_meets F.slot_list_mul ⟨_,e,rfl⟩ F.entry_list_mul (F.args_list_mul_2 _ _) (AutoListH.list___mul___list_int_3 l its.toArray n k t hfit hcap hlong) ⟨e,?_⟩⟩)
 rw [hnew]
 exact ⟨.ref _,_,I.lnew (t':=s.toks) (r.rep k.toNat) (by rw [Jeg,J4v];exact hz),rfl,q _ I.fresh⟩
end
section
variable {prog:J8n}{w:J8m}{A:J8o}{E:J8i->J8k->Prop}{s:J8k}
end
section
variable {X:Cx}
end
section
variable {κ:Type} [DecidableEq κ]
end
section
variable {P:J8n}{w:J8m}{H:Hp}{h:Heap}{a:Addr}
end
section
variable {X:Cx}{pins:List (Addr×Obj)}{σ:St}{H:Hp}{s:J8k}{a:Addr}{y v:V}{u r:J8i}{o:Option V}{A:J8o}{E:J8i->J8k->Prop}
end
section
variable {X:Cx}{pins:List (Addr×Obj)}{σ:St}{H:Hp}{s:J8k}{a:Addr}{kvs:List (Key×V)}{k:Key}{u:J8i}{A:J8o}{E:J8i->J8k->Prop}
end
section
variable {X:Cx}{o i e value:Expr}{pos pos' tpos:Pos}{td ty tv:TE}
end
section
variable {X:Cx}{pos:Pos}
end
section
variable {X:Cx}{pins:List (Addr×Obj)}{σ:St}{H:Hp}{s:J8k}{a:Addr}{y d:V}{u r:J8i}{o:Option V}{A:J8o}{E:J8i->J8k->Prop}
end
section
variable {X:Cx}{o e f:Expr}{apos cpos:Pos}{td ty tx:TE}
end
section
variable {X:Cx}{pins:List (Addr×Obj)}{σ:St}{H:Hp}{s:J8k}{a:Addr}{kvs:List (Key×V)}{A:J8o}{E:J8i->J8k->Prop}
end
section
variable {X:Cx}{pins:List (Addr×Obj)}{σ:St}{H:Hp}{s:J8k}{a:Addr}{y:V}{u:J8i}{A:J8o}{E:J8i->J8k->Prop}
end
end L2
namespace Att
open PySem PySem.W PySem.Calls PyProof.Rows
theorem Jgm {P:Params}{h:Heap}:∀ (ns:List Int) (vs:List J8i),WellAll P h vs (ns.map WData.int)->J9e vs ns:=by
 intro ns
 induction ns with
 | nil=>
  intro vs w
  rw [J2c] at w
  cases w
  exact .nil
 | cons n ns ih=>
  intro vs w
  rw [Xa] at w
  cases w with
  | cons a b=>
   cases a
   exact .cons _ _ (ih _ b)
theorem Jqk {l:OpenLaw}{n:Nat}(hn:l.most=some n) {P:Params}{h:Heap}{args:List WData}{vals:List J8i}
 (hpre:l.row.toRowW.claim.pre args=true) (hwl:WellAll P h vals args) :
 ∃ a vs ns,vals=[Q2 a]/\args=[WData.list (ns.map WData.int)]/\h.get? a=some { cls:=.type "list",data:=.seq vs.toArray }/\J9e vs ns/\ns.length<=n:=by
 have hsh:WShape.hasAll [] args [.list .int]=true:=(pre_splitW hpre).1
 have hc:l.pre.holds [] { args:=args }=true:=(pre_splitW hpre).2
 obtain ⟨d,r,rfl,h1,h2⟩:=hasAllW_cons hsh
 obtain rfl:=hasAllW_nil h2
 obtain ⟨xs,rfl,h3⟩:=hasW_list h1
 obtain ⟨ns,rfl⟩:=items_int h3
 have hlen:ns.length<=n:=by
  unfold OpenLaw.pre at hc
  have h4:(WTm.not (.lt (.lit (.int (n:Int))) (.len (.arg 0)))).holds [] { args:=[.list (ns.map .int)] }=true:=by
   have h4:=(holds_andW hc).1
   rw [hn] at h4
   exact h4
  have h5:=condW_of h4 (w_not (w_lt w_lit (w_len_list (w_arg rfl))))
  rw [Qb] at h5
  refine J2e λ q=>?_
  have q':(n:Int)<((ns.length:Nat):Int):=by omega
  first
   | (rw [decide_eq_true q'] at h5;exact absurd h5 (by decide))
   | (simp at h5;omega)
 cases hwl with
 | cons w1 w2=>
  cases w2
  cases w1 with
  | list ho hall=>exact ⟨_,_,ns,rfl,rfl,ho,Jgm ns _ hall,hlen⟩
theorem Jql (l:OpenLaw) (args:List WData):l.row.toRowW.claim.post args (.bool true) args=true:=
 postW_of (r:=l.row.toRowW) (X:=(true==true))
  (show WShape.has [] (.bool true) .bool=true by first | rfl | decide | simp [WShape.has,WShape.arms,WShape.armsAll])
  (show (WTm.eq .res (.lit (.bool true))).value [] { args:=args,res:=some (.bool true),after:=args }=some (.bool (true==true)) from w_eq_bool (w_res rfl) w_lit) rfl
theorem attach_call {l:OpenLaw}{n:Nat}{q:J8n}{loose:List Str}{XP:(Str->Option J8i)->Heap->Prop}{YP:J8m->Heap->Prop}{d:DefRec}
 (hn:l.most=some n) (hdf:d.params.defaults=[])
 (call:∀ (w:J8m) (s₀ s₁:J8k) (mg mb:Str->Option J8i) (fa:Addr) (o:Obj) (pm cd doc:J8i) (a:Addr) (vs:List J8i) (ns:List Int),
  Ground q loose [] XP w s₀ mg mb s₁.heap->YP w s₁.heap ->
  s₁.heap.get? fa=some o->o.data = .func (docDef d.name d.params d.body d.scope pm cd doc)->s₁.heap.CodeRec cd d.name->mg d.name=some (.ref fa) ->
  s₁.heap.get? a=some { cls:=.type "list",data:=.seq vs.toArray }->J9e vs ns->ns.length<=n->s₁.gens = #[] ->
  J8w (model l.prog w) J85 (.call (.ref fa) ⟨[.ref a],[]⟩) (λ r s'=>r = .ok (.ret (.bool true))/\OldK s₁.heap s'.heap/\s'.os=s₁.os/\J8z s'.gens) s₁) :
 WalkO q loose XP YP l.row.toRowW d [] (λ f vs=>J4w f vs):=by
 intro w s₀ s₁ mg mb G Y fa o pm cd doc dV kV ho hd hcd hD hmg hg args vals as hpre hlay hrd hwl hlo
 obtain rfl:dV = .none:=Dflts.none hD hdf
 obtain rfl:kV = .none:=Dflts.noKw hD
 obtain ⟨a,vs,ns,rfl,rfl,hobj,hints,hlen⟩:=Jqk hn hpre hwl
 refine enter_call (codeAny_mono (call w s₀ s₁ mg mb fa o pm cd doc a vs ns G Y ho (fd_plain hd) hcd hmg hobj hints hlen hg) λ r s' hq=>?_)
 obtain ⟨rfl,h2,h3,h4⟩:=hq
 exact ⟨.inl ⟨.bool true,.bool true,[],rfl,λ _=>rfl,.bool true,Jql l _,λ _=>⟨J8g,λ _ hm=>(nomatch hm)⟩⟩,h2,h3,h4⟩
section
variable {prog:J8n}{w:J8m}{A:J8o}{E:J8i->J8k->Prop}{s:J8k}{K:Frag}
end
end Att
namespace L2
theorem Jjq:∀ {vs:List J8i}{ns:List Int},J9e vs ns->Yg (ns.map V.int) vs
 | _,_,.nil=>.nil
 | _,_,.cons n t h=>.cons ⟨t,rfl⟩ (Jjq h)
def Jxl (H:Hp):Prop:=∀ b,H b=none\/∃ o xs,H b=some (.frz o (.lst xs))
theorem Jry {P:J8n}{w:J8m}{K:Qc}{mg mb:Str->Option J8i}{CX:CXT}{k:Nat}{fa a:Addr}{fd:J8t}{x:Str}{sp:Sp}{s₁:J8k}{vs:List J8i}{ns:List Int}
 (KX:K.In s₁.heap) (hns:s₁.heap.Ns J8v mg) (hb:s₁.heap.Ns J9h mb) (hbb:∀ x:Str,x≠"__name__"->mb x=J88 x) (hlim:s₁.heap.NoLimit) (hg:s₁.gens = #[])
 (ha:s₁.heap.get? a=some { cls:=.type "list",data:=.seq vs.toArray }) (hi:J9e vs ns) (hl:ns.length<=sizeLine) (hr:Room k J85)
 (F:∀ base:Heap,K.In base->base.Ns J8v mg->FnOk P w K mg base CX k fa fd [x] sp) (hbind:∀ (s:J8k) (u:J8i),J9a s fd ⟨[u],[]⟩ [(x,u)])
 (hsp:∀ H:Hp,Jxl H->SqL K H a (ns.map V.int)->sp [.ref a] H (λ v _=>v = .bl true) λ _ _ _=>False)
 (hCX:∀ H e s',CX [] H s₁ (λ _ _ _=>False) e s'->False) :
 J8w (model P w) J85 (.call (.ref fa) ⟨[.ref a],[]⟩) (λ r s'=>r = .ok (.ret (.bool true))/\OldK s₁.heap s'.heap/\s'.os=s₁.os/\J8z s'.gens) s₁:=by
 have rv:=Jjq hi
 have lenV:=hi.length
 -- from an abstract heap in which nothing but the script may be tracked
 have core:∀ H:Hp,Jxl H->SqL K H a (ns.map V.int)->HOk P w H s₁.heap->(∀ b,H b≠none->b=a)->(H a≠none->K.lookup a=none) ->
  J8w (model P w) J85 (.call (.ref fa) ⟨[.ref a],[]⟩) (λ r s'=>r = .ok (.ret (.bool true))/\OldK s₁.heap s'.heap/\s'.os=s₁.os/\J8z s'.gens) s₁:=by
  intro H hO hS hok hA hK
  have base_of:∀ {b:Addr} {o:Obj},s₁.heap.get? b=some o->H b=none->(Jkb s₁.heap H).get? b=some o:=λ e n=>Jrh e n
  have noA:∀ {b:Addr} {o:Obj} {es:Array DictEntry} {ep:Nat},s₁.heap.get? b=some o->o.data = .dict es ep->H b=none:=λ {b o es ep} e d=>by
   cases q:H b with
   | none=>rfl
   | some u=>
    have e':b=a:=hA b (by rw [q];simp)
    subst e'
    rw [ha] at e;cases e
    have d':J25 vs.toArray _=Data.dict es ep:=d
    cases d'
  have nsK:∀ {b:Addr} {m:Str->Option J8i},s₁.heap.Ns b m->(Jkb s₁.heap H).Ns b m:=λ {b m} ⟨o,es,ep,e,d,r⟩=>⟨o,es,ep,base_of e (noA e d),d,r⟩
  have hKb:K.In (Jkb s₁.heap H):=λ b o e=>base_of (KX b o e) (by
   cases q:H b with
   | none=>rfl
   | some u=>
    have e':b=a:=hA b (by rw [q];simp)
    subst e'
    rw [hK (by rw [q];simp)] at e;cases e)
  have hM:Mod K mg (Jkb s₁.heap H):=⟨hKb,nsK hns,⟨mb,nsK hb,hbb⟩,let ⟨mc,h1,h2⟩:=hlim;⟨mc,nsK h1,h2⟩⟩
  have e0:Env0 P w K mg (Jkb s₁.heap H) J85 [] s₁ H:=⟨rfl,hM,λ b o e=>Jt5 e,J3o (Jqa _ _),trivial,λ b hb=>absurd (show b∈([]:List Addr) from hb) (by simp),hok,.of_eq hg⟩
  refine codeAny_mono ((F _ hKb (nsK hns)).run J85 [] s₁ H ⟨[.ref a],[]⟩ [.ref a] [.ref a] _ _ hr e0 (hbind s₁ (.ref a)) (.cons rfl .nil) (hsp H hO hS)) λ r s' h=>?_
  cases r with
  | error e=>exact (hCX H e s' h).elim
  | ok fl=>
   cases fl with
   | next=>exact X9 h
   | brk=>exact X9 h
   | cont=>exact X9 h
   | ret u=>
    obtain ⟨v,H',os,bare,un,hok',r',q⟩:=h
    have q':v = .bl true:=q
    subst q'
    obtain rfl:u=J1u true:=r'
    refine ⟨rfl,OldK.of_keep λ b o e=>?_,os,bare⟩
    cases q:H b with
    | none=>exact un.keep b o e q (by intro z;exact absurd (show b∈([]:List Addr) from z) (by simp)) (by simp)
    | some u=>
     rcases hO b with z | ⟨ob,xs,z⟩
     . rw [q] at z;cases z
     . have z2:=un.frzs b ob _ z
       obtain ⟨e1,_⟩:=hok b _ z
       obtain ⟨e2,_⟩:=hok' b _ z2
       rw [e] at e1;cases e1
       exact e2
 cases hk:K.lookup a with
 | some o=>
  -- the script is one of the module's own objects
  have e:=KX a o hk
  rw [ha] at e
  cases e
  refine core (λ _=>none) (λ _=>.inl rfl) (.inr ⟨_,vs.toArray,_,hk,rfl,rfl,rfl,by rw [Q3,lenV];exact hl,by simpa using rv⟩) (λ b u z=>by have z':(none:Option HO)=some u:=z;cases z') (λ b z=>absurd rfl z) λ z=>absurd rfl z
 | none=>
  refine core (λ b=>if b=a then some (.frz { cls:=.type "list",data:=.seq vs.toArray } (.lst (ns.map V.int))) else none) (λ b=>?_) (.inl (.inr ⟨{ cls:=.type "list",data:=.seq vs.toArray },if_pos rfl⟩)) (λ b u z=>?_) (λ b z=>?_) λ _=>hk
  . by_cases hb:b=a
    . exact .inr ⟨_,_,if_pos hb⟩
    . exact .inl (if_neg hb)
  . by_cases hb:b=a
    . have z':=(if_pos hb).symm.trans z
      cases z'
      subst hb
      exact ⟨ha,by rw [Qb];exact hl,vs,_,rv,ha⟩
    . have z':=(if_neg hb).symm.trans z
      cases z'
  . by_cases hb:b=a
    . exact hb
    . exact absurd (if_neg hb) z
theorem walk_of {l:J4x}{n k:Nat}{q:J8n}{loose:List Str}{XP:(Str->Option J8i)->Heap->Prop}{YP:J8m->Heap->Prop}{d:DefRec}{K:Params->Qc}{CX:J8m->CXT}{sp:J8m->Sp}{x:Str}
 (hn:l.most=some n) (hn2:n<=sizeLine) (hdf:d.params.defaults=[]) (hr:Room k J85)
 (hY:∀ (w:J8m) (h:Heap),YP w h->(K w.params).In h)
 (F:∀ (w:J8m) (mg:Str->Option J8i) (fa:Addr) (h:Heap),(K w.params).In h->h.Ns J8v mg->mg d.name=some (.ref fa) ->
  ∃ fd:J8t,(∀ (s:J8k) (u:J8i),J9a s fd ⟨[u],[]⟩ [(x,u)]) /\
   ∀ base:Heap,(K w.params).In base->base.Ns J8v mg->FnOk l.prog w (K w.params) mg base (CX w) k fa fd [x] (sp w))
 (hsp:∀ (w:J8m) (H:Hp) (a:Addr) (ns:List Int),ns.length<=n->Jxl H->SqL (K w.params) H a (ns.map V.int)->sp w [.ref a] H (λ v _=>v = .bl true) λ _ _ _=>False)
 (hCX:∀ (w:J8m) (H:Hp) (s:J8k) (e:J8i) (s':J8k),CX w [] H s (λ _ _ _=>False) e s'->False) :
 J6p q loose XP YP l.row.toRowW d [] (λ f vs=>J4w f vs):=by
 refine Att.attach_call hn hdf λ w s₀ s₁ mg mb fa o pm cd doc a vs ns G Y ho hd hcd hmg hobj hints hlen hg=>?_
 have KX:=hY w _ Y
 obtain ⟨fd,hb,hF⟩:=F w mg fa _ KX G.T.g hmg
 exact Jry KX G.T.g G.T.b G.T.builtins G.T.nolimit hg hobj hints (Xc hlen hn2) hr hF hb (λ H hO hS=>hsp w H a ns hlen hO hS) λ H e s'=>hCX w H s₁ e s'
noncomputable def Wk (s:Stmt):Arguments:=match s with
 | .FunctionDef _ a _ _ _ _ _ _ _ _=>a
 | _=>{ posonlyargs:=[],args:=[],vararg:=none,kwonlyargs:=[],kw_defaults:=[],kwarg:=none,defaults:=[] }
noncomputable def Zz (s:Stmt):List Stmt:=match s with
 | .FunctionDef _ _ b _ _ _ _ _ _ _=>b
 | _=>[]
noncomputable def Je (s:Stmt):J8q:=match s with
 | .FunctionDef _ _ _ _ _ _ sc _ _ _=>sc
 | _=>{ kind:=.function,names:=[],isGenerator:=false,isCoroutine:=false }
abbrev CX0:CXT:=λ _ _ _ _ _ _=>False
abbrev E0:XK:=λ _ _ _=>False
theorem Jpf {X:Cx}:Jdt CX0 X E0:=λ _ _ _ _ _ _ _ h=>h.elim
structure Fun (K:Qc) (x qual:Str) (st:Stmt) (f:Addr) (fd:J8t):Prop where
 ex:∃ (oc:J8i) (od:Option Addr) (kV doc pm:J8i) (an:Option Addr) (cdv ct:J8i) (osl:Array (Option J8i)),
  fd=X0 x qual (Wk st) (Zz st) (Je st) .none kV doc pm an cdv ct/\K.lookup f=some ⟨oc,od,.func fd,osl⟩/\J1q K cdv qual=true
 kp:Uf K (.ref f)=true
section
variable {P:J8n}{w:J8m}{K:Qc}{mg:Str->Option J8i}{base:Heap}
theorem Fun.ok {x qual:Str}{st:Stmt}{f:Addr}{fd:J8t}{N ps:List Str}{k:Nat}{sp:Sp}(F:Fun K x qual st f fd) (S:FnScope N ps (Je st)) (len:∀ vs H Q E,sp vs H Q E->vs.length=ps.length)
 (hbody:∀ (cdv:J8i) (A:J8o) (outer:List Env) (s:J8k) (H:Hp) (vs:List V) (Q:VK) (E:XK),Room k (A.deeper (envOfC qual (Je st) s.heap.objs.size f cdv))->sp vs H Q E ->
  ∃ t,PSs (Jnw CX0 P w K mg base N qual (Je st) f cdv A outer s H E).nox (Zz st) t/\t { nx:=λ _ H'=>Q .non H',rt:=Q } (start N vs) H):FnOk P w K mg base CX0 (k+1) f fd ps sp:=by
 obtain ⟨oc,od,kV,doc,pm,an,cdv,ct,osl,rfl,lk,hcd⟩:=F.ex
 refine Jv7 lk hcd S len λ A outer s H vs Q E hr hsp=>?_
 obtain ⟨t,h,q⟩:=hbody cdv A outer s H vs Q E hr hsp
 exact ⟨t,h.nox,q⟩
theorem Fun.binds {x qual:Str}{st:Stmt}{f:Addr}{fd:J8t}{ps:List Str}(F:Fun K x qual st f fd)
 (h:∀ (kV doc pm:J8i) (an:Option Addr) (cdv ct:J8i) (us:List J8i),us.length=ps.length->J9b (X0 x qual (Wk st) (Zz st) (Je st) .none kV doc pm an cdv ct) ⟨us,[]⟩=pure (ps.zip us)):Bm K fd ps []:=by
 obtain ⟨oc,od,kV,doc,pm,an,cdv,ct,osl,rfl,lk,hcd⟩:=F.ex
 exact .all (h kV doc pm an cdv ct)
theorem Jhi {x qual:Str}{st:Stmt}{f:Addr}{oc:J8i}{od an:Option Addr}{osl:Array (Option J8i)}{kV doc pm cdv ct:J8i}(l:K.lookup f=some ⟨oc,od,.func (X0 x qual (Wk st) (Zz st) (Je st) .none kV doc pm an cdv ct),osl⟩)
 (c:J1q K cdv qual=true) (k:Uf K (.ref f)=true):Fun K x qual st f (X0 x qual (Wk st) (Zz st) (Je st) .none kV doc pm an cdv ct):=⟨⟨oc,od,kV,doc,pm,an,cdv,ct,osl,rfl,l,c⟩,k⟩
end
theorem Jqm {n:Nat}(h:n<=1000):n<sizeLine:=Ug h (by decide)
section
variable {X:Cx}
theorem pv (i:Nat) {x:Str}{pos:Pos}(hN:X.N[i]? = some x:=by rfl) (hv:Vis X.env.scope x:=by first | exact Qa rfl | exact Qv (Qa rfl) | exact Qv (Qv rfl)) (hd:(x==("__debug__":Str))=false:=by decide)
 (hcd:(x==("__classdict__":Str))=false:=by decide):PE X (.Name x pos) (Z8 i):=Jw6 hN hv hd hcd
end
theorem We {A B:Prop}(h:B):if false=true then A else B:=by
 rw [if_neg Q7]
 exact h
theorem Bt {A B:Prop}(h:A):if true=true then A else B:=by
 rw [if_pos rfl]
 exact h
section
variable {κ:Type} [DecidableEq κ]
end
end L2
set_option maxHeartbeats 4000000
namespace L2
abbrev NoE:J8i->J8k->Prop:=λ _ _=>False
theorem Jgc {prog:J8n}{w:J8m}{A:J8o}{R:J81->J8k->Prop}{s:J8k}{elt target iter:Expr}{ifs:List Expr}{scope:J8q}{pos:Pos}{it acc:J8i}{env:Env}(I:Nat->J8k->Prop)
 (turn:∀ n s,I n s->J8l (model prog w) A (pyNext it) (λ r s₁=>match r with
  | none=>R (.ok .next) s₁
  | some v=>J8l (model prog w) A (letOwnedTupleGo target it v) (λ _ s₁'=>J8l (model prog w) A (assign target env v) (λ _ s₂=>
   J8l (model prog w) A (forIn ifs true λ c r=>if r=true then do let ok <- isTrue c env (eval c env);pure (J2f ok) else pure (J2f r)) (λ ok s₃=>
    if ok=true then J8l (model prog w) A (eval elt env) (λ x s₄=>
     J8l (model prog w) A (call (.builtin "list.append") [acc,x]) (λ _ s₅=>∃ m,m<n/\I m s₅) NoE s₄) NoE s₃
    else ∃ m,m<n/\I m s₃) NoE s₂) NoE s₁') NoE s₁) NoE s)
 (n:Nat) (h:I n s) :
 J8w (model prog w) A (.compLoop (.ListComp elt [⟨target,iter,ifs,0⟩] scope pos) 0 it acc env) R s:=by
 refine codeAny_loop rfl I (λ n s hI=>?_) n h
 show J8l _ A ((compTurn (.ListComp elt [⟨target,iter,ifs,0⟩] scope pos) 0 it acc env).onRaise (λ x=>do noteFrame x env;theTreesLotGoes x)) _ _ s
 refine wpAny_noted ?_
 rw [compTurn_list]
 refine wpAny_bind (wpAny_standAt (wpAny_bind (wpAny_mono (turn n s hI) (λ r s₁ h₁=>?_) λ _ _ f=>f.elim)))
 cases r with
 | none=>exact wpAny_pure h₁
 | some v=>
  refine wpAny_bind (wpAny_mono h₁ (λ _ s₁' h₁'=>wpAny_bind (wpAny_mono h₁' (λ _ s₂ h₂=>wpAny_bind (wpAny_mono h₂ (λ ok s₃ h₃=>?_) λ _ _ f=>f.elim)) λ _ _ f=>f.elim)) λ _ _ f=>f.elim)
  cases ok with
  | false=>exact wpAny_pure ⟨rfl,h₃⟩
  | true=>
   exact wpAny_bind (wpAny_bind (wpAny_mono h₃ (λ x s₄ h₄=>wpAny_bind (wpAny_mono h₄ (λ _ s₅ h₅=>wpAny_pure (wpAny_pure ⟨rfl,h₅⟩)) λ _ _ f=>f.elim)) λ _ _ f=>f.elim))
noncomputable def Yo (env:Env):List (Str×J8s)->List (Str×Addr)->List (Str×Addr)
 | [],cs=>cs
 | (n,k)::r,cs=>Yo env r (if (k==Uh)=true then (n,(env.cells.lookup n).getD 0)::cs else cs)
theorem Bk {scope:J8q}{env:Env}(h:∀ x∈scope.names,x.2 = .free->∃ c,env.cells.lookup x.1=some c):J9f scope env=pure (Yo env scope.names []):=by
 have key:∀ (l:List (Str×J8s)) (cs:List (Str×Addr)),(∀ x∈l,x.2 = .free->∃ c,env.cells.lookup x.1=some c) ->
  (forIn (m:=Sem) l cs λ (x:Str×J8s) (r:List (Str×Addr))=>if (x.2==Uh)=true then (do let c <- cellOf env x.1;pure (J2f ((x.1,c)::r))) else (do pure PUnit.unit;pure (J2f r)))=pure (Yo env l cs):=by
  intro l
  induction l with
  | nil=>intro cs _;rfl
  | cons x r ih=>
   intro cs hx
   obtain ⟨n,k⟩:=x
   rw [J4y]
   by_cases hk:k = .free
   . subst hk
     obtain ⟨c,hc⟩:=hx _ Qn rfl
     have e:cellOf env n=pure c:=by unfold cellOf;rw [show env.cells.lookup n=some c from hc]
     simp only [beq_self_eq_true,if_true,e,pure_bind]
     rw [ih _ λ y hy=>hx y (Ql _ hy)]
     simp only [Yo,beq_self_eq_true,if_true]
     rw [show env.cells.lookup n=some c from hc]
     rfl
   . have hb:(k==Uh)=false:=by simpa using hk
     simp only [hb,J26,if_false,pure_bind]
     rw [ih _ λ y hy=>hx y (Ql _ hy)]
     simp only [Yo,hb,J26,if_false]
 unfold J9f
 have:=key scope.names [] h
 show ((forIn (m:=Sem) scope.names ([]:List (Str×Addr)) _) >>= _)=_
 refine J3u (congrArg (λ z=>z >>= _) (J3u ?_ this)) ?_
 . congr 1
 . rfl
theorem Jdu {env:Env}:∀ {l:List (Str×J8s)}{cs:List (Str×Addr)},(∀ x∈l,x.2 = .free->∃ c,env.cells.lookup x.1=some c)->(∀ p∈cs,env.cells.lookup p.1=some p.2)->∀ p∈Yo env l cs,env.cells.lookup p.1=some p.2
 | [],_,_,hc=>hc
 | (n,k)::r,cs,hx,hc=>by
  unfold Yo
  refine Jdu (λ y hy=>hx y (Ql _ hy)) λ p hp=>?_
  by_cases hk:k = .free
  . subst hk
    simp only [beq_self_eq_true,if_true] at hp
    rcases Qh.mp hp with rfl | hp
    . obtain ⟨c,e⟩:=hx _ Qn rfl
      have e:env.cells.lookup n=some c:=e
      show env.cells.lookup n=some ((env.cells.lookup n).getD 0)
      rw [e]
      rfl
    . exact hc p hp
  . have hb:(k==Uh)=false:=by simpa using hk
    simp only [hb,J26,if_false] at hp
    exact hc p hp
theorem Jhj {env:Env}:∀ {l:List (Str×J8s)}{cs:List (Str×Addr)}{p:Str×Addr},p∈cs->p∈Yo env l cs
 | [],_,_,h=>h
 | (n,k)::r,cs,p,h=>by
  unfold Yo
  refine Jhj ?_
  split
  . exact Ql _ h
  . exact h
theorem Jab {env:Env}:∀ {l:List (Str×J8s)}{cs:List (Str×Addr)}{x:Str},(x,Uh)∈l->∃ c,(x,c)∈Yo env l cs
 | [],_,_,h=>by cases h
 | (n,k)::r,cs,x,h=>by
  unfold Yo
  rcases Qh.mp h with e | h
  . cases e
    simp only [beq_self_eq_true,if_true]
    exact ⟨_,Jhj Qn⟩
  . exact Jab h
theorem Zl {α:Type}{x:Str}{c:α}:∀ {l:List (Str×α)},(x,c)∈l->∃ d,l.lookup x=some d
 | [],h=>by cases h
 | (n,k)::r,h=>by
  rw [Uw]
  cases hx:x==n with
  | true=>exact ⟨k,rfl⟩
  | false=>
   rcases Qh.mp h with e | h
   . cases e;simp at hx
   . exact Zl h
theorem Va {env:Env}{x:Str}:∀ {names:List (Str×J8s)}{k:J8s},
 (names.map λ (n,k)=>if (k==Uh&&env.scope.kind == .function&&env.kindOf n==some .cell) then (n,Ux) else (n,k)).lookup x=some k->names.lookup x=some k\/(k = .cell/\names.lookup x=some .free)
 | [],_,h=>by simp at h
 | (n,j)::r,k,h=>by
  have ih:=@Va env x r k
  rw [Xa] at h
  rw [Uw]
  dsimp only at h
  by_cases hc:(j==Uh&&env.scope.kind == .function&&env.kindOf n==some .cell)=true
  . rw [if_pos hc,Uw] at h
    cases hx:x==n with
    | true=>
     rw [hx] at h
     simp only [Ua] at hc
     have:j = .free:=by simpa using hc.1.1
     subst this
     cases h
     exact .inr ⟨rfl,rfl⟩
    | false=>rw [hx] at h;exact ih h
  . rw [if_neg hc,Uw] at h
    cases hx:x==n with
    | true=>rw [hx] at h;exact .inl h
    | false=>rw [hx] at h;exact ih h
theorem Jbt {env:Env}{x:Str}:∀ {names:List (Str×J8s)},names.lookup x=some .free ->
 (names.map λ (n,k)=>if (k==Uh&&env.scope.kind == .function&&env.kindOf n==some .cell) then (n,Ux) else (n,k)).lookup x=some .cell \/
 (names.map λ (n,k)=>if (k==Uh&&env.scope.kind == .function&&env.kindOf n==some .cell) then (n,Ux) else (n,k)).lookup x=some .free
 | [],h=>by simp at h
 | (n,j)::r,h=>by
  have ih:=@Jbt env x r
  rw [Uw] at h
  rw [Xa]
  dsimp only
  by_cases hc:(j==Uh&&env.scope.kind == .function&&env.kindOf n==some .cell)=true
  . rw [if_pos hc,Uw]
    cases hx:x==n with
    | true=>exact .inl rfl
    | false=>rw [hx] at h;exact ih h
  . rw [if_neg hc,Uw]
    cases hx:x==n with
    | true=>rw [hx] at h;cases h;exact .inr rfl
    | false=>rw [hx] at h;exact ih h
noncomputable def Wf (X:Cx) (N':List Str) (scope:J8q) (C:Addr) (s:J8k) (H:Hp) (fp:List Addr):Cx where
 prog:=X.prog
 w:=X.w
 K:=X.K
 mg:=X.mg
 base:=X.base
 A:=X.A
 N:=N'
 s₀:=s
 H₀:=H
 env:=compEnvC scope (Yo X.env scope.names []) C X.env
 outer:=X.stack
 stack:=X.stack
 ex:=fp
 fn:=λ _=>false
 calm:=X.calm
 pn:=[]
 xe:=NoE
structure CompScope (sc:J8q) (N:List Str) (scope:J8q) (N':List Str) (k:Nat) (idx:List Nat):Prop where
 kind:scope.kind = .function
 nocell:∀ x∈scope.names,x.2≠.cell
 loc:∀ x∈scope.names,x.2 = .local -> scope.names.lookup x.1=some .local
 fr:∀ x∈scope.names,x.2 = .free->sc.names.lookup x.1=some .cell\/sc.names.lookup x.1=some .free
 nd:N'.Nodup
 free:∀ x∈N'.drop k,scope.names.lookup x=some .free
 ix:(N'.drop k).map some=idx.map λ i=>N[i]?
 len:N'.length=k+idx.length
noncomputable def Yv (k:Nat) (idx:List Nat) (σ:St):St:=Qp k none++idx.map λ i=>(σ[i]?).join
section
variable {X:Cx}{pins:List (Addr×Obj)}{σ:St}{H:Hp}{s:J8k}{scope:J8q}{N':List Str}{k:Nat}{idx:List Nat}{sc:J8q}{N:List Str}
theorem Jny (I:Inv X pins σ H s) (S:CompScope sc N scope N' k idx) (hsc:X.env.scope=sc) (hNN:X.N=N) {fp:List Addr}(hf:∀ b∈fp,Jds X pins H b) (hlt:∀ b∈fp,b<s.heap.objs.size) {h':Heap}{t':Nat}
 (hn:h'.Ns s.heap.objs.size (λ _=>none)) (hk:∀ b o,s.heap.get? b=some o->h'.get? b=some o) :
 Inv (Wf X N' scope s.heap.objs.size s H fp) [] (Yv k idx σ) H { s with heap:=h',toks:=t' }:=by
 have hcell:∀ x∈scope.names,x.2 = .free->∃ c,X.env.cells.lookup x.1=some c:=λ x hx hfree=>I.ok.has x.1 (by
  show X.env.scope.names.lookup x.1=_\/X.env.scope.names.lookup x.1=_
  rw [hsc];exact S.fr x hx hfree)
 have hcl:∀ x c,(Yo X.env scope.names []).lookup x=some c->X.env.cells.lookup x=some c:=λ x c e=>Jdu hcell (λ p hp=>by cases hp) (x,c) (Xt e)
 have hok:(Wf X N' scope s.heap.objs.size s H fp).Ok:={
  mod:=I.ok.mod
  kind:=S.kind
  glob:=I.ok.glob
  blt:=I.ok.blt
  above:=Qm _
  inj:=λ x y c e1 e2=>I.ok.inj x y c (hcl x c e1) (hcl y c e2)
  has:=λ x hx=>by
   have hfree:scope.names.lookup x=some .free:=by
    rcases hx with hx | hx
    . rcases Va (env:=X.env) (names:=scope.names) hx with h | ⟨_,h⟩
      . exact absurd rfl (S.nocell _ (Xt h))
      . exact h
    . rcases Va (env:=X.env) (names:=scope.names) hx with h | ⟨h,_⟩
      . exact h
      . cases h
   obtain ⟨c,hc⟩:=Jab (env:=X.env) (cs:=[]) (Xt hfree)
   exact Zl hc
  cab:=λ x c h=>by cases h
  hd:=I.ok.hd
  frames:=I.ok.frames
  stk:=.inl rfl
  exf:=λ b hb=>⟨Xe (hlt b hb),λ x c e=>(hf b hb).2.2.2.2.1 x c (hcl x c e)⟩
  bs:=I.bs
  bsz:=Xc I.ok.bsz I.sz
  noex:=λ b o e hb=>by
   rcases (hf b hb).2.2.2.1 with z | z
   . exact I.ok.noex b o e z
   . exact absurd (Qz (Qr e) (Xc I.ok.bsz z)) (Q4 _)
  exfs:=λ b hb hz=>by
   rcases Qh.mp (I.stkSub b hz) with e | e
   . exact (hf b hb).2.1 e
   . exact (hf b hb).2.2.1 e
  funs:=I.stack
  frf:=I.stkFree }
 refine ⟨hok,rfl,I.bare,Un.kept hk,⟨_,hn,λ i x v e1 e2 e3=>?_⟩,λ x c e=>?_,I.hok.fresh (Qm _),λ x c e=>I.freeC x c (hcl x c e),(λ p hp=>by cases hp),I.hok.kept hk,?_⟩
 . -- a name with a value is one of the others
   have hi:k<=i:=by
    rcases Uq i k with h | h
    . have e2:(Yv k idx σ)[i]? = some (some v):=e2
      unfold Yv at e2
      rw [Up (by simpa using h),U4] at e2
      split at e2<;>cases e2
    . exact h
   have e1':(N'.drop k)[i-k]? = some x:=by
    rw [J4z,show k+(i-k)=i by omega];exact e1
   have hfree:=S.free x (Xo e1')
   have e2':(idx.map λ i=>(σ[i]?).join)[i-k]? = some (some v):=by
    have e2:(Yv k idx σ)[i]? = some (some v):=e2
    unfold Yv at e2
    rw [J1p (by simpa using hi),X3] at e2
    exact e2
   rw [Qk] at e2'
   cases hj:idx[i-k]? with
   | none=>rw [hj] at e2';cases e2'
   | some j=>
    rw [hj] at e2'
    have e3':(σ[j]?).join=some v:=by simpa using e2'
    have eσ:σ[j]? = some (some v):=by
     cases q:σ[j]? with
     | none=>rw [q] at e3';cases e3'
     | some o=>rw [q] at e3';cases o with
      | none=>cases e3'
      | some z=>cases e3';rfl
    have eN:X.N[j]? = some x:=by
     rw [hNN]
     have:=congrArg (λ l=>l[i-k]?) S.ix
     simp only [Qk,e1',hj,Option.map_some] at this
     exact (Xr this).symm
    have hvk:=S.fr _ (Xt hfree) rfl
    obtain ⟨m,hm,hl⟩:=I.loc
    obtain ⟨u,ru,lk⟩:=hl j x v eN eσ (by rw [hsc];exact .inr hvk)
    refine ⟨u,ru,.inr ⟨Jbt (env:=X.env) hfree,?_⟩⟩
    rcases lk with ⟨kl,_⟩ | ⟨_,c,ec,z⟩
    . have kl:X.env.scope.names.lookup x=some .local := kl
      rw [hsc] at kl
      rcases hvk with q | q<;>(rw [kl] at q;cases q)
    . obtain ⟨d,hd⟩:=Jab (env:=X.env) (cs:=[]) (Xt hfree)
      obtain ⟨d',hd'⟩:=Zl hd
      have e:=hcl x d' hd'
      rw [ec] at e
      cases e
      obtain ⟨o,ho,hod⟩:=z
      exact ⟨c,hd',o,hk c o ho,hod⟩
 . obtain ⟨v,o,ho,hod⟩:=I.cell x c (hcl x c e)
   exact ⟨v,o,hk c o ho,hod⟩
 . show (Yv k idx σ).length=N'.length
   unfold Yv
   rw [S.len,Xp,X3,Qb]
end
def PTs (X:Cx) (ifs:List Expr) (t:TT):Prop:=
 ∀ (pins:List (Addr×Obj)) (s:J8k) (σ:St) (H:Hp) (Q:Bool->Hp->Prop),Inv X pins σ H s->t σ H Q ->
  J8l (model X.prog X.w) X.A (forIn ifs true λ c r=>if r=true then do let ok <- isTrue c X.env (eval c X.env);pure (J2f ok) else pure (J2f r)) (TP X pins σ Q) X.xe s
def Jgx:TT:=λ _ H Q=>Q true H
theorem Y7 {X:Cx}:PTs X [] Jgx:=λ pins s σ H Q I h=>wpAny_tests_nil ⟨H,I,h⟩
theorem Jda {X:Cx}{c:Expr}{t:TT}(h:PT X c t):PTs X [c] t:=λ pins s σ H Q I q=>wpAny_tests_one (h pins s σ H Q I q)
def Jki (J:It) (g:TG) (tt:TT) (te:TE) (l:Addr) (σ0:St) (H0:Hp) (Q:Hp->Prop):Prop:=
 ∃ W:Nat->Nat->St->Hp->Prop,(∃ m,W 0 m σ0 H0)/\∀ i m σ H,W i m σ H ->
  (J.stop i H/\Q H)\/(J.go i H/\∀ x H',J.yld i H x H'->g x σ H' λ σ2 H2=>tt σ2 H2 λ c H3=>
   if c=true then te σ2 H3 λ y H4=>∃ xs,H4 l=some (.lst xs)/\xs.length<sizeLine/\∃ m',m'<m/\W (i+1) m' σ2 (upd H4 l (.lst (xs++[y])))
   else ∃ m',m'<m/\W (i+1) m' σ2 H3)
def Jbe (wi:TI) (k:Nat) (idx:List Nat) (g:TG) (tt:TT) (te:TE):TE:=λ σ H Q=>wi σ H λ J H1=>∀ l,H1 l=none->Jki J g tt te l (Yv k idx σ) (upd H1 l (.lst [])) λ H2=>Q (.ref l) H2
section
variable {X:Cx}{tg iter elt:Expr}{ifs:List Expr}{scope sc:J8q}{N N':List Str}{k:Nat}{idx:List Nat}{wi:TI}{g:TG}{tt:TT}{te:TE}{pos:Pos}
structure Free1 (X:Cx) (pins:List (Addr×Obj)) (H:Hp) (C:Addr):Prop where
 loc:C≠X.env.locals
 cel:∀ x c,X.env.cells.lookup x=some c->c≠C
 fr:H C=none
 new:X.s₀.heap.objs.size<=C
 pin:∀ p∈X.pn++pins,p.1≠C
theorem Inv.freed {X:Cx}{pins:List (Addr×Obj)}{σ:St}{H:Hp}{s:J8k}{C:Addr}{h':Heap}(I:Inv X pins σ H s) (f:Free1 X pins H C) (hs:X1 C s.heap h'):Inv X pins σ H { s with heap:=h' }:=
 I.turned (t':=s.toks) (it:=C) (λ b o hb e=>(hs.2 b hb).trans e) f.fr f.loc (.inr f.new) f.cel f.pin
theorem Jhk {pins:List (Addr×Obj)}{s:J8k}{σ:St}{E:J8i->J8k->Prop}{RR:J8i->Addr->J81->J8k->Prop}{itv:J8i}{Qe:Addr->Hp->Prop}
 (hc:X.calm=true) (S:CompScope sc N scope N' k idx) (hsc:X.env.scope=sc) (hNN:X.N=N)
 (hg:∀ C s H fp,PG (Wf X N' scope C s H fp) tg g) (ht:∀ C s H fp,PTs (Wf X N' scope C s H fp) ifs tt) (he:∀ C s H fp,PE (Wf X N' scope C s H fp) elt te)
 (hit:PIE X pins σ tg (λ J H1=>∀ l,H1 l=none->Jki J g tt te l (Yv k idx σ) (upd H1 l (.lst [])) λ H2=>Qe l H2) itv s)
 (hRR:∀ l H2 C s2,Inv X pins σ H2 s2->(∃ m,s2.heap.Ns C m)->Free1 X pins H2 C->Qe l H2->RR (.ref l) C (.ok .next) s2) :
 J8l (model X.prog X.w) X.A (newList []) (λ acc s₃=>J8l (model X.prog X.w) X.A (newFunctionEnv scope X.env.globals (Yo X.env scope.names []) [] X.env.qual none .none (some X.env)) (λ cenv s₄=>
  J8w (model X.prog X.w) X.A (.compStart (.ListComp elt [⟨tg,iter,ifs,0⟩] scope pos) 0 itv acc { cenv with scope:=relabel scope X.env }) (RR acc cenv.locals) s₄) E s₃) E s:=by
 obtain ⟨it,fp,tn,J,H1,rfl,I1,T,st1,f1,q⟩:=hit
 refine wpAny_newObj_type ?_
 have hf0:H1 s.heap.objs.size=none:=I1.hok.fresh (Qm _)
 have hflt:∀ b∈fp,b<s.heap.objs.size:=λ b hb=>let ⟨_,e,_⟩:=T.obj _ _ st1 b hb;Qr e
 generalize hl:s.heap.objs.size=l at *
 have I2:Inv X pins σ (upd H1 l (.lst [])) { s with heap:=s.heap.push { cls:=.type "list",dict:=none,data:=.seq ([]:List J8i).toArray } }:=
  I1.laid (t':=s.toks) (λ b u e=>Qt _ e) (J3o hl) (show Zx _ _ _ _ l (.lst []) from ⟨Xu _,[],0,.nil,by rw [<- hl];exact Xd _ rfl⟩)
 have st2:tn 0 (s.heap.push { cls:=.type "list",dict:=none,data:=.seq ([]:List J8i).toArray }):=T.keep _ _ _ st1 λ b _ o e=>Qt _ e
 have f2:∀ b∈fp,Jds X pins (upd H1 l (.lst [])) b:=λ b hb=>⟨by rw [Jh (Xe (hflt b hb))];exact (f1 b hb).1,(f1 b hb).2⟩
 have hsz2:(s.heap.push { cls:=.type "list",dict:=none,data:=.seq ([]:List J8i).toArray }).objs.size=l+1:=by rw [Xy,hl]
 have q2:=q l hf0
 generalize hs2:({ s with heap:=s.heap.push { cls:=.type "list",dict:=none,data:=.seq ([]:List J8i).toArray } }:J8k)=s2 at I2 ⊢
 have st2:tn 0 s2.heap:=by rw [<- hs2];exact st2
 have hsz2:s2.heap.objs.size=l+1:=by rw [<- hs2];exact hsz2
 refine wpAny_newFunctionEnv S.nocell (by intro y hy;simp at hy) (λ h₁ hns₁ hsb₁=>?_) S.kind
 have hk1:∀ b o,s2.heap.get? b=some o->h₁.get? b=some o:=λ b o e=>hsb₁.extBut b o (Xe (Qr e)) (Qt _ e)
 have hlt2:∀ b∈fp,b<s2.heap.objs.size:=λ b hb=>by rw [hsz2];exact J27 (hflt b hb)
 have I3:=Jny (t':=s2.toks+([]:List (Str×J8i)).length) I2 S hsc hNN f2 hlt2 (by simpa using hns₁) hk1
 generalize hC:s2.heap.objs.size=C at *
 have st3:tn 0 h₁:=T.keep _ _ _ st2 λ b _ o e=>hk1 b o e
 obtain ⟨W,⟨m0,w0⟩,turn⟩:=q2
 -- back to the frame around
 have back:∀ {σ':St} {H':Hp} {s':J8k},Inv (Wf X N' scope C s2 (upd H1 l (.lst [])) fp) [] σ' H' s'->Inv X pins σ H' s':=λ {σ' H' s'} I'=>
  I2.call' I'.os I'.base I'.hok I'.bare λ b hb=>⟨(f2 b hb).2.2.2.1,(f2 b hb).2.1,(f2 b hb).2.2.2.2.1,(f2 b hb).2.2.2.2.2⟩
 have loop:∀ s₃:J8k,s₃ = { s2 with heap:=h₁,toks:=s2.toks+([]:List (Str×J8i)).length } ->
  J8w (model X.prog X.w) X.A (.compLoop (.ListComp elt [⟨tg,iter,ifs,0⟩] scope pos) 0 (.ref it) (.ref l) (compEnvC scope (Yo X.env scope.names []) C X.env)) (RR (.ref l) C) s₃:=by
  rintro s₃ rfl
  refine Jgc (λ n s'=>∃ i σ' H',Inv (Wf X N' scope C s2 (upd H1 l (.lst [])) fp) [] σ' H' s'/\tn i s'.heap/\(∀ b∈fp,H' b=none)/\W i n σ' H') ?_ m0 ⟨0,_,_,I3,st3,λ b hb=>(f2 b hb).1,w0⟩
  rintro n s4 ⟨i,σ4,H4,I4,st4,fr4,w4⟩
  have stat:∀ {H':Hp},(∀ b∈fp,H' b=none)->∀ b∈fp,Jds (Wf X N' scope C s2 (upd H1 l (.lst [])) fp) [] H' b:=λ {H'} hn b hb=>
   ⟨hn b hb,(I4.ok.exf b hb).1,I4.ok.exfs b hb,.inl hb,(I4.ok.exf b hb).2,λ p hp=>by cases hp⟩
  rcases turn i n σ4 H4 w4 with ⟨stop,qn⟩ | ⟨go,step⟩
  . refine thn (T.done (Wf X N' scope C s2 (upd H1 l (.lst [])) fp) rfl rfl rfl hc i [] s4 σ4 H4 NoE I4 (stat fr4) st4 stop) λ r s5 ⟨hr,I5⟩=>?_
    subst hr
    have IX:=back I5
    have hCl:C≠X.env.locals:=λ e=>by
     have:=I2.lt
     rw [hC,<- e] at this
     exact Q4 _ this
    have hCc:∀ x c,X.env.cells.lookup x=some c->c≠C:=λ x c e z=>by
     obtain ⟨v,o,ho,_⟩:=I2.cell x c e
     have:=Qr ho
     rw [hC,z] at this
     exact Q4 _ this
    obtain ⟨m5,hm5,_⟩:=I5.loc
    refine hRR l H4 C s5 IX ⟨m5,hm5⟩ ⟨hCl,hCc,I5.free,by rw [<- hC];exact I2.sz,λ p hp z=>?_⟩ qn
    obtain ⟨e,_⟩:=I2.pin p hp
    have:=Qr e
    rw [hC,z] at this
    exact Q4 _ this
  . refine thn (T.item (Wf X N' scope C s2 (upd H1 l (.lst [])) fp) rfl rfl rfl hc i [] s4 σ4 H4 NoE I4 (stat fr4) st4 go) λ r s5 ⟨u,hr,h5⟩=>?_
    subst hr
    refine thn h5 λ _ s6 ⟨x,H6,I6,r6,y6,st6,fr6⟩=>?_
    have I6':=I6.pinned (stat fr6) (T.obj _ _ st6)
    have keepT:∀ {σ7:St} {H7:Hp} {s7:J8k},Inv (Wf X N' scope C s2 (upd H1 l (.lst [])) fp) ([]++Jfe fp s6.heap) σ7 H7 s7->tn (i+1) s7.heap/\∀ b∈fp,H7 b=none:=λ {σ7 H7 s7} I7=>
     ⟨T.keep _ _ _ st6 λ b hb o e=>(I7.pin (b,o) (Xf _ (Xf _ (V4 hb e)))).1,λ b hb=>by
      obtain ⟨o,e,d⟩:=T.obj _ _ st6 b hb
      exact (I7.pin (b,o) (Xf _ (Xf _ (V4 hb e)))).2.1⟩
    refine thn (hg C s2 (upd H1 l (.lst [])) fp _ s6 σ4 H6 x u _ I6' r6 (step x H6 y6)) λ _ s7 ⟨σ7,H7,I7,q7⟩=>?_
    refine thn (ht C s2 (upd H1 l (.lst [])) fp _ s7 σ7 H7 _ I7 q7) λ ok s8 ⟨H8,I8,q8⟩=>?_
    cases ok with
    | false=>
     rw [if_neg (by decide)] at q8 ⊢
     obtain ⟨m',hm,w8⟩:=q8
     have kt:=keepT I8
     exact ⟨m',hm,i+1,σ7,H8,I8.unpinned,kt.1,kt.2,w8⟩
    | true=>
     rw [if_pos rfl] at q8 ⊢
     refine thn (he C s2 (upd H1 l (.lst [])) fp _ s8 σ7 H8 _ I8 q8) λ v s9 ⟨y,H9,I9,r9,xs,e9,z9,m',hm,w9⟩=>?_
     refine thn (Vo _ s9 σ7 H9 (.ref l) [y] (.ref l) [v] (λ z H10=>z = .non/\H10=upd H9 l (.lst (xs++[y]))) I9 rfl (.cons r9 .nil) ⟨l,xs,y,rfl,rfl,e9,z9,rfl,rfl⟩) λ _ s10 ⟨z,H10,I10,_,_,e10⟩=>?_
     subst e10
     have kt:=keepT I10
     exact ⟨m',hm,i+1,σ7,_,I10.unpinned,kt.1,kt.2,w9⟩
 have e2:(newEnv scope C X.env.globals (Yo X.env scope.names []) X.env.qual none .none (some X.env) J9h).locals=C:=rfl
 show J8w _ _ (.compStart _ 0 (.ref it) (.ref l) (compEnvC scope (Yo X.env scope.names []) C X.env)) (RR (.ref l) C) _
 exact J9y (loop _ rfl) (T.self _ 0 _ _ _ st3 (loop _ rfl))
theorem Zo (hc:X.calm=true) (S:CompScope sc N scope N' k idx) (hsc:X.env.scope=sc) (hNN:X.N=N) (hi:PI X tg iter wi)
 (hg:∀ C s H fp,PG (Wf X N' scope C s H fp) tg g) (ht:∀ C s H fp,PTs (Wf X N' scope C s H fp) ifs tt) (he:∀ C s H fp,PE (Wf X N' scope C s H fp) elt te)
 (hs:∀ x,J9j iter X.env x=pure x:=by intro _;rfl):PE X (.ListComp elt [⟨tg,iter,ifs,0⟩] scope pos) (Jbe wi k idx g tt te):=by
 intro pins s σ H Q I h
 rw [eval_ListComp]
 have hclos:J9f scope X.env=pure (Yo X.env scope.names []):=Bk λ x hx hfree=>I.ok.has x.1 (by
  show X.env.scope.names.lookup x.1=_\/X.env.scope.names.lookup x.1=_
  rw [hsc];exact S.fr x hx hfree)
 refine wpAny_comprehension_free (use:=none) rfl hs hclos S.kind S.loc (thn (hi pins s σ H _ I h) λ v s1 h1=>thn h1 λ itv s2 h2=>?_)
 refine Jhk (RR:=λ acc C=>compPost (model X.prog X.w) X.A X.xe none (EP X pins σ Q) acc C) (Qe:=λ l H2=>Q (.ref l) H2) hc S hsc hNN hg ht he h2 ?_
 intro l H2 C s2 I2 hm f q
 obtain ⟨m,hm⟩:=hm
 exact ⟨m,hm,λ h' hs'=>⟨.ref l,H2,I2.freed f hs',rfl,q⟩⟩
def Bo (i:Nat) (wi:TI) (k:Nat) (idx:List Nat) (g:TG) (tt:TT) (te:TE):TS:=λ D σ H=>wi σ H λ J H1=>∀ l,H1 l=none->Jki J g tt te l (Yv k idx σ) (upd H1 l (.lst [])) λ H2=>D.nx (σ.set i (some (.ref l))) H2
theorem V5 {i:Nat}{y:Str}{py spos:Pos}(hc:X.calm=true) (hN:X.N.Nodup) (hiN:X.N[i]? = some y) (hy:X.env.scope.names.lookup y=some .local) (S:CompScope sc N scope N' k idx) (hsc:X.env.scope=sc) (hNN:X.N=N) (hi:PI X tg iter wi)
 (hg:∀ C s H fp,PG (Wf X N' scope C s H fp) tg g) (ht:∀ C s H fp,PTs (Wf X N' scope C s H fp) ifs tt) (he:∀ C s H fp,PE (Wf X N' scope C s H fp) elt te)
 (hsw:J89 (.ListComp elt [⟨tg,iter,ifs,0⟩] scope pos) (some (.Name y py)) spos.line X.env=pure true:=by rfl)
 (hs:∀ x,J9j iter X.env x=pure x:=by intro _;rfl):PS X (.Assign [.Name y py] (.ListComp elt [⟨tg,iter,ifs,0⟩] scope pos) spos) (Bo i wi k idx g tt te):=by
 intro pins s σ H D I h
 rw [J9z _ _ _ _ hsw]
 refine wpAny_bind (wpAny_standAt (wpAny_bind ?_))
 show J8l _ X.A (do let _ <- comprehension (.ListComp elt [⟨tg,iter,ifs,0⟩] scope pos) scope X.env _ (newList []) false (eval iter X.env) (some (assign (.Name y py) X.env))) _ _ s
 have hclos:J9f scope X.env=pure (Yo X.env scope.names []):=Bk λ x hx hfree=>I.ok.has x.1 (by
  show X.env.scope.names.lookup x.1=_\/X.env.scope.names.lookup x.1=_
  rw [hsc];exact S.fr x hx hfree)
 refine wpAny_bind (wpAny_mono (wpAny_comprehension_free (use:=some (assign (.Name y py) X.env)) (Q:=λ _ s'=>SP X pins D .next s') rfl hs hclos S.kind S.loc (thn (hi pins s σ H _ I h) λ v s1 h1=>thn h1 λ itv s2 h2=>?_))
  (λ _ s' hq=>wpAny_pure (wpAny_pure hq)) λ _ _ e=>e)
 refine Jhk (RR:=λ acc C=>compPost (model X.prog X.w) X.A X.xe (some (assign (.Name y py) X.env)) (λ _ s'=>SP X pins D .next s') acc C) (Qe:=λ l H2=>D.nx (σ.set i (some (.ref l))) H2) hc S hsc hNN hg ht he h2 ?_
 intro l H2 C s2 I2 hm f q
 obtain ⟨m,hm⟩:=hm
 show J8l _ X.A (assign (.Name y py) X.env (.ref l)) _ _ _
 refine J9s (Jfb (v:=.ref l) I2 hN hiN (.inl hy) rfl (λ s' I' hch=>?_) (.inr hy))
 obtain ⟨a,hsb,ha⟩:=hch
 have haC:C≠a:=λ z=>by
  rcases ha with e | e
  . exact f.loc (z.trans e)
  . exact f.cel y a e z.symm
 exact ⟨m,hm.sameBut hsb haC,λ h' hs'=>⟨_,H2,I'.freed f hs',q⟩⟩
end
noncomputable def J0t:Key->J8j
 | .inl i=>.int i
 | .inr s=>.str s
noncomputable def epO (o:Obj):Nat:=match o.data with
 | .dict _ ep=>ep
 | _=>0
noncomputable def fzK (ep:Nat) (ks:List Key) (ds:List J8j):List (J8j×J8j):=(.none,.int (ep:Nat))::J28 (λ k d=>(J0t k,d)) ks ds
noncomputable def Ja6 (C:Addr) (ns:List Str) (ds:List J8j):List (J8j×J8j):=(.int (C:Nat),.none)::J28 (λ n d=>(PyData.str n,d)) ns ds
mutual
inductive Rep (ex:List Addr) (H:Hp):J8j->V->Prop
 | none:Rep ex H .none .non
 | bool (b:Bool):Rep ex H (.bool b) (.bl b)
 | int (i:Int):Rep ex H (.int i) (.int i)
 | str (x:Str):Rep ex H (.str x) (.str x)
 | tuple {a:Addr} {xs:List V} {ds:List J8j} (e:H a=some (.tup xs)) (n:a∉ex) (z:xs.length<=sizeLine) (r:Reps ex H ds xs):Rep ex H (.tuple ds) (.ref a)
 | list {a:Addr} {xs:List V} {ds:List J8j} (e:H a=some (.lst xs)) (n:a∉ex) (z:xs.length<=sizeLine) (r:Reps ex H ds xs):Rep ex H (.list ds) (.ref a)
 | obj {a C dx:Addr} {fs:List (Str×V)} {ds:List J8j} {kvs:List (J8j×J8j)} (e:H a=some (.ins C dx fs)) (n:a∉ex) (k:kvs=Ja6 C (fs.map (·.1)) ds) (r:Reps ex H ds (fs.map (·.2))):Rep ex H (.dict kvs) (.ref a)
 | dctf {a:Addr} {ob:Obj} {kws:List (Key×V)} {ds:List J8j} {kvs:List (J8j×J8j)} (e:H a=some (.frz ob (.dK kws))) (n:a∉ex) (k:kvs=fzK (epO ob) (kws.map (·.1)) ds) (r:Reps ex H ds (kws.map (·.2))):Rep ex H (.dict kvs) (.ref a)
inductive Reps (ex:List Addr) (H:Hp):List J8j->List V->Prop
 | nil:Reps ex H [] []
 | cons {d:J8j} {v:V} {ds:List J8j} {vs:List V}:Rep ex H d v->Reps ex H ds vs->Reps ex H (d::ds) (v::vs)
end
def Kp (ex:List Addr) (H H':Hp):Prop:=∀ b o,H b=some o->b∉ex->H' b=some o
theorem Kp.refl {ex:List Addr}{H:Hp}:Kp ex H H:=λ _ _ e _=>e
theorem Kp.trans {ex:List Addr}{H H1 H2:Hp}(a:Kp ex H H1) (b:Kp ex H1 H2):Kp ex H H2:=λ c o e n=>b c o (a c o e n) n
theorem Kp.of {ex:List Addr}{H H':Hp}(a:Kp [] H H'):Kp ex H H':=λ c o e _=>a c o e (by simp)
theorem Kp.mono {ex ex':List Addr}{H H':Hp}(a:Kp ex H H') (h:∀ b∈ex,b∈ex'):Kp ex' H H':=λ c o e n=>a c o e λ z=>n (h c z)
theorem Kp.new {ex:List Addr}{H:Hp}{p:Addr}(h:H p=none) (o:HO):Kp ex H (upd H p o):=λ b u q _=>by rw [Jh (Jx q h)];exact q
theorem Kp.at {ex:List Addr}{H:Hp}{p:Addr}(h:p∈ex) (o:HO):Kp ex H (upd H p o):=λ b u q n=>by rw [Jh (λ (z:b=p)=>n (by rw [z];exact h))];exact q
mutual
theorem Rep.keep {ex:List Addr}{H H':Hp}(k:Kp ex H H'):∀ {d:J8j}{v:V},Rep ex H d v->Rep ex H' d v
 | _,_,.none=>.none
 | _,_,.bool b=>.bool b
 | _,_,.int i=>.int i
 | _,_,.str x=>.str x
 | _,_,.tuple e n z r=>.tuple (k _ _ e n) n z (Reps.keep k r)
 | _,_,.list e n z r=>.list (k _ _ e n) n z (Reps.keep k r)
 | _,_,.obj e n q r=>.obj (k _ _ e n) n q (Reps.keep k r)
 | _,_,.dctf e n q r=>.dctf (k _ _ e n) n q (Reps.keep k r)
theorem Reps.keep {ex:List Addr}{H H':Hp}(k:Kp ex H H'):∀ {ds:List J8j}{vs:List V},Reps ex H ds vs->Reps ex H' ds vs
 | _,_,.nil=>.nil
 | _,_,.cons r t=>.cons (Rep.keep k r) (Reps.keep k t)
end
theorem Reps.length {ex:List Addr}{H:Hp}:∀ {ds:List J8j}{vs:List V},Reps ex H ds vs->ds.length=vs.length
 | _,_,.nil=>rfl
 | _,_,.cons _ t=>by simp [Reps.length t]
theorem Reps.get {ex:List Addr}{H:Hp}:∀ {ds:List J8j}{vs:List V}{i:Nat}{d:J8j},Reps ex H ds vs->ds[i]? = some d->∃ v,vs[i]? = some v/\Rep ex H d v
 | _,_,_,_,.nil,e=>by simp at e
 | _,_,0,_,.cons r _,e=>by simp at e;subst e;exact ⟨_,rfl,r⟩
 | _,_,i+1,d,.cons _ t,e=>by
  obtain ⟨u,h1,h2⟩:=Reps.get (i:=i) (d:=d) t (by simpa using e)
  exact ⟨u,by simpa using h1,h2⟩
theorem Reps.append {ex:List Addr}{H:Hp}:∀ {ds es:List J8j}{vs ws:List V},Reps ex H ds vs->Reps ex H es ws->Reps ex H (ds++es) (vs++ws)
 | _,_,_,_,.nil,s=>s
 | _,_,_,_,.cons r t,s=>.cons r (Reps.append t s)
theorem Reps.take {ex:List Addr}{H:Hp}:∀ {ds:List J8j}{vs:List V}(n:Nat),Reps ex H ds vs->Reps ex H (ds.take n) (vs.take n)
 | _,_,0,_=>.nil
 | _,_,_+1,.nil=>.nil
 | _,_,n+1,.cons r t=>.cons r (Reps.take n t)
theorem Reps.drop {ex:List Addr}{H:Hp}:∀ {ds:List J8j}{vs:List V}(n:Nat),Reps ex H ds vs->Reps ex H (ds.drop n) (vs.drop n)
 | _,_,0,r=>r
 | _,_,_+1,.nil=>.nil
 | _,_,n+1,.cons _ t=>Reps.drop n t
theorem Reps.ints {ex:List Addr}{H:Hp}:∀ ns:List Int,Reps ex H (ns.map Qi) (ns.map V.int)
 | []=>.nil
 | n::r=>.cons (.int n) (Reps.ints r)
theorem Reps.ints_inv {ex:List Addr}{H:Hp}:∀ {ns:List Int}{vs:List V},Reps ex H (ns.map Qi) vs->vs=ns.map V.int
 | [],_,.nil=>rfl
 | n::r,_,.cons (.int _) t=>by rw [Reps.ints_inv t];rfl
theorem Reps.rep {ex:List Addr}{H:Hp}{ds:List J8j}{vs:List V}(h:Reps ex H ds vs):∀ k:Nat,Reps ex H (Qp k ds).flatten (Qp k vs).flatten
 | 0=>.nil
 | k+1=>by
  rw [U6,U6,J1x,J1x]
  exact Reps.append h (Reps.rep h k)
theorem Jly {d:J8j}{ds:List J8j}(h:Ui (d::ds)=true):d.canLay0=true/\Ui ds=true:=by rw [Ui,Ua] at h;exact h
mutual
theorem Rep.reads {ex:List Addr}{P:J8n}{w:J8m}{H:Hp}{h:Heap}(ok:HOk P w H h):∀ {d:J8j}{v:V}{u:J8i},d.canLay0=true->Rep ex H d v->Y3 v u->∃ as,Reads h u d as
 | _,_,_,_,.none,r=>by cases (show _=Ul from r);exact ⟨_,.none⟩
 | _,_,_,_,.bool b,r=>by cases (show _=J1u b from r);exact ⟨_,.bool b⟩
 | _,_,_,_,.int i,r=>by obtain ⟨t,rfl⟩:=(show ∃ t,_=Uv i t from r);exact ⟨_,.int i t⟩
 | _,_,_,_,.str x,r=>by obtain ⟨t,rfl⟩:=(show ∃ t,_=J2a x t from r);exact ⟨_,.str x t⟩
 | _,_,_,hc,.tuple (a:=a) (xs:=xs) e n _ rs,r=>by
  cases (show _=Q2 a from r)
  obtain ⟨z,its,rv,o,e1,e2,n',e3⟩:=(show Zx P w H h a (.tup xs) from ok a _ e)
  obtain ⟨as,ra⟩:=Reps.reads ok (by rw [Ub] at hc;exact hc) rs rv
  exact ⟨as,.tuple e1 e2 e3 (by simpa using ra)⟩
 | _,_,_,hc,.list (a:=a) (xs:=xs) e n _ rs,r=>by
  cases (show _=Q2 a from r)
  obtain ⟨z,its,n',rv,e1⟩:=(show Zx P w H h a (.lst xs) from ok a _ e)
  obtain ⟨as,ra⟩:=Reps.reads ok (by rw [Ub] at hc;exact hc) rs rv
  exact ⟨_,.list e1 rfl rfl (by simpa using ra)⟩
 | _,_,_,hc,.obj _ _ _ _,r=>by rw [Ub] at hc;cases hc
 | _,_,_,hc,.dctf _ _ _ _,r=>by rw [Ub] at hc;cases hc
theorem Reps.reads {ex:List Addr}{P:J8n}{w:J8m}{H:Hp}{h:Heap}(ok:HOk P w H h):∀ {ds:List J8j}{vs:List V}{us:List J8i},Ui ds=true->Reps ex H ds vs->Yg vs us->∃ as,ReadsAll h us ds as
 | _,_,_,_,.nil,r=>by cases r;exact ⟨_,.nil⟩
 | _,_,_,hc,.cons q t,r=>by
  cases r with
  | cons r1 r2=>
   obtain ⟨as,h1⟩:=Rep.reads ok (Jly hc).1 q r1
   obtain ⟨bs,h2⟩:=Reps.reads ok (Jly hc).2 t r2
   exact ⟨_,.cons h1 h2⟩
end
section
variable {X:Cx}
def Jzc:R2:=λ x y H Q=>∃ ex da db,Rep ex H da x/\Rep ex H db y/\da.canLay0=true/\db.canLay0=true/\min da.depth db.depth<=50/\Q (.bl (X6 da db)) H
def Jzd:R2:=λ x y H Q=>∃ ex da db,Rep ex H da x/\Rep ex H db y/\da.canLay0=true/\db.canLay0=true/\min da.depth db.depth<=50/\Q (.bl (!X6 da db)) H
theorem Jkj (hu:X.A.units+64<cLine):OpR X (compareOp .Eq) Jzc:=by
 intro pins s σ H x y v u Q I rx ry h
 obtain ⟨ex,da,db,r1,r2,c1,c2,hd,q⟩:=h
 obtain ⟨as,h1⟩:=Rep.reads I.hok c1 r1 rx
 obtain ⟨bs,h2⟩:=Rep.reads I.hok c2 r2 ry
 exact SeqAt.compareEq_reads h1 h2 c1 c2 (by omega) ⟨.bl (X6 da db),H,I,rfl,q⟩
theorem Jrz:V3 X (.builtin "all") (λ xs H Q=>X.calm=true/\∃ (p:Addr) (bs:List Bool),xs=[.ref p]/\SqL X.K H p (bs.map V.bl)/\Q (.bl (bs.all id)) H):=by
 intro pins s σ H xs us Q I r h
 obtain ⟨hc,p,bs,rfl,hq,q⟩:=h
 obtain ⟨u,rfl,ru⟩:=Jap r
 cases ru
 obtain ⟨its,rv,pl,hz⟩:=I.list hq
 have hl:=pl.isList
 have hlt:p<s.heap.objs.size:=by obtain ⟨_,e,_⟩:=hl;exact Qr e
 refine call_all_walk (wpAny_pyIter_list hl ?_)
 refine ⟨_,_,_,_,_,_,λ i=>bs.getD i true,rfl,Walks.list (A:=X.A.in1) (I.ok.hd hc) _ p (Xe hlt) its.toArray,⟨⟨_,Xd _ rfl,rfl,rfl⟩,hl.push _⟩,?_,λ h' tk hk=>?_⟩
 . intro i v s' Q' E' hP hQ
   have hP:its[i]? = some v:=by simpa using hP
   have hi:i<its.length:=(Qs.mp hP).1
   have hlen:=rv.length
   have hb:(bs.map V.bl)[i]? = some (V.bl (bs.getD i true)):=by
    rw [Qb] at hlen
    rw [Qk,Qg (by omega),Qd,Qg (by omega)]
    rfl
   obtain ⟨u,hu,ru⟩:=rv.get hb
   rw [hP] at hu
   cases hu
   cases (show v=J1u _ from ru)
   exact wpAny_truthy_bool hQ
 . have e:((Qf its.toArray.size).all λ i=>bs.getD i true)=bs.all id:=by
    have hlen:=rv.length
    rw [Qb] at hlen
    rw [Q3,<- hlen,U1]
    simp only [X7,Q5]
    constructor
    . intro h b hb
      obtain ⟨i,hi,rfl⟩:=J3v.mp hb
      have:=h i hi
      rw [Qd,Qg hi] at this
      exact this
    . intro h i hi
      rw [Qd,Qg hi]
      exact h _ (Q8 hi)
   rw [e]
   exact ⟨.bl (bs.all id),H,I.kept (t':=tk) (old_kept hk),rfl,q⟩
theorem Jr0:V3 X (.builtin "sum") (λ xs H Q=>X.calm=true/\∃ (p:Addr) (ns:List Int),xs=[.ref p]/\SqL X.K H p (ns.map V.int)/\Q (.int ns.sum) H):=by
 intro pins s σ H xs us Q I r h
 obtain ⟨hc,p,ns,rfl,hq,q⟩:=h
 obtain ⟨u,rfl,ru⟩:=Jap r
 cases ru
 obtain ⟨its,rv,pl,hz⟩:=I.list hq
 have hl:=pl.isList
 have hi:=Jbr rv
 obtain ⟨xs,e⟩:=hi.allInts.items
 rw [e] at hl
 refine sum_intListG (I.ok.hd hc) hl λ h' tk t' hk=>?_
 have e2:preSum (numAt xs) xs.size=ns.sum:=by
  have h1:=hi.numsOf
  have h2:numsOf its.toArray.toList=(xs.toList.map (·.1)):=by rw [e,J9p]
  rw [preSum_eq,J3w (by simp)]
  have h2':numsOf its=(xs.toList.map (·.1)):=by simpa using h2
  rw [<- h2',h1]
 rw [e2]
 exact ⟨.int ns.sum,H,I.kept (t':=tk) hk,⟨_,rfl⟩,q⟩
theorem Jlz:V3 X (.builtin "isinstance") (λ xs H Q=>∃ x T t b,xs=[x,.ty T]/\TyOf X.K H x t/\J4q X.K t (.type T)=some b/\Q (.bl b) H):=by
 intro pins s σ H xs us Q I r h
 obtain ⟨x,T,t,b,rfl,ty,e,q⟩:=h
 obtain ⟨u,w',rfl,ru,rw'⟩:=Jpa r
 cases (show w'=J2b T from rw')
 exact Jqi I ru ty e λ tk=>⟨.bl b,H,I.tok tk,rfl,q⟩
noncomputable def Jkk:J8j->String
 | .none=>"NoneType"
 | .bool _=>"bool"
 | .int _=>"int"
 | .str _=>"str"
 | .list _=>"list"
 | .tuple _=>"tuple"
 | .dict _=>"dict"
noncomputable def noD:J8j->Bool
 | .dict _=>false
 | _=>true
theorem Rep.tyOf {ex:List Addr}{H:Hp}{K:Qc}{d:J8j}{v:V}(hn:noD d=true) (r:Rep ex H d v):TyOf K H v (.type (Jkk d)):=by
 cases r with
 | none=>exact .non
 | bool b=>exact .bl b
 | int i=>exact .int i
 | str x=>exact .str x
 | tuple e n z r=>exact .tup e
 | list e n z r=>exact .lst e
 | obj=>cases hn
 | dctf=>cases hn
def Jwa (i j:Int):Prop:=0<j/\j.natAbs.log2<9000
theorem Jbf:OpR X (binaryOp .FloorDiv) (rI Jwa λ i j=>.int (i/j)):=opI λ i j _ _ _ _ _ hc q=>by
 have h1:(0:Int)<j:=hc.1
 exact floordiv_int (by omega) (by rw [Int.fdiv_eq_ediv_of_nonneg i (by omega)];exact q) (.inl (PyProof.noPylong_of_log2 hc.2))
end
theorem Jbg {i j:Int}(h0:0<j) (h1:j<2^9000):Jwa i j:=by
 refine ⟨h0,?_⟩
 have hn:j.natAbs≠0:=by omega
 rw [J3x hn]
 have:(j.natAbs:Int)=j:=Uy (by omega)
 have h2:((j.natAbs:Nat):Int)<((2^9000:Nat):Int):=by rw [this];exact_mod_cast h1
 exact_mod_cast h2
def Cal (P:J8n) (w:J8m) (K:Qc) (mg:Str->Option J8i) (base:Heap) (name:Str) (k:Nat) (ps:List Str) (sp:Sp):Prop:=
 ∃ f fd,mg name=some (.ref f)/\Uf K (.ref f)=true/\Bm K fd ps []/\FnOk P w K mg base CX0 k f fd ps sp
def Def (K:Qc) (mg:Str->Option J8i) (name:Str) (st:Stmt) (ps:List Str):Prop:=
 ∃ f fd,mg name=some (.ref f)/\Fun K name name st f fd/\Bm K fd ps []
theorem Def.cal {P:J8n}{w:J8m}{K:Qc}{mg:Str->Option J8i}{base:Heap}{name:Str}{st:Stmt}{ps:List Str}{k:Nat}{sp:Sp}(d:Def K mg name st ps)
 (h:∀ f fd,Fun K name name st f fd->FnOk P w K mg base CX0 k f fd ps sp):Cal P w K mg base name k ps sp:=by
 obtain ⟨f,fd,hm,F,b⟩:=d
 exact ⟨f,fd,hm,F.kp,b,h f fd F⟩
theorem Cal.imp {P:J8n}{w:J8m}{K:Qc}{mg:Str->Option J8i}{base:Heap}{name:Str}{k:Nat}{ps:List Str}{sp sp':Sp}(c:Cal P w K mg base name k ps sp) (h:∀ vs H Q E,sp' vs H Q E->sp vs H Q E):Cal P w K mg base name k ps sp':=by
 obtain ⟨f,fd,hm,hk,b,F⟩:=c
 exact ⟨f,fd,hm,hk,b,F.imp h⟩
section
variable {X:Cx}{x:Str}{e:Expr}{es:List Expr}{p pos:Pos}{t:TA}{k:Nat}{ps:List Str}{sp:Sp}
theorem Yw (c:Cal X.prog X.w X.K X.mg X.base x k ps sp) (hr:Room k X.A) (hg:Gl X x) (ha:PA X (e::es) t) (hdb:(x==("__debug__":Str))=false:=by decide)
 (he:starEach (e::es) X.env=(false,eval e X.env)::starEach es X.env:=by rfl) (hpl:(backTo pos (starEach es X.env)).any (·.1)=false:=by rfl) :
 PE X (.Call (.Name x p) (e::es) [] pos) (Jjk sp [] E0 t):=by
 obtain ⟨f,fd,hm,hk,b,F⟩:=c
 exact Jug F hr hg hm hk b .nil Jpf ha hdb he hpl
end
section
variable {X:Cx}
theorem Jxm (hu:X.A.units+64<cLine):OpR X (compareOp .NotEq) Jzd:=by
 intro pins s σ H x y v u Q I rx ry h
 obtain ⟨ex,da,db,r1,r2,c1,c2,hd,q⟩:=h
 obtain ⟨as,h1⟩:=Rep.reads I.hok c1 r1 rx
 obtain ⟨bs,h2⟩:=Rep.reads I.hok c2 r2 ry
 exact SeqAt.compareNe_reads h1 h2 c1 c2 (by omega) ⟨.bl (!X6 da db),H,I,rfl,q⟩
end
theorem Jfk:fillsNumberSlot (.type "tuple") "mul" = pure false:=
 PySem.fillsNumberSlot_seq (id:="tuple.__mul__") (r:=some (.builtin "tuple.__rmul__")) J29.lookup (by decide +kernel) J6q.lookup (by decide +kernel)
theorem Jkl:seqRepeat? (.type "tuple")=pure (some (.builtin "tuple.__mul__")):=by
 unfold seqRepeat?
 rw [J40 (T:="tuple") (name:="__mul__") (id:="tuple.__mul__") J29.lookup (by decide +kernel),J40 (T:="tuple") (name:="__rmul__") (id:="tuple.__rmul__") J6q.lookup (by decide +kernel)]
 rfl
theorem Jhl (a:Int) (t:Tok) (l:Addr) (items:Array J8i) (n:Nat) (dd:Option Addr) (sl:Array (Option J8i)) :
 Meets (Builtin.«int.__rmul__» ⟨[.int a t,.ref l],[]⟩) (λ _ R s=>s.heap.get? l=some { cls:=.type "tuple",dict:=dd,data:=.seq items n,slots:=sl }/\R (.ok (.ret Value.notImplemented)) s):=
 .of_wp λ prog w A R s h=>by obtain ⟨hp,g,d,tk,os⟩:=s;obtain ⟨hl,h⟩:=h;wp_walk;exact ⟨_,rfl,h⟩
theorem Jnz (l:Addr) (items:Array J8i) (n:Nat) (dd:Option Addr) (sl:Array (Option J8i)) (u:Tok) :
 Meets (Builtin.«tuple.__mul__» ⟨[.ref l,.int 1 u],[]⟩) (λ _ R s=>s.heap.get? l=some { cls:=.type "tuple",dict:=dd,data:=.seq items n,slots:=sl }/\R (.ok (.ret (Q2 l))) s):=
 .of_wp λ prog w A R s h=>by
  obtain ⟨hp,g,d,tk,os⟩:=s;obtain ⟨hl,h⟩:=h
  have f1:=J41
  wp_walk using J1z hl
  exact ⟨_,rfl,h⟩
theorem Jn0 (l:Addr) (items:Array J8i) (n:Nat) (dd:Option Addr) (sl:Array (Option J8i)) (x:Int) (u:Tok) (he:¬ items.isEmpty=true) (h0:x<=0) (h1:-(2^63)<=x) :
 Meets (Builtin.«tuple.__mul__» ⟨[.ref l,.int x u],[]⟩) (λ _ R s=>s.heap.get? l=some { cls:=.type "tuple",dict:=dd,data:=.seq items n,slots:=sl }/\R (.ok (.ret (Q2 s.heap.objs.size))) { s with heap:=s.heap.push { cls:=J2b "tuple",data:=J25 #[] },toks:=s.toks }):=
 .of_wp λ prog w A R s h=>by
  obtain ⟨hp,g,d,tk,os⟩:=s;obtain ⟨hl,h⟩:=h
  have f1:=J41
  have c0:¬ (decide (x < -2^63)||decide (x≥2^63))=true:=by simp;omega
  have c1:¬ (items.isEmpty||x==1)=true:=by
   have:¬ x=1:=by omega
   simp_all
  have c2:(decide (x<=0)||items.isEmpty)=true:=by simp [h0]
  wp_walk using J1z hl
  refine J86 (decide_eq_false c0) ?_
  wp_walk using J1z hl
  refine J86 (decide_eq_false c1) ?_
  wp_walk using J1z hl
  exact ⟨_,rfl,h⟩
theorem Jn1 (l:Addr) (items:Array J8i) (n:Nat) (dd:Option Addr) (sl:Array (Option J8i)) (x:Int) (u:Tok) (he:¬ items.isEmpty=true) (h0:2<=x) (hz:(items.size:Int)*x<=sizeLine) :
 Meets (Builtin.«tuple.__mul__» ⟨[.ref l,.int x u],[]⟩) (λ _ R s=>s.heap.get? l=some { cls:=.type "tuple",dict:=dd,data:=.seq items n,slots:=sl }/\R (.ok (.ret (Q2 s.heap.objs.size))) { s with heap:=s.heap.push { cls:=J2b "tuple",data:=J25 ((Qp x.toNat items).foldl (· ++ ·) #[]) },toks:=s.toks }):=
 .of_wp λ prog w A R s h=>by
  obtain ⟨hp,g,d,tk,os⟩:=s;obtain ⟨hl,h⟩:=h
  have f1:=J41
  have hs:sizeLine=16777216:=J8p
  have hpos:1<=(items.size:Int):=by
   have:items.size≠0:=λ z=>he (by simpa using z)
   omega
  have hx:x<=(items.size:Int)*x:=by
   have:=J42 hpos (show 0<=x by omega)
   omega
  have c0:¬ (decide (x < -2^63)||decide (x≥2^63))=true:=by simp;omega
  have c1:¬ (items.isEmpty||x==1)=true:=by
   have:¬ x=1:=by omega
   simp_all
  have c2:¬ (decide (x<=0)||items.isEmpty)=true:=by
   have:¬ x<=0:=by omega
   simp_all
  have c3:¬ (items.size:Int)*x>(2^63-1)/8:=by omega
  have c4:¬ J6r ((items.size:Int)*x)=true:=by unfold J6r;simp;omega
  have c5:¬ (J24 (λ x1 x2=>x1++x2) #[] (Qp x.toNat items)).size>sizeLine:=by
   have e:=Jc9 items.toList x.toNat []
   have e2:items.toList.toArray=items:=rfl
   rw [J3t,e2] at e
   rw [e,Q3,Jeg]
   have e3:(((x.toNat*items.toList.length:Nat)):Int)=(items.size:Int)*x:=by
    rw [J43,Uz (by omega),Xb];rfl
   omega
  wp_walk using J1z hl
  refine J86 (decide_eq_false c0) ?_
  wp_walk using J1z hl
  refine J86 (decide_eq_false c1) ?_
  wp_walk using J1z hl
  refine J86 (decide_eq_false c2) ?_
  wp_walk
  refine J86 (decide_eq_false c3) ?_
  wp_walk
  refine J86 (decide_eq_false c5) ?_
  wp_walk
  exact ⟨_,rfl,h⟩
section
variable {X:Cx}
def Jr1 (K:Qc):R2:=λ x y H Q=>∃ a k xs,x = .ref a/\y = .int k/\SqT K H a xs/\xs≠[]/\-(2^63)<=k/\(xs.length:Int)*k<=sizeLine /\
 (k=1->Q (.ref a) H)/\(k≠1->∀ p,H p=none->Q (.ref p) (upd H p (.tup (Qp k.toNat xs).flatten)))
theorem Jbu:OpR X (binaryOp .Mult) (Jr1 X.K):=by
 intro pins s σ H x y v u Q I rx ry h
 obtain ⟨a,k,xs,rfl,rfl,hq,hne,h1,hz,q1,q2⟩:=h
 cases rx
 obtain ⟨t,rfl⟩:=ry
 obtain ⟨its,r,pl,hz'⟩:=I.tuple hq
 have hl:=r.length
 obtain ⟨⟨cls,dd,data,sl⟩,ho,hc,n,hd⟩:=id pl
 simp only at hc hd
 subst hc hd
 have hne':¬ its.toArray.isEmpty=true:=by
  cases xs with
  | nil=>exact absurd rfl hne
  | cons z zs=>cases its with
   | nil=>simp at hl
   | cons _ _=>simp
 have f0:∀ m:Nat,J24 (λ x1 x2=>x1++x2) #[] (Qp m its.toArray)=(Qp m its).flatten.toArray:=λ m=>by
  have:=Jc9 its m []
  rw [J3t] at this
  exact this
 have road:∀ {R:J8i->J8k->Prop},J8l (model X.prog X.w) X.A (call (.builtin "tuple.__mul__") [.ref a,.int k t]) R X.xe s->J8l (model X.prog X.w) X.A (binaryOp .Mult (.ref a) (.int k t)) R X.xe s:=λ {R} hw=>
  J9x (T:="tuple") (U:="int") (by decide) ⟨_,ho,rfl⟩ (λ s'=>typeIs_int s' k t) Jfk PySem.F.fills_int_mul J6s Jkl PySem.F.slot_int_index.lookup
   (call_meets J6s (typeIs_int s k t) PySem.F.entry_int_rmul (PySem.F.args_int_rmul_2 _ _) (Jhl k t a its.toArray n dd sl) ⟨ho,rfl,⟨_,ho,rfl⟩,hw⟩)
 refine road ?_
 have new:∀ (zs:List V) (ws:List J8i),Yg zs ws->zs.length<=sizeLine->Q (.ref s.heap.objs.size) (upd H s.heap.objs.size (.tup zs)) ->
  EP X pins σ Q (.ref s.heap.objs.size) { s with heap:=s.heap.push { cls:=.type "tuple",data:=.seq ws.toArray },toks:=s.toks }:=λ zs ws rv hz q=>
  ⟨.ref s.heap.objs.size,_,I.laid (t':=s.toks) (λ b u e=>Qt _ e) (Qm _) (show Zx _ _ _ _ _ (.tup zs) from ⟨hz,ws,rv,_,Xd _ rfl,rfl,0,rfl⟩),rfl,q⟩
 have hs:sizeLine=16777216:=J8p
 by_cases k1:k=1
 . subst k1
   exact call_meets J29 ⟨_,ho,rfl⟩ J44 (J45 _ _) (Jnz a its.toArray n dd sl t) ⟨ho,.ref a,H,I,rfl,q1 rfl⟩
 . by_cases k0:k<=0
   . refine call_meets J29 ⟨_,ho,rfl⟩ J44 (J45 _ _) (Jn0 a its.toArray n dd sl k t hne' k0 h1) ⟨ho,?_⟩
     have:=q2 k1 _ I.fresh
     rw [show k.toNat=0 by omega] at this
     exact new [] [] .nil (by simp) this
   . have hz2:((its.toArray.size:Nat):Int)*k<=sizeLine:=by rw [Q3,<- hl];exact hz
     refine call_meets J29 ⟨_,ho,rfl⟩ J44 (J45 _ _) (Jn1 a its.toArray n dd sl k t hne' (by omega) hz2) ⟨ho,?_⟩
     rw [f0]
     refine new _ _ (r.rep k.toNat) ?_ (q2 k1 _ I.fresh)
     rw [Jeg]
     have e:(((k.toNat*xs.length:Nat)):Int)=(xs.length:Int)*k:=by
      rw [J43,Uz (by omega),Xb]
     omega
end
noncomputable def Jgd (d:J8j) (T:String):Bool:=Jkk d==T||(Jkk d == "bool" && T == "int")
theorem Jze (K:Qc) (d:J8j) (T:String) (hT:T = "int"\/T = "bool"\/T = "str"\/T = "tuple"\/T = "list"):J4q K (.type (Jkk d)) (.type T)=some (Jgd d T):=by
 rcases hT with rfl | rfl | rfl | rfl | rfl<;>cases d<;>first | rfl | kernel_rfl
theorem Bp {X:Cx}:V3 X (.builtin "isinstance") (λ xs H Q=>∃ ex d x T,xs=[x,.ty T]/\Rep ex H d x/\noD d=true/\(T = "int"\/T = "bool"\/T = "str"\/T = "tuple"\/T = "list")/\Q (.bl (Jgd d T)) H):=by
 intro pins s σ H xs us Q I r h
 obtain ⟨ex,d,x,T,rfl,rd,hn,hT,q⟩:=h
 exact Jlz pins s σ H _ us Q I r ⟨x,T,_,_,rfl,Rep.tyOf hn rd,Jze _ _ _ hT,q⟩
end L2
namespace My
open L2
theorem Jpg {ex:List Addr}{H:Hp}{ds:List J8j}{v:V}(r:Rep ex H (.tuple ds) v):∃ a xs,v = .ref a/\H a=some (.tup xs)/\a∉ex/\xs.length<=sizeLine/\Reps ex H ds xs:=by
 cases r with | tuple e n z rs=>exact ⟨_,_,rfl,e,n,z,rs⟩
theorem Jul {ex:List Addr}{H:Hp}{ds:List J8j}{v:V}(r:Rep ex H (.list ds) v):∃ a xs,v = .ref a/\H a=some (.lst xs)/\a∉ex/\xs.length<=sizeLine/\Reps ex H ds xs:=by
 cases r with | list e n z rs=>exact ⟨_,_,rfl,e,n,z,rs⟩
theorem Jxn {ex:List Addr}{H:Hp}{a b c:J8j}{vs:List V}(r:Reps ex H [a,b,c] vs):∃ x y z,vs=[x,y,z]/\Rep ex H a x/\Rep ex H b y/\Rep ex H c z:=by
 cases r with | cons r1 r=>cases r with | cons r2 r=>cases r with | cons r3 r=>cases r;exact ⟨_,_,_,rfl,r1,r2,r3⟩
theorem Jr2 {ex:List Addr}{H:Hp}{a b c:J8j}{v:V}(r:Rep ex H (.tuple [a,b,c]) v):∃ at' x y z,v = .ref at'/\H at'=some (.tup [x,y,z])/\at'∉ex/\Rep ex H a x/\Rep ex H b y/\Rep ex H c z:=by
 obtain ⟨at',xs,rfl,e,n,_,rs⟩:=Jpg r
 obtain ⟨x,y,z,rfl,r1,r2,r3⟩:=Jxn rs
 exact ⟨at',x,y,z,rfl,e,n,r1,r2,r3⟩
theorem Jph {ex:List Addr}{H:Hp}{i:Int}{v:V}(r:Rep ex H (.int i) v):v = .int i:=by cases r;rfl
theorem Z3 {c:Bool}{A B:Prop}(h1:c=true->A) (h2:c=false->B):if c=true then A else B:=by
 cases c with
 | true=>exact h1 rfl
 | false=>exact h2 rfl
noncomputable def Jxo:Option Int->List (Key×V)
 | none=>[]
 | some m=>[(Ud "most",V.int m)]
noncomputable def Jwb (c:Addr) (rest seed:Int) (turn:Int×Option Int):List (Key×V):=(Ud "cells",V.ref c)::(Ud "rest",V.int rest)::(Ud "seed",V.int seed)::(Ud "turn",V.int turn.1)::Jxo turn.2
structure Jar (H:Hp) (p c:Addr):Prop where
 ex:∃ (ns:List Int) (rest seed:Int) (turn:Int×Option Int),H p=some (.dK (Jwb c rest seed turn))/\H c=some (.lst (ns.map V.int))/\ns.length<=63/\0<=seed/\seed<2^64
theorem Jar.fresh {H:Hp}{p c l:Addr}(J:Jar H p c) (h:H l=none):l∉[p,c]:=by
 obtain ⟨ns,r,s,t,h1,h2,_⟩:=J.ex
 intro z
 rcases Qh.mp z with rfl | z
 . rw [h] at h1;cases h1
 . cases Qu.mp z;rw [h] at h2;cases h2
section
variable (c:Addr) (r s:Int) (t:Int×Option Int) (x:Int)
end
structure JarX (H:Hp) (p c:Addr) (ns:List Int) (r sd:Int) (tn:Int×Option Int):Prop where
 d:H p=some (.dK (Jwb c r sd tn))
 l:H c=some (.lst (ns.map V.int))
theorem JarX.jar {H:Hp}{p c:Addr}{ns:List Int}{r sd:Int}{tn:Int×Option Int}(J:JarX H p c ns r sd tn) (h1:ns.length<=63) (h2:0<=sd) (h3:sd<2^64):Jar H p c:=⟨ns,r,sd,tn,J.d,J.l,h1,h2,h3⟩
def Jxp (H:Hp) (p c:Addr) (e:Option Int):Prop:=∃ ns r sd tn,JarX H p c ns r sd (tn,e)/\ns.length<=63/\0<=sd/\sd<2^64
theorem Jxp.jar {H:Hp}{p c:Addr}{e:Option Int}(J:Jxp H p c e):Jar H p c:=by
 obtain ⟨ns,r,sd,tn,X,h1,h2,h3⟩:=J
 exact X.jar h1 h2 h3
theorem Vi {t u:TS}{D:Ends}{σ:L2.St}{H:Hp}(Mid:L2.St->Hp->Prop) (h1:∀ N:L2.St->Hp->Prop,(∀ σ' H',Mid σ' H'->N σ' H')->t { D with nx:=N } σ H) (h2:∀ σ' H',Mid σ' H'->u D σ' H'):Ja5 t u D σ H:=h1 _ h2
theorem Jqn (ns:List Int) (lo hi:Option Int):∃ ms:List Int,Jlv (ns.map V.int) lo hi=ms.map V.int/\ms.length<=ns.length:=by
 unfold Jlv
 refine ⟨_,by rw [<- J3a,<- J10],?_⟩
 rw [J20,J21]
 omega
mutual
theorem Rep.mono {ex ex':List Addr}{H:Hp}(h:∀ b∈ex,b∈ex'):∀ {d:J8j}{v:V},Rep ex' H d v->Rep ex H d v
 | _,_,.none=>.none
 | _,_,.bool b=>.bool b
 | _,_,.int i=>.int i
 | _,_,.str x=>.str x
 | _,_,.tuple e n z r=>.tuple e (λ q=>n (h _ q)) z (Reps.mono h r)
 | _,_,.list e n z r=>.list e (λ q=>n (h _ q)) z (Reps.mono h r)
 | _,_,.obj e n k r=>.obj e (λ q=>n (h _ q)) k (Reps.mono h r)
 | _,_,.dctf e n k r=>.dctf e (λ q=>n (h _ q)) k (Reps.mono h r)
theorem Reps.mono {ex ex':List Addr}{H:Hp}(h:∀ b∈ex,b∈ex'):∀ {ds:List J8j}{vs:List V},Reps ex' H ds vs->Reps ex H ds vs
 | _,_,.nil=>.nil
 | _,_,.cons r t=>.cons (Rep.mono h r) (Reps.mono h t)
end
theorem Jzf {P:Int->Prop}(ns:List Int) {i:Int}(h:∀ n∈ns,P n) (h0:0<=i) (h1:i<ns.length):∃ n,atI (ns.map V.int) i=some (V.int n)/\P n:=by
 have hk:i.toNat<ns.length:=by omega
 have e:i=((i.toNat:Nat):Int):=by omega
 refine ⟨ns[i.toNat],?_,h _ (Q8 hk)⟩
 have q:atI (ns.map V.int) ((i.toNat:Nat):Int)=some (V.int ns[i.toNat]):=Jkg (by rw [Qk,Qg hk];rfl)
 rw [<- e] at q
 exact q
theorem Jr3 {K:Qc}{a:Addr}{k:Int}{xs:List V}{H:Hp}{Q:VK}(e:H a=some (.tup xs)) (hne:xs≠[]) (h1:-(2^63)<=k) (hz:(xs.length:Int)*k<=sizeLine)
 (h:∀ t H',Kp [] H H'->H' t=some (.tup (Qp k.toNat xs).flatten)->(t=a\/H t=none)->Q (.ref t) H'):Jr1 K (.ref a) (.int k) H Q:=by
 refine ⟨a,k,xs,rfl,rfl,SqT.of e,hne,h1,hz,λ k1=>?_,λ _ p hp=>h p _ (Kp.new hp _) Jj (.inr hp)⟩
 subst k1
 exact h a H .refl (by rw [e];simp) (.inl rfl)
theorem Jcg {n:Nat}{i:Int}(h0:0<=i) (h1:i<n):ixN n i=some i.toNat:=by
 unfold ixN;rw [if_pos h0,if_pos h1]
def Jl0 (K:Qc):Sp:=λ vs H Q _=>∃ (a:Addr) (ns:List Int),vs=[.ref a]/\SqL K H a (ns.map V.int)/\ns.length<=63/\∀ H',Q (.bl true) H'
theorem V6 {α:Type}{l:List α}(h:l.length<=1000):l.length<=sizeLine:=Um (Jqm h)
end My
namespace L2
theorem Jac (o i:Expr) (pos:Pos) (env:Env) (v:J8i):assign (.Subscript o i pos) env v=(do
 let ov <- holding [v] (eval o env)
 let iv <- holding [v,ov] (eval i env)
 J8y pos
 holding [v,ov,iv] (setItem ov iv v)
 release (match i with | .Slice _ _ none _=>[iv,v,ov] | _=>[v,ov,iv]) []):=rfl
theorem Jgn (o f:Expr) (args:List Expr) (kws:List J9d) (p pos:Pos) (env:Env) (v:J8i):assign (.Subscript o (.Call f args kws p) pos) env v=(do
 let ov <- holding [v] (eval o env)
 let iv <- holding [v,ov] (eval (.Call f args kws p) env)
 J8y pos
 holding [v,ov,iv] (setItem ov iv v)
 release [v,ov,iv] []):=Jac _ _ _ _ _
theorem J6 (o:Expr) (x:Str) (p pos:Pos) (env:Env) (v:J8i):assign (.Subscript o (.Name x p) pos) env v=(do
 let ov <- holding [v] (eval o env)
 let iv <- holding [v,ov] (eval (.Name x p) env)
 J8y pos
 holding [v,ov,iv] (setItem ov iv v)
 release [v,ov,iv] []):=Jac _ _ _ _ _
section
variable {X:Cx}{es:List Expr}{te:TE}{t:TA}{pos:Pos}
theorem Jch {xs:List Expr}{k:Nat}(ha:PE X (.Tuple xs k pos) te) (hr:PA X es t):PA X (.Tuple xs k pos::es) (Yp te t):=Vs ha hr rfl
theorem Jkm {xs:List Expr}(ha:PE X (.List xs pos) te) (hr:PA X es t):PA X (.List xs pos::es) (Yp te t):=Vs ha hr rfl
theorem Zc {k:Const}{j:Nat}(ha:PE X (.Constant k j pos) te) (hr:PA X es t):PA X (.Constant k j pos::es) (Yp te t):=Vs ha hr rfl
theorem Jb {x:Str}(ha:PE X (.Name x pos) te) (hr:PA X es t):PA X (.Name x pos::es) (Yp te t):=Vs ha hr rfl
theorem Z0 {f:Expr}{xs:List Expr}{ks:List J9d}(ha:PE X (.Call f xs ks pos) te) (hr:PA X es t):PA X (.Call f xs ks pos::es) (Yp te t):=Vs ha hr rfl
theorem Wq {a b:Expr}{op:J9i}(ha:PE X (.BinOp a op b pos) te) (hr:PA X es t):PA X (.BinOp a op b pos::es) (Yp te t):=Vs ha hr rfl
theorem Jl1 {a:Expr}{op:UnaryOp}(ha:PE X (.UnaryOp op a pos) te) (hr:PA X es t):PA X (.UnaryOp op a pos::es) (Yp te t):=Vs ha hr rfl
theorem Jn2 {a:Expr}{ops:List CmpOp}{bs:List Expr}(ha:PE X (.Compare a ops bs pos) te) (hr:PA X es t):PA X (.Compare a ops bs pos::es) (Yp te t):=Vs ha hr rfl
theorem J9 {a b:Expr}(ha:PE X (.Subscript a b pos) te) (hr:PA X es t):PA X (.Subscript a b pos::es) (Yp te t):=Vs ha hr rfl
theorem Jgy {e:Expr}{gs:List Comprehension}{sc:J8q}(ha:PE X (.ListComp e gs sc pos) te) (hr:PA X es t):PA X (.ListComp e gs sc pos::es) (Yp te t):=Vs ha hr rfl
end
structure PEs (X:Cx) (e:Expr) (t:TE):Prop where
 out:PE X e t
structure PAs (X:Cx) (es:List Expr) (t:TA):Prop where
 out:PA X es t
section
variable {X:Cx}{es:List Expr}{te:TE}{t:TA}{pos:Pos}
theorem J3 {e:Expr}(h:PE X e te):PEs X e te:=⟨h⟩
theorem Yq {k:Nat}(h:PAs X es t):PEs X (.Tuple es k pos) (Juf t):=⟨Jxg h.out⟩
theorem Ye (h:PAs X es t):PEs X (.List es pos) (Jxf t):=⟨Jxh h.out⟩
theorem Jz {i:Int}{j:Nat}:PEs X (.Constant (.int i) j pos) (tC (.int i)):=⟨Jd⟩
theorem Jgz {i:Str}{j:Nat}:PEs X (.Constant (.str i) j pos) (tC (.str i)):=⟨Jnl⟩
theorem Jr:PAs X [] Jbd:=⟨Jc⟩
theorem Jdb {xs:List Expr}{k:Nat}(ha:PEs X (.Tuple xs k pos) te) (hr:PAs X es t):PAs X (.Tuple xs k pos::es) (Yp te t):=⟨Jch ha.out hr.out⟩
theorem Jl {k:Const}{j:Nat}(ha:PEs X (.Constant k j pos) te) (hr:PAs X es t):PAs X (.Constant k j pos::es) (Yp te t):=⟨Zc ha.out hr.out⟩
theorem Zd {x:Str}(ha:PEs X (.Name x pos) te) (hr:PAs X es t):PAs X (.Name x pos::es) (Yp te t):=⟨Jb ha.out hr.out⟩
theorem Z4 {f:Expr}{xs:List Expr}{ks:List J9d}(ha:PEs X (.Call f xs ks pos) te) (hr:PAs X es t):PAs X (.Call f xs ks pos::es) (Yp te t):=⟨Z0 ha.out hr.out⟩
theorem Wc {a b:Expr}{op:J9i}(ha:PEs X (.BinOp a op b pos) te) (hr:PAs X es t):PAs X (.BinOp a op b pos::es) (Yp te t):=⟨Wq ha.out hr.out⟩
theorem Vp {a:Expr}{op:UnaryOp}(ha:PEs X (.UnaryOp op a pos) te) (hr:PAs X es t):PAs X (.UnaryOp op a pos::es) (Yp te t):=⟨Jl1 ha.out hr.out⟩
theorem Jau {a b:Expr}(ha:PEs X (.Subscript a b pos) te) (hr:PAs X es t):PAs X (.Subscript a b pos::es) (Yp te t):=⟨J9 ha.out hr.out⟩
end
theorem def_mk {K:Qc}{h:Heap}{mg:Str->Option J8i}{x:Str}{st:Stmt}{ps:List Str}{f:Addr}{oc:J8i}{od an:Option Addr}{osl:Array (Option J8i)}{kV doc pm cdv ct:J8i}(X:K.In h) (G:h.Ns J8v mg)
 (a:J46 K J8v x=some (some (.ref f))) (l:K.lookup f=some ⟨oc,od,.func (X0 x x (Wk st) (Zz st) (Je st) .none kV doc pm an cdv ct),osl⟩) (c:J1q K cdv x=true) (k:Uf K (.ref f)=true)
 (hb:∀ (kV doc pm:J8i) (an:Option Addr) (cdv ct:J8i) (us:List J8i),us.length=ps.length->J9b (X0 x x (Wk st) (Zz st) (Je st) .none kV doc pm an cdv ct) ⟨us,[]⟩=pure (ps.zip us)):Def K mg x st ps:=
 ⟨f,_,J47 X G a,Jhi (st:=st) l c k,(Jhi (st:=st) l c k).binds hb⟩
end L2
namespace My
open L2
structure Way where
 a:Int
 b:Int
 g:List Int
noncomputable def Ym (w:Way):J8j:=.tuple [.int w.a,.int w.b,.tuple (w.g.map Qi)]
noncomputable def J2 (R P:Int) (ws:List Way):J8j:=.tuple [.int R,.int P,.tuple (ws.map Ym)]
structure WayOk (R P:Int) (w:Way):Prop where
 a0:0<=w.a
 a1:w.a<R
 b0:0<=w.b
 b1:w.b<R
 len:(w.g.length:Int)=P
 small:∀ x∈w.g,-99<=x/\x<=99
structure BookOk (R P:Int) (ws:List Way):Prop where
 r0:1<=R
 r1:R<=12
 p0:1<=P
 p1:P<=6
 len:ws.length<=60
 ways:∀ w∈ws,WayOk R P w
theorem V7 {n:Int}(h:n<=100000):n<2^9000:=J6t h (by decide +kernel)
end My
namespace L2
section
variable {α:Type}{a b c d e f x:α}{l:List α}
theorem mm0:a∈a::l:=Qn
theorem mm1:b∈a::b::l:=Ql _ mm0
theorem mm2:c∈a::b::c::l:=Ql _ mm1
theorem mm3:d∈a::b::c::d::l:=Ql _ mm2
theorem mm4:e∈a::b::c::d::e::l:=Ql _ mm3
theorem mm5:f∈a::b::c::d::e::f::l:=Ql _ mm4
theorem mn0 (h:¬ x∈a::l):x≠a:=λ e=>h (e▸mm0)
theorem mn1 (h:¬ x∈a::b::l):x≠b:=λ e=>h (e▸mm1)
theorem mn2 (h:¬ x∈a::b::c::l):x≠c:=λ e=>h (e▸mm2)
theorem mn3 (h:¬ x∈a::b::c::d::l):x≠d:=λ e=>h (e▸mm3)
theorem mn4 (h:¬ x∈a::b::c::d::e::l):x≠e:=λ e=>h (e▸mm4)
theorem mn5 (h:¬ x∈a::b::c::d::e::f::l):x≠f:=λ e=>h (e▸mm5)
end
section
variable {prog:J8n}{w:J8m}{A:J8o}{E:J8i->J8k->Prop}{s:J8k}
theorem Jn3 {j t:Addr}{i:Nat}{vs:Array J8i}{y:J8i}{Q:J8i->J8k->Prop}(g:s.heap.IsTupleIter j t i) (gt:s.heap.IsTuple t vs) (gy:vs[i]? = some y)
 (q:∀ h',h'.IsTupleIter j t (i+1)->X1 j s.heap h'->Q y { s with heap:=h' }):J8l (model prog w) A (J1r (.ref j)) Q E s:=by
 obtain ⟨oj,e1,e2,e3⟩:=id g
 obtain ⟨ot,e4,_,n4,e5⟩:=gt
 have goal2:J8l (model prog w) A.in1 (Builtin.«tuple_iterator.__next__» ⟨[.ref j],[]⟩) (λ fin s'=>∃ v,fin = .done (.ret v)/\J8l (model prog w) A (pure v) Q E s') E s:=by
  show J8l _ _ (field (.ref j) 0 >>= _) _ _ s
  refine wpAny_bind (wpAny_field e1 e3 (x:=.ref t) rfl ?_)
  show J8l _ _ (if (Q2 t==Ul)=true then _ else _) _ _ s;rw [if_neg (show ¬ ((Q2 t==Ul)=true) from λ z=>J6u z)]
  show J8l _ _ (field (.ref j) 1 >>= _) _ _ s
  refine wpAny_bind (wpAny_field e1 e3 (x:=.int i 0) rfl ?_)
  show J8l _ _ (J87 (.ref t) >>= _) _ _ s
  refine wpAny_bind (wpAny_seqItems e4 e5 ?_)
  simp only [Qy,gy]
  refine wpAny_bind (wpAny_setField e1 e3 (by first | exact mm0 | exact mm1 | exact mm2 | exact mm3 | exact mm4 | exact mm5 | simp) (wpAny_pure ⟨y,rfl,wpAny_pure (q _ ⟨_,J3r _ e1 (Obj.isFreed_of_fields (J6v e3 _)),(Obj.cls_mapFields ..).trans e2,?_⟩ (J6w ..))⟩))
  rw [J6v e3];simp [rawInt]
 unfold J1r
 exact wpAny_bind (J9q (name:=J3b "__next__") g.typeIs J3y (wpAny_call_entry J3y g.typeIs J6x goal2 (J6y _)))
theorem Jqo {j t:Addr}{i:Nat}{vs:Array J8i}{Q:J8i->J8k->Prop}(hh:A.handled=none) (g:s.heap.IsTupleIter j t i) (gt:s.heap.IsTuple t vs) (gy:vs[i]? = none)
 (q:∀ h' e,Heap.ExtBut j s.heap h'->(∃ o,h'.get? e=some o/\o.cls = .type "StopIteration")->E (.ref e) { s with heap:=h' }):J8l (model prog w) A (J1r (.ref j)) Q E s:=by
 obtain ⟨oj,e1,e2,e3⟩:=id g
 obtain ⟨ot,e4,_,n4,e5⟩:=gt
 unfold J1r
 refine wpAny_bind (J9q (name:=J3b "__next__") g.typeIs J3y (wpAny_call_entry J3y g.typeIs J6x ?_ (J6y _)))
 show J8l _ _ (field (.ref j) 0 >>= _) _ _ s
 refine wpAny_bind (wpAny_field e1 e3 (x:=.ref t) rfl ?_)
 show J8l _ _ (if (Q2 t==Ul)=true then _ else _) _ _ s;rw [if_neg (show ¬ ((Q2 t==Ul)=true) from λ z=>J6u z)]
 show J8l _ _ (field (.ref j) 1 >>= _) _ _ s
 refine wpAny_bind (wpAny_field e1 e3 (x:=.int i 0) rfl ?_)
 show J8l _ _ (J87 (.ref t) >>= _) _ _ s
 refine wpAny_bind (wpAny_seqItems e4 e5 ?_)
 simp only [Qy,gy]
 refine wpAny_bind (wpAny_rule (wpAny_bind (wpAny_setField e1 e3 (by first | exact mm0 | exact mm1 | exact mm2 | exact mm3 | exact mm4 | exact mm5 | simp) ?_)))
 show J8l _ _ (newExc (.type "StopIteration") [] >>= _) _ _ _;refine wpAny_bind ?_;simp only [newExc,newTuple]
 refine wpAny_bind (wpAny_newObj_type ?_ (by size_fits));refine wpAny_bind (m:=firstArgMember _ _) (wpAny_of_eq (a:=Ul) (by first | rfl | (simp only [firstArgMember];rfl)) ?_);refine wpAny_newObj_type ?_ (by size_fits)
 simp only [raiseNew];refine wpAny_bind (wpAny_handled ?_);first | rw [show A.in1.handled=none from hh] | rw [hh]
 refine wpAny_bind (wpAny_pure (wpAny_throw (q _ _ (((J6w ..).extBut.push _).push _) ⟨_,Xd _ rfl,rfl⟩)))
end
def Jdk (b:Bool) (h:Heap) (a:Addr) (vs:Array J8i):Prop:=match b with | true=>h.IsTuple a vs | false=>h.IsList a vs
def ItAt (b:Bool) (h:Heap) (j a:Addr) (i:Nat):Prop:=match b with | true=>h.IsTupleIter j a i | false=>h.IsListIter j a i
theorem Jdk.at {b:Bool}{h h':Heap}{a:Addr}{vs:Array J8i}(x:Jdk b h a vs) (k:∀ o,h.get? a=some o->h'.get? a=some o):Jdk b h' a vs:=by
 cases b with
 | true=>exact let ⟨o,e,r⟩:=x;⟨o,k o e,r⟩
 | false=>exact let ⟨o,e,r⟩:=x;⟨o,k o e,r⟩
theorem ItAt.at {b:Bool}{h h':Heap}{j a:Addr}{i:Nat}(x:ItAt b h j a i) (k:∀ o,h.get? j=some o->h'.get? j=some o):ItAt b h' j a i:=by
 cases b with
 | true=>exact let ⟨o,e,r⟩:=x;⟨o,k o e,r⟩
 | false=>exact let ⟨o,e,r⟩:=x;⟨o,k o e,r⟩
theorem ItAt.obj {b:Bool}{h:Heap}{j a:Addr}{i:Nat}(x:ItAt b h j a i):∃ o,h.get? j=some o/\∀ v,o.data≠.cell v:=by
 cases b with
 | true=>exact let ⟨o,e,_,d⟩:=x;⟨o,e,λ v z=>by rw [d] at z;cases z⟩
 | false=>exact let ⟨o,e,_,d⟩:=x;⟨o,e,λ v z=>by rw [d] at z;cases z⟩
theorem Jbh {prog:J8n}{w:J8m}{A:J8o}(b:Bool) (hh:A.handled=none) (j a:Addr) (hne:a≠j) (vs:Array J8i) :
 Draws prog w A j [j,a] vs.size (λ i v=>vs[i]? = some v) (λ i h=>ItAt b h j a i/\Jdk b h a vs):=by
 cases b with
 | false=>exact Draws.list hh j a hne vs
 | true=>exact {
  live:=λ _ _ st=>let ⟨o,ho,_⟩:=st.1;⟨o,ho⟩
  frame:=λ _ _ _ st hk=>⟨ItAt.at (b:=true) st.1 λ o e=>hk j (by first | exact mm0 | exact mm1 | exact mm2 | exact mm3 | exact mm4 | exact mm5 | simp) o e,Jdk.at (b:=true) st.2 λ o e=>hk a (by first | exact mm0 | exact mm1 | exact mm2 | exact mm3 | exact mm4 | exact mm5 | simp) o e⟩
  item:=λ i s Q E hi st hQ=>by
   have e:vs[i]? = some vs[i]:=by simp [hi]
   exact Jn3 st.1 st.2 e λ h' g' sb=>hQ _ h' s.toks e ⟨g',Jdk.at (b:=true) st.2 λ o z=>(sb.2 a hne).trans z⟩ sb
  done:=λ s Q E st hE=>Jqo hh st.1 st.2 (by first | exact mm0 | exact mm1 | exact mm2 | exact mm3 | exact mm4 | exact mm5 | simp) hE }
section
open AutoSeq1 (wpAny_loadPart')
theorem Jqp (l:Addr) (vs:Array J8i) (n:Nat) (dc:Option Addr) (sl:Array (Option J8i)) :
 Meets (Builtin.«enumerate.__new__» ⟨[.type "enumerate",.ref l],[]⟩) (λ _ R s=>s.heap.get? l=some { cls:=.type "tuple",dict:=dc,data:=.seq vs n,slots:=sl } /\
  R (.ok (.ret (.ref (s.heap.push { cls:=.type "tuple_iterator",data:=.fields #[.ref l,.int 0 0] }).objs.size)))
   { s with heap:=(s.heap.push { cls:=.type "tuple_iterator",data:=.fields #[.ref l,.int 0 0] }).push { cls:=.type "enumerate",data:=.fields #[.none,.bool false,.ref s.heap.objs.size,rawInt 0,.none,.none] } }):=
 .of_wp λ prog w A R s h=>by
  obtain ⟨hp,g,d,tk,os⟩:=s;obtain ⟨hl,h⟩:=h;have hsub:=sub_enumerate
  have hL:Heap.IsTuple (J48 ⟨hp,g,d,tk,os⟩) l vs:=⟨_,hl,rfl,n,rfl⟩
  wp_walk using J80 hl
  refine wpAny_stack_any λ st=>wpAny_pure ?_
  split
  . rename_i c _ _ _ _ _
    cases (c==J2b "enumerate")<;>(wp_walk using J80 hl,wpAny_pyIter_tuple hL;exact ⟨_,rfl,h⟩)
  . wp_walk using J80 hl,wpAny_pyIter_tuple hL
    exact ⟨_,rfl,h⟩
end
theorem Jqq {prog:J8n}{w:J8m}{A:J8o}{E:J8i->J8k->Prop}{s:J8k}(b:Bool) {l:Addr}{vs:Array J8i}{Q:J8i->J8k->Prop}(x:Jdk b s.heap l vs)
 (q:∀ h',IsEnum h' (s.heap.objs.size+1) s.heap.objs.size 0 .none->ItAt b h' s.heap.objs.size l 0->h'.objs.size=s.heap.objs.size+2 ->
  (∀ c o,s.heap.get? c=some o->h'.get? c=some o)->Q (.ref (s.heap.objs.size+1)) { s with heap:=h' }) :
 J8l (model prog w) A (call (.type "enumerate") [.ref l]) Q E s:=by
 cases b with
 | false=>exact call_enumerate_list x q
 | true=>
  obtain ⟨⟨c,dc,dt,sl⟩,hl,hc,n,hd⟩:=x
  replace hc:c = .type "tuple":=hc
  replace hd:dt = .seq vs n:=hd
  subst hc hd
  refine callType_new F.called_enumerate (by decide) (F.typeCall_enumerate_1 _) (F.newCall_enumerate_1 _) (λ obj=>F.args_object_init_2 obj _) F.entry_enumerate_new (Jqp l vs n dc sl) ⟨hl,?_⟩
  have hz:(s.heap.push { cls:=.type "tuple_iterator",data:=.fields #[.ref l,.int 0 0] }).objs.size=s.heap.objs.size+1:=Xy ..
  show _/\_
  rw [hz]
  have he:IsEnum ((s.heap.push { cls:=.type "tuple_iterator",data:=.fields #[.ref l,.int 0 0] }).push { cls:=.type "enumerate",data:=.fields #[.none,.bool false,.ref s.heap.objs.size,rawInt 0,.none,.none] }) (s.heap.objs.size+1) s.heap.objs.size 0 .none:=by
   have z:=Xd (s.heap.push { cls:=.type "tuple_iterator",data:=.fields #[.ref l,.int 0 0] }) (o:={ cls:=.type "enumerate",data:=.fields #[.none,.bool false,.ref s.heap.objs.size,rawInt 0,.none,.none] }) rfl
   rw [hz] at z;exact z
  exact ⟨⟨_,he,rfl⟩,q _ he ⟨_,Qt _ (Xd _ rfl),rfl,rfl⟩ (by rw [Xy,hz]) λ c o y=>Qt _ (Qt _ y)⟩
noncomputable def Jjr (b:Bool) (l:Addr):Obj:={ cls:=.type (match b with | true=>"tuple_iterator" | false=>"list_iterator"),data:=.fields #[.ref l,.int 0 0] }
theorem Jl2 {b:Bool}{h:Heap}{j l:Addr}(e:h.get? j=some (Jjr b l)):ItAt b h j l 0:=by
 cases b with
 | true=>exact ⟨_,e,rfl,rfl⟩
 | false=>exact ⟨_,e,rfl,rfl⟩
theorem Jeh {prog:J8n}{w:J8m}{A:J8o}{E:J8i->J8k->Prop}{s:J8k}{b:Bool}{a:Addr}{vs:Array J8i}{Q:J8i->J8k->Prop}(x:Jdk b s.heap a vs)
 (q:Q (.ref s.heap.objs.size) { s with heap:=s.heap.push (Jjr b a) }):J8l (model prog w) A (pyIter (.ref a)) Q E s:=by
 cases b with
 | true=>exact wpAny_pyIter_tuple x q
 | false=>exact wpAny_pyIter_list x q
noncomputable abbrev zz1 (b:Bool) (h:Heap) (l:Addr):Heap:=h.push (Jjr b l)
noncomputable abbrev zz2 (b b':Bool) (h:Heap) (l m:Addr):Heap:=(zz1 b h l).push (Jjr b' m)
noncomputable abbrev zz3 (b b':Bool) (h:Heap) (l m:Addr):Heap:=(zz2 b b' h l m).push { cls:=.type "tuple",data:=.seq #[.ref h.objs.size,.ref (zz1 b h l).objs.size] }
noncomputable abbrev zz4 (b b':Bool) (h:Heap) (l m:Addr):Heap:=(zz3 b b' h l m).push { cls:=.type "tuple",data:=.seq #[.none,.none] }
noncomputable abbrev zz5 (b b':Bool) (h:Heap) (l m:Addr):Heap:=(zz4 b b' h l m).push { cls:=.type "zip",data:=.fields #[.none,.bool false,.bool false,.ref (zz2 b b' h l m).objs.size,.ref (zz3 b b' h l m).objs.size] }
theorem Jum (b b':Bool) (l m:Addr) (xs ys:Array J8i) :
 Meets (Builtin.«zip.__new__» ⟨[.type "zip",.ref l,.ref m],[]⟩) (λ _ R s=>Jdk b s.heap l xs/\Jdk b' s.heap m ys /\
  R (.ok (.ret (.ref (zz4 b b' s.heap l m).objs.size))) { s with heap:=zz5 b b' s.heap l m }):=
 .of_wp λ prog w A R s h=>by
  obtain ⟨hp,g,d,tk,os⟩:=s;obtain ⟨x1,x2,h⟩:=h
  have hsub:=sub_zip
  have x1':Jdk b (J48 ⟨hp,g,d,tk,os⟩) l xs:=x1
  have x2':Jdk b' (J48 ⟨hp.push (Jjr b l),g,d,tk,os⟩) m ys:=Jdk.at x2 λ o e=>Qt _ e
  wp_walk using Jeh x1',Jeh x2'
  exact ⟨_,rfl,h⟩
structure ZApart (z TI TO j1 j2:Addr) (f1 f2:List Addr):Prop where
 m1:j1∈f1
 m2:j2∈f2
 z1:z∉f1
 z2:z∉f2
 o1:TO∉f1
 o2:TO∉f2
 q1:j1∉f2
 q2:j2∉f1
 iz:TI≠z
 io:TI≠TO
 i1:TI≠j1
 i2:TI≠j2
 oz:TO≠z
theorem ZApart.j1z {z TI TO j1 j2:Addr}{f1 f2:List Addr}(D:ZApart z TI TO j1 j2 f1 f2):j1≠z:=λ e=>D.z1 (e▸D.m1)
theorem ZApart.j2z {z TI TO j1 j2:Addr}{f1 f2:List Addr}(D:ZApart z TI TO j1 j2 f1 f2):j2≠z:=λ e=>D.z2 (e▸D.m2)
theorem ZApart.j1o {z TI TO j1 j2:Addr}{f1 f2:List Addr}(D:ZApart z TI TO j1 j2 f1 f2):j1≠TO:=λ e=>D.o1 (e▸D.m1)
theorem ZApart.j2o {z TI TO j1 j2:Addr}{f1 f2:List Addr}(D:ZApart z TI TO j1 j2 f1 f2):j2≠TO:=λ e=>D.o2 (e▸D.m2)
theorem Vt {a b:Addr}{l:List Addr}(h:a∉l) (hb:b∈l):b≠a:=λ e=>h (e▸hb)
section
variable {prog:J8n}{w:J8m}{A:J8o}{E:J8i->J8k->Prop}{s:J8k}{z TI TO j1 j2:Addr}{f1 f2:List Addr}{n1 n2 i:Nat}{P1 P2:Nat->J8i->Prop}{St1 St2:Nat->Heap->Prop}{a b:J8i}
theorem Jqr {Q:J8i->J8k->Prop}(D:ZApart z TI TO j1 j2 f1 f2) (D1:Draws prog w A j1 f1 n1 P1 St1) (D2:Draws prog w A j2 f2 n2 P2 St2) (hz:J8u s.heap z TI TO .none) (hI:J8r s.heap TI (.ref j1) (.ref j2)) (hO:J8r s.heap TO a b)
 (st1:St1 i s.heap) (st2:St2 i s.heap) (l1:i<n1) (l2:i<n2)
 (q:∀ x y h' tk,P1 i x->P2 i y->J8u h' z TI TO (rawInt s.heap.objs.size)->J8r h' TO x y->St1 (i+1) h'->St2 (i+1) h'->J8r h' s.heap.objs.size x y->h'.objs.size=s.heap.objs.size+1 ->
  (∀ c o,c≠z->c≠TO->c≠j1->c≠j2->s.heap.get? c=some o->h'.get? c=some o)->Q (.ref s.heap.objs.size) { s with heap:=h',toks:=tk }) :
 J8l (model prog w) A (Builtin.«zip.__next__» ⟨[.ref z],[]⟩) (λ fin s'=>∃ v,fin = .done (.ret v)/\Q v s') E s:=by
 obtain ⟨hp,gg,dd,t0,os⟩:=s
 show J8l _ _ (field (.ref z) 2 >>= _) _ _ _;refine wpAny_bind (wpAny_field hz rfl (x:=.bool false) rfl ?_)
 show J8l _ _ (field (.ref z) 3 >>= _) _ _ _;refine wpAny_bind (wpAny_field hz rfl (x:=.ref TI) rfl ?_)
 refine wpAny_bind (wpAny_seqItems hI rfl ?_)
 show J8l _ _ (J3z (.ref z) >>= _) _ _ _;refine wpAny_bind ?_;unfold J3z
 refine wpAny_bind (wpAny_field hz rfl (x:=.none) rfl (wpAny_pure ?_));simp only [if_true];refine wpAny_bind (wpAny_rule ?_)
 refine wpAny_bind (wpAny_field hz rfl (x:=.ref TO) rfl ?_)
 refine wpAny_bind (wpAny_setField_rec hz (by first | exact mm0 | exact mm1 | exact mm2 | exact mm3 | exact mm4 | exact mm5 | simp) λ g1 z1 b1=>?_);replace z1:J8u g1 z TI TO .ellipsis:=z1;replace b1:X1 z hp g1:=b1
 refine wpAny_bind ?_;simp only [List.zipIdx_cons,List.zipIdx_nil,J4y,J49]
 refine wpAny_bind (wpAny_bind (wpAny_onRaise ?_))
 show J8l _ _ (J1r (.ref j1) >>= _) _ _ _
 refine wpAny_bind (D1.item i _ _ _ l1 (D1.frame _ _ _ st1 λ c hc o e=>b1.extBut c o (Vt D.z1 hc) e) λ x g2 t2 px s12 b2=>wpAny_pure ?_);replace b2:X1 j1 g1 g2:=b2
 have o2:J8r g2 TO a b:=b2.extBut _ _ (Qj D.j1o) (b1.extBut _ _ D.oz hO)
 refine wpAny_bind (wpAny_seqItems o2 rfl ?_)
 refine wpAny_bind (wpAny_updateSeq_pair o2 λ g3 o3 b3=>?_);replace o3:J8r g3 TO x b:=o3;replace b3:X1 TO g2 g3:=b3
 refine wpAny_bind (wpAny_letGo (wpAny_pure ?_));refine wpAny_bind (wpAny_bind (wpAny_onRaise ?_))
 show J8l _ _ (J1r (.ref j2) >>= _) _ _ _
 refine wpAny_bind (D2.item i _ _ _ l2 (D2.frame _ _ _ st2 λ c hc o e=>b3.extBut c o (Vt D.o2 hc) (b2.extBut c o (Vt D.q1 hc) (b1.extBut c o (Vt D.z2 hc) e))) λ y g4 t4 py s24 b4=>wpAny_pure ?_);replace b4:X1 j2 g3 g4:=b4
 have o4:J8r g4 TO x b:=b4.extBut _ _ (Qj D.j2o) o3
 refine wpAny_bind (wpAny_seqItems o4 rfl ?_)
 refine wpAny_bind (wpAny_updateSeq_pair o4 λ g5 o5 b5=>?_);replace o5:J8r g5 TO x y:=o5;replace b5:X1 TO g4 g5:=b5
 refine wpAny_bind (wpAny_letGo (wpAny_pure (wpAny_pure ?_)))
 refine wpAny_bind (wpAny_seqItems o5 rfl ?_);refine wpAny_bind (wpAny_newTuple ?_)
 have sz:g5.objs.size=hp.objs.size:=by rw [b5.1,b4.1,b3.1,b2.1,b1.1]
 have z5:J8u g5 z TI TO .ellipsis:=b5.extBut _ _ (Qj D.oz) (b4.extBut _ _ (Qj D.j2z) (b3.extBut _ _ (Qj D.oz) (b2.extBut _ _ (Qj D.j1z) z1)))
 have k5:∀ c o,c≠z->c≠TO->c≠j1->c≠j2->hp.get? c=some o->g5.get? c=some o:=λ c o c1 c2 c3 c4 e=>b5.extBut _ _ c2 (b4.extBut _ _ c4 (b3.extBut _ _ c2 (b2.extBut _ _ c3 (b1.extBut _ _ c1 e))))
 have s15:St1 (i+1) g5:=D1.frame _ _ _ s12 λ c hc o e=>b5.extBut c o (Vt D.o1 hc) (b4.extBut c o (Vt D.q2 hc) (b3.extBut c o (Vt D.o1 hc) e))
 have s25:St2 (i+1) g5:=D2.frame _ _ _ s24 λ c hc o e=>b5.extBut c o (Vt D.o2 hc) e
 have zl:z<g5.objs.size:=Qr z5
 show J8l _ _ (J6z (.ref z) (.ref g5.objs.size) >>= _) _ _ _;refine wpAny_bind ?_;unfold J6z
 have z6:J8u (g5.push { cls:=.type "tuple",data:=.seq #[x,y] }) z TI TO .ellipsis:=Qt _ z5
 refine wpAny_bind (wpAny_setField_rec z6 (by first | exact mm0 | exact mm1 | exact mm2 | exact mm3 | exact mm4 | exact mm5 | simp) λ g7 z7 b7=>?_);replace z7:J8u g7 z TI TO (rawInt g5.objs.size):=z7
 refine wpAny_setField_rec z7 (by first | exact mm0 | exact mm1 | exact mm2 | exact mm3 | exact mm4 | exact mm5 | simp) λ g8 z8 b8=>?_;replace z8:J8u g8 z TI TO (rawInt g5.objs.size):=z8
 have up:∀ c o,c≠z->g5.get? c=some o->g8.get? c=some o:=λ c o c1 e=>b8.extBut _ _ c1 (b7.extBut _ _ c1 (Qt _ e))
 have t8:J8r g8 g5.objs.size x y:=b8.extBut _ _ (J2v zl) (b7.extBut _ _ (J2v zl) (Xd _ rfl))
 have s8:g8.objs.size=g5.objs.size+1:=by rw [b8.1,b7.1,Xy]
 rw [sz] at z8 t8 s8
 refine wpAny_pure ⟨_,rfl,?_⟩;show Q (.ref g5.objs.size) _;rw [sz]
 exact q x y g8 t4 px py z8 (up _ _ D.oz o5) (D1.frame _ _ _ s15 λ c hc o e=>up c o (Vt D.z1 hc) e) (D2.frame _ _ _ s25 λ c hc o e=>up c o (Vt D.z2 hc) e) t8 s8 λ c o c1 c2 c3 c4 e=>up c o c1 (k5 c o c1 c2 c3 c4 e)
theorem Jr4 {Q:Fin->J8k->Prop}(D:ZApart z TI TO j1 j2 f1 f2) (D1:Draws prog w A j1 f1 n1 P1 St1) (D2:Draws prog w A j2 f2 n2 P2 St2) (hz:J8u s.heap z TI TO .none) (hI:J8r s.heap TI (.ref j1) (.ref j2)) (hO:J8r s.heap TO a b)
 (st1:St1 i s.heap) (st2:St2 i s.heap) (hend:i=n1\/(i<n1/\i=n2))
 (q:∀ h' e tk,(∀ c o,c≠z->c≠TO->c≠j1->c≠j2->s.heap.get? c=some o->h'.get? c=some o)->(∃ o,h'.get? e=some o/\o.cls = .type "StopIteration")->E (.ref e) { s with heap:=h',toks:=tk }) :
 J8l (model prog w) A (Builtin.«zip.__next__» ⟨[.ref z],[]⟩) Q E s:=by
 obtain ⟨hp,gg,dd,t0,os⟩:=s
 show J8l _ _ (field (.ref z) 2 >>= _) _ _ _;refine wpAny_bind (wpAny_field hz rfl (x:=.bool false) rfl ?_)
 show J8l _ _ (field (.ref z) 3 >>= _) _ _ _;refine wpAny_bind (wpAny_field hz rfl (x:=.ref TI) rfl ?_)
 refine wpAny_bind (wpAny_seqItems hI rfl ?_)
 show J8l _ _ (J3z (.ref z) >>= _) _ _ _;refine wpAny_bind ?_;unfold J3z
 refine wpAny_bind (wpAny_field hz rfl (x:=.none) rfl (wpAny_pure ?_));simp only [if_true];refine wpAny_bind (wpAny_rule ?_)
 refine wpAny_bind (wpAny_field hz rfl (x:=.ref TO) rfl ?_)
 refine wpAny_bind (wpAny_setField_rec hz (by first | exact mm0 | exact mm1 | exact mm2 | exact mm3 | exact mm4 | exact mm5 | simp) λ g1 z1 b1=>?_);replace z1:J8u g1 z TI TO .ellipsis:=z1;replace b1:X1 z hp g1:=b1
 refine wpAny_bind ?_;simp only [List.zipIdx_cons,List.zipIdx_nil,J4y,J49]
 refine wpAny_bind (wpAny_bind (wpAny_onRaise ?_))
 show J8l _ _ (J1r (.ref j1) >>= _) _ _ _
 have s11:=D1.frame _ _ _ st1 λ c hc o e=>b1.extBut c o (Vt D.z1 hc) e
 rcases hend with he | ⟨l1,he⟩
 . subst he
   refine wpAny_bind (D1.done _ _ _ s11 λ g2 e b2 he=>?_)
   obtain ⟨oe,hoe,hce⟩:=he
   have z2:J8u g2 z TI TO .ellipsis:=b2 _ _ (Qj D.j1z) z1
   have ez:e≠z:=λ x=>by subst x;rw [z2] at hoe;cases hoe;simp at hce
   refine wpAny_setField_rec z2 (by first | exact mm0 | exact mm1 | exact mm2 | exact mm3 | exact mm4 | exact mm5 | simp) λ g3 _ b3=>?_
   exact q g3 e t0 (λ c o c1 _ c3 _ x=>b3.extBut _ _ c1 (b2 _ _ c3 (b1.extBut _ _ c1 x))) ⟨oe,b3.extBut _ _ ez hoe,hce⟩
 . subst he
   refine wpAny_bind (D1.item i _ _ _ l1 s11 λ x g2 t2 px s12 b2=>wpAny_pure ?_);replace b2:X1 j1 g1 g2:=b2
   have o2:J8r g2 TO a b:=b2.extBut _ _ (Qj D.j1o) (b1.extBut _ _ D.oz hO)
   refine wpAny_bind (wpAny_seqItems o2 rfl ?_)
   refine wpAny_bind (wpAny_updateSeq_pair o2 λ g3 o3 b3=>?_);replace b3:X1 TO g2 g3:=b3
   refine wpAny_bind (wpAny_letGo (wpAny_pure ?_));refine wpAny_bind (wpAny_bind (wpAny_onRaise ?_))
   show J8l _ _ (J1r (.ref j2) >>= _) _ _ _
   refine wpAny_bind (D2.done _ _ _ (D2.frame _ _ _ st2 λ c hc o e=>b3.extBut c o (Vt D.o2 hc) (b2.extBut c o (Vt D.q1 hc) (b1.extBut c o (Vt D.z2 hc) e))) λ g4 e b4 he=>?_)
   obtain ⟨oe,hoe,hce⟩:=he
   have z4:J8u g4 z TI TO .ellipsis:=b4 _ _ (Qj D.j2z) (b3.extBut _ _ (Qj D.oz) (b2.extBut _ _ (Qj D.j1z) z1))
   have ez:e≠z:=λ x=>by subst x;rw [z4] at hoe;cases hoe;simp at hce
   refine wpAny_setField_rec z4 (by first | exact mm0 | exact mm1 | exact mm2 | exact mm3 | exact mm4 | exact mm5 | simp) λ g5 _ b5=>?_
   exact q g5 e t2 (λ c o c1 c2 c3 c4 x=>b5.extBut _ _ c1 (b4 _ _ c4 (b3.extBut _ _ c2 (b2.extBut _ _ c3 (b1.extBut _ _ c1 x))))) ⟨oe,b5.extBut _ _ ez hoe,hce⟩
theorem Jhm {Q:Option J8i->J8k->Prop}(D:ZApart z TI TO j1 j2 f1 f2) (D1:Draws prog w A.in1 j1 f1 n1 P1 St1) (D2:Draws prog w A.in1 j2 f2 n2 P2 St2) (hz:J8u s.heap z TI TO .none) (hI:J8r s.heap TI (.ref j1) (.ref j2)) (hO:J8r s.heap TO a b)
 (st1:St1 i s.heap) (st2:St2 i s.heap) (l1:i<n1) (l2:i<n2)
 (q:∀ x y h' tk,P1 i x->P2 i y->J8u h' z TI TO (rawInt s.heap.objs.size)->J8r h' TO x y->St1 (i+1) h'->St2 (i+1) h'->J8r h' s.heap.objs.size x y->h'.objs.size=s.heap.objs.size+1 ->
  (∀ c o,c≠z->c≠TO->c≠j1->c≠j2->s.heap.get? c=some o->h'.get? c=some o)->Q (some (.ref s.heap.objs.size)) { s with heap:=h',toks:=tk }) :
 J8l (model prog w) A (pyNext (.ref z)) Q E s:=by
 have hT:s.TypeIs (.ref z) "zip":=⟨_,hz,rfl⟩
 unfold pyNext
 exact wpAny_bind (wpAny_attempt (J9q (name:=J3b "__next__") hT J30 (wpAny_call_entry J30 hT J60
  (Jqr D D1 D2 hz hI hO st1 st2 l1 l2 λ x y h' tk a1 a2 a3 a4 a5 a6 a7 a8 a9=>wpAny_pure (q x y h' tk a1 a2 a3 a4 a5 a6 a7 a8 a9)) (J61 _))))
theorem Ji4 {Q:Option J8i->J8k->Prop}(D:ZApart z TI TO j1 j2 f1 f2) (D1:Draws prog w A.in1 j1 f1 n1 P1 St1) (D2:Draws prog w A.in1 j2 f2 n2 P2 St2) (hz:J8u s.heap z TI TO .none) (hI:J8r s.heap TI (.ref j1) (.ref j2)) (hO:J8r s.heap TO a b)
 (st1:St1 i s.heap) (st2:St2 i s.heap) (hend:i=n1\/(i<n1/\i=n2))
 (q:∀ h' tk,(∀ c o,c≠z->c≠TO->c≠j1->c≠j2->s.heap.get? c=some o->h'.get? c=some o)->Q none { s with heap:=h',toks:=tk }):J8l (model prog w) A (pyNext (.ref z)) Q E s:=by
 have hT:s.TypeIs (.ref z) "zip":=⟨_,hz,rfl⟩
 unfold pyNext
 refine wpAny_bind (wpAny_attempt (J9q (name:=J3b "__next__") hT J30 (wpAny_call_entry J30 hT J60 (Jr4 D D1 D2 hz hI hO st1 st2 hend λ h' e tk hk he=>?_) (J61 _))))
 obtain ⟨o,ho,hc⟩:=he
 refine wpAny_bind (wpAny_isInstance (T:="StopIteration") (b:=true) ⟨o,ho,hc⟩ isSubtype_stop ?_)
 exact wpAny_pure (q _ _ hk)
end
theorem Jqs {prog:J8n}{w:J8m}{A:J8o}{E:J8i->J8k->Prop}{s:J8k}(b b':Bool) {l m:Addr}{xs ys:Array J8i}{Q:J8i->J8k->Prop}(x1:Jdk b s.heap l xs) (x2:Jdk b' s.heap m ys)
 (q:∀ h',J8u h' (s.heap.objs.size+4) (s.heap.objs.size+2) (s.heap.objs.size+3) .none->J8r h' (s.heap.objs.size+2) (.ref s.heap.objs.size) (.ref (s.heap.objs.size+1)) ->
  J8r h' (s.heap.objs.size+3) .none .none->ItAt b h' s.heap.objs.size l 0->ItAt b' h' (s.heap.objs.size+1) m 0->h'.objs.size=s.heap.objs.size+5 ->
  (∀ c o,s.heap.get? c=some o->h'.get? c=some o)->Q (.ref (s.heap.objs.size+4)) { s with heap:=h' }) :
 J8l (model prog w) A (call (.type "zip") [.ref l,.ref m]) Q E s:=by
 refine callType_new F.called_zip (by decide) (F.typeCall_zip_2 _ _) (F.newCall_zip_2 _ _) (λ obj=>F.args_object_init_3 obj _ _) F.entry_zip_new (Jum b b' l m xs ys) ⟨x1,x2,?_⟩
 have y1:(zz1 b s.heap l).objs.size=s.heap.objs.size+1:=Xy ..
 have y2:(zz2 b b' s.heap l m).objs.size=s.heap.objs.size+2:=by rw [Xy,y1]
 have y3:(zz3 b b' s.heap l m).objs.size=s.heap.objs.size+3:=by rw [Xy,y2]
 have y4:(zz4 b b' s.heap l m).objs.size=s.heap.objs.size+4:=by rw [Xy,y3]
 have y5:(zz5 b b' s.heap l m).objs.size=s.heap.objs.size+5:=by rw [Xy,y4]
 have fr:∀ b l,(Jjr b l).isFreed=false:=λ b l=>by cases b<;>rfl
 have g5:(zz5 b b' s.heap l m).get? (zz4 b b' s.heap l m).objs.size=some _:=Xd _ rfl
 have g4:(zz5 b b' s.heap l m).get? (zz3 b b' s.heap l m).objs.size=some _:=Qt _ (Xd _ rfl)
 have g3:(zz5 b b' s.heap l m).get? (zz2 b b' s.heap l m).objs.size=some _:=Qt _ (Qt _ (Xd _ rfl))
 have g2:(zz5 b b' s.heap l m).get? (zz1 b s.heap l).objs.size=some _:=Qt _ (Qt _ (Qt _ (Xd _ (fr b' m))))
 have g1:(zz5 b b' s.heap l m).get? s.heap.objs.size=some _:=Qt _ (Qt _ (Qt _ (Qt _ (Xd _ (fr b l)))))
 show _/\_
 rw [y2,y3,y4] at g5;rw [y1,y2] at g3;rw [y3] at g4;rw [y1] at g2;rw [y4]
 exact ⟨⟨_,g5,rfl⟩,q _ g5 g3 g4 (Jl2 g1) (Jl2 g2) y5 λ c o x=>Qt _ (Qt _ (Qt _ (Qt _ (Qt _ x))))⟩
def SqK (b:Bool) (K:Qc) (H:Hp) (a:Addr) (xs:List V):Prop:=match b with | true=>SqT K H a xs | false=>SqL K H a xs
section
variable {X:Cx}{pins:List (Addr×Obj)}{σ:St}{H:Hp}{s:J8k}{a c:Addr}{xs ys:List V}{b:Bool}{h':Heap}
theorem Inv.seqK (I:Inv X pins σ H s) (h:SqK b X.K H a xs):∃ its:List J8i,Yg xs its/\Jdk b s.heap a its.toArray/\xs.length<=sizeLine:=by
 cases b with
 | true=>exact let ⟨its,r,p,z⟩:=I.tuple h;⟨its,r,p,z⟩
 | false=>exact let ⟨its,r,p,z⟩:=I.list h;⟨its,r,p.isList,z⟩
theorem Inv.seqK_inj (I:Inv X pins σ H s) (h:SqK b X.K H a xs) (h':SqK b X.K H a ys):xs=ys:=by
 cases b with
 | true=>exact I.tuple_inj h h'
 | false=>exact I.list_inj h h'
theorem Inv.seqK_ne (I:Inv X pins σ H s) (h:SqK b X.K H a xs) (f:Jds X pins H c):a≠c:=by
 have base:∀ o,X.K.lookup a=some o->a≠c:=λ o hk e=>by
  have e1:=I.ok.mod.kin a o hk
  rcases f.2.2.2.1 with z | z
  . exact I.ok.noex a o e1 (e▸z)
  . exact absurd (Qz (Qr e1) (Xc I.ok.bsz (e▸z))) (Q4 _)
 cases b with
 | true=>
  rcases h with (q | ⟨o,q⟩) | ⟨o,_,_,hk,_⟩
  . exact Jx q f.1
  . exact Jx q f.1
  . exact base o hk
 | false=>
  rcases h with (q | ⟨o,q⟩) | ⟨o,_,_,hk,_⟩
  . exact Jx q f.1
  . exact Jx q f.1
  . exact base o hk
theorem Inv.turnedL {t':Nat}{fp:List Addr}(I:Inv X pins σ H s) (k:∀ b o,b∉fp->s.heap.get? b=some o->h'.get? b=some o) (hf:∀ b∈fp,Jds X pins H b):Inv X pins σ H { s with heap:=h',toks:=t' }:=by
 refine I.step (g':=s.gens) (d':=s.drawn) (ch:=fp) (λ b hb=>⟨(hf b hb).2.2.2.1,(hf b hb).2.1,(hf b hb).2.2.2.2.1,(hf b hb).2.2.2.2.2⟩) (λ b o _ _ hc e _=>k b o hc e) (λ b o _ _ hc e _=>⟨o.slots,k b o hc e⟩) (λ _ _ _ _ n=>n)
  (λ b o hc e=>⟨o,k b o hc e⟩) (λ _ _ e=>e) (λ _ _ _ e=>e) (λ b ps e=>⟨#[],by rw [e];simp⟩) (λ m hm=>?_) (λ b u e=>?_) I.bare
 . obtain ⟨o,es,ep,ho,r⟩:=hm
   exact ⟨o,es,ep,k _ o (λ z=>(hf _ z).2.1 rfl) ho,r⟩
 . refine (I.hok b u e).stay (λ c v hc q=>k c v (λ z=>?_) q) (λ _ q=>q) λ _ _ q=>q
   have hn:=(hf c z).1
   rcases hc with hc | hc
   . rw [hc,e] at hn;cases hn
   . rw [hc] at hn;cases hn
theorem Inv.turnLay {t':Nat}{fp:List Addr}{p:Addr}{o:HO}(I:Inv X pins σ H s) (k:∀ b o,b∉fp->s.heap.get? b=some o->h'.get? b=some o) (hf:∀ b∈fp,Jds X pins H b)
 (hp:s.heap.objs.size<=p) (new:Zx X.prog X.w (upd H p o) h' p o):Inv X pins σ (upd H p o) { s with heap:=h',toks:=t' }:=by
 have hn:=I.hok.fresh hp
 refine I.step (g':=s.gens) (d':=s.drawn) (ch:=fp) (λ b hb=>⟨(hf b hb).2.2.2.1,(hf b hb).2.1,(hf b hb).2.2.2.2.1,(hf b hb).2.2.2.2.2⟩) (λ b o _ _ hc e _=>k b o hc e) (λ b o _ _ hc e _=>⟨o.slots,k b o hc e⟩) (λ b ob _ e n=>?_)
  (λ b o hc e=>⟨o,k b o hc e⟩) (λ b xs e=>?_) (λ b _ _ e=>?_) (λ b ps e=>⟨#[],?_⟩) (λ m hm=>?_) (λ b u e=>?_) I.bare
 . have hbp:b≠p:=Xe (Qz (Qr e) hp);rw [Jh hbp];exact n
 . rw [Jh (Jx e hn)];exact e
 . rw [Jh (Jx e hn)];exact e
 . rw [Jh (Jx e hn)];simpa using e
 . obtain ⟨o,es,ep,ho,r⟩:=hm
   exact ⟨o,es,ep,k _ o (λ z=>(hf _ z).2.1 rfl) ho,r⟩
 . by_cases hb:b=p
   . subst hb
     rw [Jj] at e;cases e
     exact new
   . rw [Jh hb] at e
     refine (I.hok b u e).stay (λ c v hc q=>k c v (λ z=>?_) q) (λ c q=>by rw [Jh (Jx q hn)];exact q) λ c _ q=>by rw [Jh (Jx q hn)];exact q
     have hn:=(hf c z).1
     rcases hc with hc | hc
     . rw [hc,e] at hn;cases hn
     . rw [hc] at hn;cases hn
end
noncomputable def Ite (b:Bool) (K:Qc) (a:Addr):It:=
 ⟨λ i H=>∃ xs x,SqK b K H a xs/\xs[i]? = some x,λ i H v H'=>∃ p y,H p=none/\H'=upd H p (.tup [.int i,y])/\v = .ref p/\∀ xs,SqK b K H a xs->xs[i]? = some y,λ i H=>∃ xs,SqK b K H a xs/\xs.length=i⟩
noncomputable def Itz (b b':Bool) (K:Qc) (a c:Addr):It:=
 ⟨λ i H=>∃ xs ys x y,SqK b K H a xs/\SqK b' K H c ys/\xs[i]? = some x/\ys[i]? = some y,λ i H v H'=>∃ p x y,H p=none/\H'=upd H p (.tup [x,y])/\v = .ref p/\(∀ xs,SqK b K H a xs->xs[i]? = some x)/\∀ ys,SqK b' K H c ys->ys[i]? = some y,
  λ i H=>∃ xs ys,SqK b K H a xs/\SqK b' K H c ys/\min xs.length ys.length=i⟩
theorem Jqt {P:J8n}{w:J8m}{K:Qc}{es:List Expr}{kk:Nat}{tp:Pos}(b:Bool) (a e j:Addr) (hej:e≠j):Turn P w K (.Tuple es kk tp) (Ite b K a) [e,j] e (λ i h=>(∃ old,IsEnum h e j i old)/\ItAt b h j a i) where
 mem:=by simp
 obj:=λ i h st c hc=>by
  obtain ⟨⟨old,he⟩,hj⟩:=st
  rcases Qh.mp hc with rfl | hc
  . exact ⟨_,he,λ v z=>by have z':J4k _=J2w v:=z;cases z'⟩
  . rw [Qu.mp hc];exact hj.obj
 keep:=λ i h h' st k=>by
  obtain ⟨⟨old,he⟩,hj⟩:=st
  exact ⟨⟨old,k e (by first | exact mm0 | exact mm1 | exact mm2 | exact mm3 | exact mm4 | exact mm5 | simp) _ he⟩,hj.at λ o q=>k j (by first | exact mm0 | exact mm1 | exact mm2 | exact mm3 | exact mm4 | exact mm5 | simp) o q⟩
 item:=by
  intro X hP hw hK hc i pins s σ H E I hf st hg
  subst hP hw hK
  obtain ⟨xs,x,hq,hx⟩:=hg
  obtain ⟨its,rv,p,hz⟩:=I.seqK hq
  obtain ⟨u,hu,ru⟩:=rv.get hx
  obtain ⟨⟨old,he⟩,hj⟩:=st
  have nae:=I.seqK_ne hq (hf e (by first | exact mm0 | exact mm1 | exact mm2 | exact mm3 | exact mm4 | exact mm5 | simp))
  have naj:=I.seqK_ne hq (hf j (by first | exact mm0 | exact mm1 | exact mm2 | exact mm3 | exact mm4 | exact mm5 | simp))
  have hlt:i<its.toArray.size:=by
   have:=(Qs.mp hu).1
   simpa using this
  refine wpAny_pyNext_enum_itemD (Jbh b (A:=X.A.in1) (I.ok.hd hc) j a naj its.toArray) he ⟨hj,p⟩ hlt hej (by simp;exact ⟨hej,Qj nae⟩) λ y h1 tk hP ho st1 hT hsz hk=>?_
  have ey:y=u:=by
   have hP:its.toArray[i]? = some y:=hP
   have:its[i]? = some y:=by simpa using hP
   rw [hu] at this;exact (Xr this).symm
  subst ey
  refine ⟨_,rfl,wpAny_letOwnedTupleGo_enum ho λ h2 he2 hs2=>?_⟩
  replace hs2:X1 e h1 h2:=hs2
  have hes:e<s.heap.objs.size:=Qr he
  have hjs:j<s.heap.objs.size:=by obtain ⟨o,q,_⟩:=hj.obj;exact Qr q
  have kk:∀ c o,c∉[e,j]->s.heap.get? c=some o->h2.get? c=some o:=λ c o hc q=>by
   have h1':c≠e:=λ z=>hc (by simp [z])
   exact hs2.extBut _ _ h1' (hk c o h1' (λ z=>hc (by simp [z])) q)
  refine ⟨.ref s.heap.objs.size,upd H s.heap.objs.size (.tup [.int i,x]),I.turnLay (t':=tk+1) kk hf (Qm _) ?_,rfl,⟨_,x,I.hok.fresh (Qm _),rfl,rfl,λ ys hy=>by rw [I.seqK_inj hy hq];exact hx⟩,⟨⟨y,by simpa using he2⟩,st1.1.at λ o q=>hs2.extBut _ _ (Qj hej) q⟩,λ c hc=>?_⟩
  . exact ⟨by simp [J8p],[.int i tk,y],.cons ⟨tk,rfl⟩ (.cons ru .nil),_,hs2.extBut _ _ (J2v hes) hT,rfl,0,rfl⟩
  . rw [Jh]
    . exact (hf c hc).1
    . rcases Qh.mp hc with rfl | hc
      . exact Xe hes
      . rw [Qu.mp hc];exact Xe hjs
 done:=by
  intro X hP hw hK hc i pins s σ H E I hf st hg
  subst hP hw hK
  obtain ⟨xs,hq,hx⟩:=hg
  obtain ⟨its,rv,p,hz⟩:=I.seqK hq
  obtain ⟨⟨old,he⟩,hj⟩:=st
  have naj:=I.seqK_ne hq (hf j (by first | exact mm0 | exact mm1 | exact mm2 | exact mm3 | exact mm4 | exact mm5 | simp))
  have hl:=rv.length
  have hn:its.toArray.size=i:=by simp;omega
  refine wpAny_pyNext_enum_endD (Jbh b (A:=X.A.in1) (I.ok.hd hc) j a naj its.toArray) he (by rw [hn];exact ⟨hj,p⟩) λ h1 hk=>⟨rfl,?_⟩
  exact I.turnedL (t':=s.toks) (λ c o hc q=>hk c o (λ z=>hc (by simp [z])) q) hf
 self:=λ _ _ _ _ _ st q=>by
  obtain ⟨⟨old,he⟩,_⟩:=st
  exact wpAny_pyIter_enum he q
theorem Jr5 {P:J8n}{w:J8m}{K:Qc}{es:List Expr}{kk:Nat}{tp:Pos}(b b':Bool) (a c z TI TO j1 j2:Addr) (dz:[z,TI,TO,j1,j2].Nodup) :
 Turn P w K (.Tuple es kk tp) (Itz b b' K a c) [z,TI,TO,j1,j2] z (λ i h=>J8u h z TI TO .none/\J8r h TI (.ref j1) (.ref j2)/\(∃ u v,J8r h TO u v)/\ItAt b h j1 a i/\ItAt b' h j2 c i) where
 mem:=by simp
 obj:=λ i h st d hd=>by
  obtain ⟨hz,hI,⟨u,v,hO⟩,h1,h2⟩:=st
  have notup:∀ (o:Obj) {w:J8i} {vs:Array J8i} {n:Nat},o.data = .seq vs n->o.data≠.cell w:=λ o w vs n e z=>by rw [e] at z;cases z
  rcases Qh.mp hd with rfl | hd
  . exact ⟨_,hz,λ v z=>by have z':J4k _=J2w v:=z;cases z'⟩
  . rcases Qh.mp hd with rfl | hd
    . exact ⟨_,hI,λ w z=>by have z':J25 _ _=J2w w:=z;cases z'⟩
    . rcases Qh.mp hd with rfl | hd
      . exact ⟨_,hO,λ w z=>by have z':J25 _ _=J2w w:=z;cases z'⟩
      . rcases Qh.mp hd with rfl | hd
        . exact h1.obj
        . rw [Qu.mp hd];exact h2.obj
 keep:=λ i h h' st k=>by
  obtain ⟨hz,hI,⟨u,v,hO⟩,h1,h2⟩:=st
  exact ⟨k z (by first | exact mm0 | exact mm1 | exact mm2 | exact mm3 | exact mm4 | exact mm5 | simp) _ hz,k TI (by first | exact mm0 | exact mm1 | exact mm2 | exact mm3 | exact mm4 | exact mm5 | simp) _ hI,⟨u,v,k TO (by first | exact mm0 | exact mm1 | exact mm2 | exact mm3 | exact mm4 | exact mm5 | simp) _ hO⟩,h1.at λ o q=>k j1 (by first | exact mm0 | exact mm1 | exact mm2 | exact mm3 | exact mm4 | exact mm5 | simp) o q,h2.at λ o q=>k j2 (by first | exact mm0 | exact mm1 | exact mm2 | exact mm3 | exact mm4 | exact mm5 | simp) o q⟩
 item:=by
  intro X hP hw hK hc i pins s σ H E I hf st hg
  subst hP hw hK
  obtain ⟨xs,ys,x,y,hq,hq',hx,hy⟩:=hg
  obtain ⟨its,rv,p,_⟩:=I.seqK hq
  obtain ⟨its',rv',p',_⟩:=I.seqK hq'
  obtain ⟨u,hu,ru⟩:=rv.get hx
  obtain ⟨u',hu',ru'⟩:=rv'.get hy
  obtain ⟨hz,hI,⟨o1,o2,hO⟩,h1,h2⟩:=st
  have na:=λ d hd=>I.seqK_ne hq (hf d hd)
  have na':=λ d hd=>I.seqK_ne hq' (hf d hd)
  simp only [Xz,Qh,X4,or_false,not_or] at dz
  obtain ⟨⟨d1,d2,d3,d4⟩,⟨d5,d6,d7⟩,⟨d8,d9⟩,d10,_⟩:=dz
  have hlt:i<its.toArray.size:=by have:=(Qs.mp hu).1;simpa using this
  have hlt':i<its'.toArray.size:=by have:=(Qs.mp hu').1;simpa using this
  have D:ZApart z TI TO j1 j2 [j1,a] [j2,c]:=⟨by simp,by simp,by simp;exact ⟨d3,Qj (na z (by first | exact mm0 | exact mm1 | exact mm2 | exact mm3 | exact mm4 | exact mm5 | simp))⟩,by simp;exact ⟨d4,Qj (na' z (by first | exact mm0 | exact mm1 | exact mm2 | exact mm3 | exact mm4 | exact mm5 | simp))⟩,by simp;exact ⟨d8,Qj (na TO (by first | exact mm0 | exact mm1 | exact mm2 | exact mm3 | exact mm4 | exact mm5 | simp))⟩,by simp;exact ⟨d9,Qj (na' TO (by first | exact mm0 | exact mm1 | exact mm2 | exact mm3 | exact mm4 | exact mm5 | simp))⟩,
   by simp;exact ⟨d10,Qj (na' j1 (by first | exact mm0 | exact mm1 | exact mm2 | exact mm3 | exact mm4 | exact mm5 | simp))⟩,by simp;exact ⟨Qj d10,Qj (na j2 (by first | exact mm0 | exact mm1 | exact mm2 | exact mm3 | exact mm4 | exact mm5 | simp))⟩,Qj d1,d5,d6,d7,Qj d2⟩
  refine Jhm D (Jbh b (A:=X.A.in1) (I.ok.hd hc) j1 a (na j1 (by first | exact mm0 | exact mm1 | exact mm2 | exact mm3 | exact mm4 | exact mm5 | simp)) its.toArray) (Jbh b' (A:=X.A.in1) (I.ok.hd hc) j2 c (na' j2 (by first | exact mm0 | exact mm1 | exact mm2 | exact mm3 | exact mm4 | exact mm5 | simp)) its'.toArray) hz hI hO ⟨h1,p⟩ ⟨h2,p'⟩ hlt hlt' λ v v' g1 tk e1 e2 z1 O1 s1 s2 T1 sz1 k1=>?_
  have ev:v=u:=by
   have e1:its.toArray[i]? = some v:=e1
   have:its[i]? = some v:=by simpa using e1
   rw [hu] at this;exact (Xr this).symm
  have ev':v'=u':=by
   have e2:its'.toArray[i]? = some v':=e2
   have:its'[i]? = some v':=by simpa using e2
   rw [hu'] at this;exact (Xr this).symm
  subst ev ev'
  refine ⟨_,rfl,wpAny_letOwnedTupleGo_zip z1 λ g2 z2 b2=>?_⟩
  replace b2:X1 z g1 g2:=b2
  have hzs:z<s.heap.objs.size:=Qr hz
  have kk:∀ d o,d∉[z,TI,TO,j1,j2]->s.heap.get? d=some o->g2.get? d=some o:=λ d o hd q=>by
   have h1':d≠z:=(by first | exact mn0 hd | exact mn1 hd | exact mn2 hd | exact mn3 hd | exact mn4 hd | exact mn5 hd)
   exact b2.extBut _ _ h1' (k1 d o h1' (by first | exact mn0 hd | exact mn1 hd | exact mn2 hd | exact mn3 hd | exact mn4 hd | exact mn5 hd) (by first | exact mn0 hd | exact mn1 hd | exact mn2 hd | exact mn3 hd | exact mn4 hd | exact mn5 hd) (by first | exact mn0 hd | exact mn1 hd | exact mn2 hd | exact mn3 hd | exact mn4 hd | exact mn5 hd) q)
  refine ⟨.ref s.heap.objs.size,upd H s.heap.objs.size (.tup [x,y]),I.turnLay (t':=tk) kk hf (Qm _) ?_,rfl,⟨_,x,y,I.hok.fresh (Qm _),rfl,rfl,λ zs hy=>by rw [I.seqK_inj hy hq];exact hx,λ zs hy'=>by rw [I.seqK_inj hy' hq'];exact hy⟩,
   ⟨z2,b2.extBut _ _ (Qj d1) (k1 _ _ (Qj d1) d5 d6 d7 hI),⟨_,_,b2.extBut _ _ (Qj d2) O1⟩,s1.1.at λ o q=>b2.extBut _ _ (Qj d3) q,s2.1.at λ o q=>b2.extBut _ _ (Qj d4) q⟩,λ d hd=>?_⟩
  . exact ⟨by simp [J8p],[v,v'],.cons ru (.cons ru' .nil),_,b2.extBut _ _ (J2v hzs) T1,rfl,0,rfl⟩
  . have lt:d<s.heap.objs.size:=by
     rcases Qh.mp hd with rfl | hd
     . exact hzs
     . rcases Qh.mp hd with rfl | hd
       . exact Qr hI
       . rcases Qh.mp hd with rfl | hd
         . exact Qr hO
         . rcases Qh.mp hd with rfl | hd
           . obtain ⟨o,q,_⟩:=h1.obj;exact Qr q
           . rw [Qu.mp hd];obtain ⟨o,q,_⟩:=h2.obj;exact Qr q
    rw [Jh (Xe lt)]
    exact (hf d hd).1
 done:=by
  intro X hP hw hK hc i pins s σ H E I hf st hg
  subst hP hw hK
  obtain ⟨xs,ys,hq,hq',hm⟩:=hg
  obtain ⟨its,rv,p,_⟩:=I.seqK hq
  obtain ⟨its',rv',p',_⟩:=I.seqK hq'
  obtain ⟨hz,hI,⟨o1,o2,hO⟩,h1,h2⟩:=st
  have na:=λ d hd=>I.seqK_ne hq (hf d hd)
  have na':=λ d hd=>I.seqK_ne hq' (hf d hd)
  simp only [Xz,Qh,X4,or_false,not_or] at dz
  obtain ⟨⟨d1,d2,d3,d4⟩,⟨d5,d6,d7⟩,⟨d8,d9⟩,d10,_⟩:=dz
  have D:ZApart z TI TO j1 j2 [j1,a] [j2,c]:=⟨by simp,by simp,by simp;exact ⟨d3,Qj (na z (by first | exact mm0 | exact mm1 | exact mm2 | exact mm3 | exact mm4 | exact mm5 | simp))⟩,by simp;exact ⟨d4,Qj (na' z (by first | exact mm0 | exact mm1 | exact mm2 | exact mm3 | exact mm4 | exact mm5 | simp))⟩,by simp;exact ⟨d8,Qj (na TO (by first | exact mm0 | exact mm1 | exact mm2 | exact mm3 | exact mm4 | exact mm5 | simp))⟩,by simp;exact ⟨d9,Qj (na' TO (by first | exact mm0 | exact mm1 | exact mm2 | exact mm3 | exact mm4 | exact mm5 | simp))⟩,
   by simp;exact ⟨d10,Qj (na' j1 (by first | exact mm0 | exact mm1 | exact mm2 | exact mm3 | exact mm4 | exact mm5 | simp))⟩,by simp;exact ⟨Qj d10,Qj (na j2 (by first | exact mm0 | exact mm1 | exact mm2 | exact mm3 | exact mm4 | exact mm5 | simp))⟩,Qj d1,d5,d6,d7,Qj d2⟩
  have hl:=rv.length
  have hl':=rv'.length
  refine Ji4 D (Jbh b (A:=X.A.in1) (I.ok.hd hc) j1 a (na j1 (by first | exact mm0 | exact mm1 | exact mm2 | exact mm3 | exact mm4 | exact mm5 | simp)) its.toArray) (Jbh b' (A:=X.A.in1) (I.ok.hd hc) j2 c (na' j2 (by first | exact mm0 | exact mm1 | exact mm2 | exact mm3 | exact mm4 | exact mm5 | simp)) its'.toArray) hz hI hO ⟨h1,p⟩ ⟨h2,p'⟩ (by simp;omega) λ g1 tk k1=>⟨rfl,?_⟩
  exact I.turnedL (t':=tk) (λ d o hd q=>k1 d o (by first | exact mn0 hd | exact mn1 hd | exact mn2 hd | exact mn3 hd | exact mn4 hd | exact mn5 hd) (by first | exact mn0 hd | exact mn1 hd | exact mn2 hd | exact mn3 hd | exact mn4 hd | exact mn5 hd) (by first | exact mn0 hd | exact mn1 hd | exact mn2 hd | exact mn3 hd | exact mn4 hd | exact mn5 hd) (by first | exact mn0 hd | exact mn1 hd | exact mn2 hd | exact mn3 hd | exact mn4 hd | exact mn5 hd) q) hf
 self:=λ _ _ _ _ _ st q=>wpAny_pyIter_zip st.1 q
section
variable {X:Cx}{es:List Expr}{kk:Nat}{tp:Pos}
def Jwc (K:Qc) (ta:TA):TI:=λ σ H R=>ta σ H λ vs H1=>∃ b l xs,vs=[.ref l]/\SqK b K H1 l xs/\R (Ite b K l) H1
def Jn4 (K:Qc) (ta:TA):TI:=λ σ H R=>ta σ H λ vs H1=>∃ b b' l m xs ys,vs=[.ref l,.ref m]/\SqK b K H1 l xs/\SqK b' K H1 m ys/\R (Itz b b' K l m) H1
theorem Jkn {a:Expr}{ta:TA}{p pos:Pos}(hg:Gl X "enumerate") (hm:X.mg "enumerate" = none) (ha:PA X [a] ta) (hs:starEach [a] X.env=[(false,eval a X.env)]:=by rfl):PI X (.Tuple es kk tp) (.Call (.Name "enumerate" p) [a] [] pos) (Jwc X.K ta):=by
 intro pins s σ H R I h
 refine Call_ (Ja4 I hg hm boot_enumerate (U9 (thn (ha pos pins s σ H _ I h) λ us s1 ⟨vs,H1,I1,r1,q1⟩=>?_) hs rfl))
 obtain ⟨b,l,xs,e,hq,q⟩:=q1
 subst e
 obtain ⟨u,rfl,ru⟩:=Jap r1
 cases ru
 obtain ⟨its,rv,p,_⟩:=I1.seqK hq
 refine Jqq b p λ h1 he hj hsz hk=>wpAny_pyIter_enum he ?_
 refine ⟨_,[s1.heap.objs.size+1,s1.heap.objs.size],_,_,H1,rfl,I1.kept (t':=s1.toks) hk,Jqt b l _ _ (Nat.succ_ne_self _),⟨⟨_,he⟩,hj⟩,λ c hc=>?_,q⟩
 rcases Qh.mp hc with rfl | hc
 . exact I1.fpOk (J4u _) (I1.hok.fresh (J4u _))
 . rw [Qu.mp hc];exact I1.fpOk (Qm _) (I1.hok.fresh (Qm _))
theorem Jad {a b:Expr}{ta:TA}{p pos:Pos}(hg:Gl X "zip") (hm:X.mg "zip" = none) (ha:PA X [a,b] ta) (hs:starEach [a,b] X.env=[(false,eval a X.env),(false,eval b X.env)]:=by rfl) (hs2:starEach [b] X.env=[(false,eval b X.env)]:=by rfl) :
 PI X (.Tuple es kk tp) (.Call (.Name "zip" p) [a,b] [] pos) (Jn4 X.K ta):=by
 intro pins s σ H R I h
 refine Call_ (Ja4 I hg hm boot_zip (U9 (thn (ha pos pins s σ H _ I h) λ us s1 ⟨vs,H1,I1,r1,q1⟩=>?_) (by rw [hs,hs2]) (by rw [hs2];rfl)))
 obtain ⟨b,b',l,m,xs,ys,e,hq,hq',q⟩:=q1
 subst e
 obtain ⟨u,u',rfl,ru,ru'⟩:=Jpa r1
 cases ru
 cases ru'
 obtain ⟨its,rv,p,_⟩:=I1.seqK hq
 obtain ⟨its',rv',p',_⟩:=I1.seqK hq'
 refine Jqs b b' p p' λ h1 hz hI hO i1 i2 hsz hk=>wpAny_pyIter_zip hz ?_
 refine ⟨_,[s1.heap.objs.size+4,s1.heap.objs.size+2,s1.heap.objs.size+3,s1.heap.objs.size,s1.heap.objs.size+1],_,_,H1,rfl,I1.kept (t':=s1.toks) hk,Jr5 b b' l m _ _ _ _ _ (by first | exact mm0 | exact mm1 | exact mm2 | exact mm3 | exact mm4 | exact mm5 | simp),⟨hz,hI,⟨_,_,hO⟩,i1,i2⟩,λ c hc=>?_,q⟩
 have hc':s1.heap.objs.size<=c:=by
  simp only [Qh,X4,or_false] at hc
  rcases hc with rfl | rfl | rfl | rfl | rfl
  . exact J3c _ _
  . exact J3c _ _
  . exact J3c _ _
  . exact Qm _
  . exact J3c _ _
 exact I1.fpOk hc' (I1.hok.fresh hc')
end
section
variable {X:Cx}{pos:Pos}{k:Nat}
abbrev Sto (X:Cx) (i:Nat) (x:Str):Prop:=X.N[i]? = some x/\Loc X.env.scope x/\(X.fn x=true\/X.env.scope.names.lookup x=some .local)
theorem Z1 {K':Qc}{i j:Nat}{x y:Str}{px py:Pos}(hc:X.calm=true) (hN:X.N.Nodup) (hx:Sto X i x) (hy:Sto X j y) (hK:X.K=K'):PG X (.Tuple [.Name x px,.Name y py] k pos) (Jrj K' 2 (gCons (B9 i) (gCons (B9 j) gNil))):=
 hK▸Jkc hc (Zb (J0 hN hx.1 hx.2.1 hx.2.2) (Zb (J0 hN hy.1 hy.2.1 hy.2.2) Jed))
theorem Jbv {K':Qc}{i j m:Nat}{x y z:Str}{px py pz:Pos}(hc:X.calm=true) (hN:X.N.Nodup) (hx:Sto X i x) (hy:Sto X j y) (hz:Sto X m z) (hK:X.K=K'):PG X (.Tuple [.Name x px,.Name y py,.Name z pz] k pos) (Jrj K' 3 (gCons (B9 i) (gCons (B9 j) (gCons (B9 m) gNil)))):=
 hK▸Jkc hc (Zb (J0 hN hx.1 hx.2.1 hx.2.2) (Zb (J0 hN hy.1 hy.2.1 hy.2.2) (Zb (J0 hN hz.1 hz.2.1 hz.2.2) Jed)))
end
end L2
namespace My
open L2
noncomputable def Jg (ws:List Way) (k:Int):Way:=ws.getD k.toNat ⟨0,0,[]⟩
structure BkAt (ex:List Addr) (H:Hp) (R U:Int) (ws:List Way) (bv:V) (ba wa:Addr) (vs:List V):Prop where
 e:bv = .ref ba
 b:H ba=some (.tup [.int R,.int U,.ref wa])
 w:H wa=some (.tup vs)
 r:Reps ex H (ws.map Ym) vs
 nb:ba∉ex
 nw:wa∉ex
 z:vs.length<=sizeLine
theorem Jr6 {ex:List Addr}{H:Hp}{R U:Int}{ws:List Way}{bv:V}(r:Rep ex H (J2 R U ws) bv):∃ ba wa vs,BkAt ex H R U ws bv ba wa vs:=by
 obtain ⟨ba,x,y,z,rfl,hb,nb,r1,r2,r3⟩:=Jr2 r
 obtain ⟨wa,vs,rfl,hw,nw,hz,rs⟩:=Jpg r3
 rw [Jph r1,Jph r2] at hb
 exact ⟨ba,wa,vs,rfl,hb,hw,rs,nb,nw,hz⟩
theorem BkAt.len {ex:List Addr}{H:Hp}{R U:Int}{ws:List Way}{bv:V}{ba wa:Addr}{vs:List V}(B:BkAt ex H R U ws bv ba wa vs):vs.length=ws.length:=by
 rw [<- B.r.length,Qb]
theorem at_map (ns:List Int) {i:Int}(h0:0<=i) (h1:i<ns.length):∃ n∈ns,atI (ns.map V.int) i=some (V.int n):=by
 obtain ⟨n,e,h⟩:=Jzf (P:=λ n=>n∈ns) ns (λ _ h=>h) h0 h1
 exact ⟨n,h,e⟩
theorem range_getD {α β:Type}(f:α->β) (xs:List α) (dflt:α):((Qf xs.length).map λ i=>f (xs.getD i dflt))=xs.map f:=by
 refine List.ext_getElem (by simp) λ i h1 h2=>?_
 have hi:i<xs.length:=by simpa using h1
 simp [Qd,Qg hi]
theorem at0 (x y z:V):atI [x,y,z] 0=some x:=Jkg (j:=0) rfl
end My
namespace L2
section
variable {X:Cx}{K':Qc}
theorem Ve (hK:X.K=K'):IxR X (Jxi K'):=hK▸Jp
theorem Jl3 (hK:X.K=K'):IxR X (Jlw K'):=hK▸Js
end
section
variable {X:Cx}{e st:Expr}{te:TE}{ts:TO}{pos p2:Pos}
end
theorem Wl {X:Cx}:OpR X (binaryOp .Mult) (rI J9k λ i j=>.int (i*j)):=opI λ _ _ _ _ _ _ _ hc q=>mul_int q hc
theorem B2 {X:Cx}{pos:Pos}{i:Nat}{x:Str}{e:Expr}{te:TE}{pos':Pos}(hN:X.N.Nodup) (hi:X.N[i]? = some x) (hx:Loc X.env.scope x) (he:PEs X e te) (hs:J89 e (some (.Name x pos')) pos.line X.env=pure false:=by rfl) (hf:X.fn x=true\/X.env.scope.names.lookup x=some .local := by first | exact .inl rfl | exact .inr rfl | assumption):PS X (.Assign [.Name x pos'] e pos) (Jfd te (B9 i)):=J5 hN hi hx he.out hs hf
end L2
namespace My
open L2
end My
namespace L2
section
variable {X:Cx}
theorem Jjs (hc:X.calm=true):V3 X (.builtin "min") (λ xs H Q=>∃ (p:Addr) (ns:List Int),xs=[.ref p]/\SqL X.K H p (ns.map V.int)/\ns≠[]/\∀ m∈ns,(∀ n∈ns,m<=n)->Q (.int m) H):=by
 intro pins s σ H xs us Q I r h
 obtain ⟨p,ns,rfl,hq,hne,q⟩:=h
 obtain ⟨u,rfl,ru⟩:=Jap r
 cases ru
 obtain ⟨its,rv,pl,hz⟩:=I.list hq
 have hl:=pl.isList
 have hi:=Jbr rv
 obtain ⟨xs,e⟩:=hi.allInts.items
 have h1:=hi.numsOf
 have h2:numsOf its.toArray.toList=(xs.toList.map (·.1)):=by rw [e,J9p]
 have h2':(xs.toList.map (·.1))=ns:=by rw [<- h2];simpa using h1
 have hlen:xs.size=ns.length:=by rw [<- h2'];simp
 have hpos:0<ns.length:=J3d.mpr hne
 rw [e] at hl
 refine min_intList (I.ok.hd hc) hl (by omega) λ v h' tk hv hk=>?_
 obtain ⟨b1,b2⟩:=argBest_lt (numAt xs) (xs.size-1)
 generalize argBest (λ i j=>decide (numAt xs i<numAt xs j)) (xs.size-1)=m at hv b1 b2
 obtain ⟨t,rfl⟩:=J9r hv
 have num:∀ i (hi:i<ns.length),numAt xs i=ns[i]:=λ i hi=>by
  have hix:i<xs.size:=by omega
  have e1:numAt xs i=xs[i].1:=by unfold numAt;rw [J5a hix];rfl
  rw [e1]
  have e2:(xs.toList.map (·.1))[i]'(by simpa using hix)=xs[i].1:=by simp
  rw [<- e2]
  congr 1
 refine ⟨.int (numAt xs m),H,I.kept (t':=tk) hk,⟨t,rfl⟩,q _ ?_ λ n hn=>?_⟩
 . rw [num m (by omega)];exact Q8 _
 . obtain ⟨i,hi,rfl⟩:=J3v.mp hn
   rw [<- num i hi]
   exact b2 i (by omega)
end
end L2
namespace My
open L2
end My
namespace L2
section
variable {prog:J8n}{w:J8m}{A:J8o}{E:J8i->J8k->Prop}{s:J8k}{z TI TO j1 j2 j3:Addr}{f1 f2 f3:List Addr}{n1 n2 n3 i:Nat}{P1 P2 P3:Nat->J8i->Prop}{St1 St2 St3:Nat->Heap->Prop}{a b c:J8i}
end
section
variable {X:Cx}{es:List Expr}{kk:Nat}{tp:Pos}
end
end L2
namespace My
open L2
noncomputable def Yl (r:Int) (xs:List Int):J8j:=.tuple [.int r,.tuple (xs.map Qi)]
end My
namespace L2
section
variable {X:Cx}
def Jr7 (d:J8j):Prop:=d.canLay0=true/\d.showable=true/\d.depth<=50/\d.shown.length<=sizeLine
theorem Jjt (hg:X.A.guards=some []) (hu:X.A.units+64<cLine):V3 X (.builtin "repr") (λ xs H Q=>∃ ex d v,xs=[v]/\Rep ex H d v/\Jr7 d/\Q (.str d.shown) H):=by
 intro pins s σ H xs us Q I r h
 obtain ⟨ex,d,v,rfl,rd,⟨hc,hs,hd,hz⟩,q⟩:=h
 obtain ⟨u,rfl,ru⟩:=Jap r
 obtain ⟨as,rr⟩:=Rep.reads I.hok hc rd ru
 have hnd:=PyData.hasDict_of_canLay d hc
 have fin:∀ {h':Heap} {t tk:Nat},(∀ b o,s.heap.get? b=some o->h'.get? b=some o)->EP X pins σ Q (.str d.shown t) { s with heap:=h',toks:=tk }:=λ hk=>⟨.str d.shown,H,I.kept hk,⟨_,rfl⟩,q⟩
 have ref:∀ a,u = .ref a->J8l (model X.prog X.w) X.A (call (.builtin "repr") [u]) (EP X pins σ Q) X.xe s:=λ a e=>by
  subst e
  exact repr_of_reads' rr hs (PyData.noDict_hsm hnd) hg (by omega) (λ _ _ e=>e) (λ h' t tk hk=>fin hk) hz
 cases rd with
 | none=>cases (show u=Ul from ru);exact P.repr_of_none (fin λ _ _ e=>e)
 | bool b=>cases (show u=J1u b from ru);exact P.repr_of_bool (fin λ _ _ e=>e)
 | int i=>
  obtain ⟨t,rfl⟩:=(show ∃ t,u=Uv i t from ru)
  exact P.repr_of_int (by simpa [J5b] using hs) (fin λ _ _ e=>e)
 | str x=>
  obtain ⟨t,rfl⟩:=(show ∃ t,u=J2a x t from ru)
  exact P.repr_of_str (fin λ _ _ e=>e) hz
 | tuple e n z rs=>exact ref _ ru
 | list e n z rs=>exact ref _ ru
 | obj=>rw [Ub] at hc;cases hc
 | dctf=>rw [Ub] at hc;cases hc
end
end L2
namespace My
open L2
structure SDs (h n:Nat) (ds:List J8j):Prop where
 c:Ui ds=true
 i:J2g 101 ds=true
 s:J2h ds=true
 d:J11 ds<=h
 w:J12 ds<=n
def SD (h n:Nat) (d:J8j):Prop:=SDs h (n+1) [d]
theorem SDs.nil {h n:Nat}:SDs h n []:=⟨rfl,rfl,rfl,Xu _,Xu _⟩
theorem SDs.mono {h h' n n':Nat}{ds:List J8j}(a:SDs h n ds) (hh:h<=h') (hn:n<=n'):SDs h' n' ds:=⟨a.c,a.i,a.s,Xc a.d hh,Xc a.w hn⟩
theorem SDs.cons {h n m:Nat}{d:J8j}{ds:List J8j}(a:SD h n d) (b:SDs h m ds):SDs h (n+1+m) (d::ds):=by
 obtain ⟨c1,i1,s1,d1,w1⟩:=a
 simp only [Ui,J2g,J2h,J11,J12,J31] at c1 i1 s1 d1 w1
 refine ⟨?_,?_,?_,?_,?_⟩
 . rw [Ui,c1,b.c];rfl
 . rw [J2g,i1,b.i];rfl
 . rw [J2h,s1,b.s];rfl
 . rw [J11];have:=b.d;omega
 . rw [J12];have:=b.w;omega
theorem SD.tup {h n:Nat}{ds:List J8j}(a:SDs h n ds):SD (h+1) n (.tuple ds):=
 ⟨by simp [Ui,Ub,a.c],by simp [J2g,J62,a.i],by simp [J2h,J5b,a.s],by simp [J11,J32];exact a.d,by simp [J12,J5c];exact a.w⟩
theorem SD.mono {h h' n n':Nat}{d:J8j}(a:SD h n d) (hh:h<=h') (hn:n<=n'):SD h' n' d:=SDs.mono a hh (by omega)
theorem SD.small {h n:Nat}{i:Int}(h0:-1000<i) (h1:i<1000) (hn:10<=n):SD h n (.int i):=by
 have hl:i.natAbs.log2<10:=by
  by_cases hz:i.natAbs=0
  . rw [hz];decide
  . rw [J3x hz];omega
 have hi:i.natAbs<10^100:=Qz (show i.natAbs<10^3 by omega) (J3e (by decide) (by decide))
 refine ⟨rfl,?_,?_,Xu _,?_⟩
 . simp only [J2g,J62,J31,decide_eq_true_eq]
   have e:=int_text_length_le10 (k:=100) (by decide) hi
   show (J3b (toString i)).length<=101
   rw [PySem.ofString_length];exact e
 . simp only [J2h,J5b,J31,decide_eq_true_eq];omega
 . simp only [J12,J5c]
   split<;>omega
theorem SD.show {h n:Nat}{d:J8j}(a:SD h n d) (hh:h<=50) (hn:n<=150000):Jr7 d:=by
 obtain ⟨c1,i1,s1,d1,w1⟩:=a
 simp only [Ui,J2g,J2h,J11,J12,J31] at c1 i1 s1 d1 w1
 refine ⟨c1,s1,by omega,?_⟩
 have h1:=PyData.shown_le 101 (by decide) d (PyData.leavesShort_of_canLay0 101 d c1 i1)
 have hs:sizeLine=16777216:=J8p
 have:(101+2)*d.weight<=103*150001:=J5d _ (by omega)
 omega
noncomputable def Jei (xs:List J8j) (lo hi:Option Int):List J8j:=(xs.drop (HT.sIx xs.length 0 lo)).take (HT.sIx xs.length xs.length hi-HT.sIx xs.length 0 lo)
theorem Jfl (xs:List J8j) (k:Nat):Jei xs none (some (k:Int))=xs.take k:=by
 unfold Jei
 rw [HT.sIx_none,HT.sIx_nat,List.drop_zero,Nat.sub_zero]
 rcases J5e k xs.length with h | h
 . rw [J33 h]
 . rw [J63 h,J3w (Qm _),J3w h]
theorem Jfm (xs:List J8j) (k:Nat):Jei xs (some (k:Int)) none=xs.drop k:=by
 unfold Jei
 rw [HT.sIx_none,HT.sIx_nat]
 rcases J5e k xs.length with h | h
 . rw [J33 h,J3w (by rw [J21];omega)]
 . rw [J63 h,J64 (Qm _),J64 h];simp
theorem SD.str {h n:Nat}{x:Str}(hok:PyData.strOk x=true) (hs:x.cps.size<=n):SD h n (.str x):=
 ⟨by simp [Ui,Ub,hok],rfl,rfl,Xu _,by simp [J12,J5c];exact hs⟩
theorem V8 (o:Expr) (k:Const) (j:Nat) (p pos:Pos) (env:Env) (v:J8i):assign (.Subscript o (.Constant k j p) pos) env v=(do
 let ov <- holding [v] (eval o env)
 let iv <- holding [v,ov] (eval (.Constant k j p) env)
 J8y pos
 holding [v,ov,iv] (setItem ov iv v)
 release [v,ov,iv] []):=Jac _ _ _ _ _
structure Tape (H:Hp) (p c:Addr) (n:Nat):Prop where
 ex:∃ (ns:List Int) (k g:Int),H p=some (.lst [.ref c,.int k,.int g])/\H c=some (.lst (ns.map V.int))/\ns.length<=63/\0<=k/\k<=n
theorem Tape.ne {H:Hp}{p c:Addr}{n:Nat}(J:Tape H p c n):p≠c:=by
 obtain ⟨ns,k,g,h1,h2,_⟩:=J.ex
 rintro rfl
 rw [h1] at h2
 cases ns with
 | nil=>cases h2
 | cons a r=>cases h2
theorem Tape.fresh {H:Hp}{p c l:Addr}{n:Nat}(J:Tape H p c n) (h:H l=none):l∉[p,c]:=by
 obtain ⟨ns,k,g,h1,h2,_⟩:=J.ex
 intro z
 rcases Qh.mp z with rfl | z
 . rw [h] at h1;cases h1
 . cases Qu.mp z;rw [h] at h2;cases h2
def Jko (K:Qc):Sp:=λ vs H Q _=>∃ (a:Addr) (ns:List Int),vs=[.ref a]/\SqL K H a (ns.map V.int)/\ns.length<=63/\∀ p c H',Kp [] H H'->H p=none->H c=none->Tape H' p c 0->Q (.ref p) H'
def Jn5:Sp:=λ vs H Q _=>∃ (p c:Addr) (n:Nat) (many:Int),vs=[.ref p,.int many]/\Tape H p c n/\n<2^40/\0<many/\many<2^9000/\∀ (r:Int) (H':Hp),0<=r->r<many->Tape H' p c (n+1)->Kp [p,c] H H'->Q (.int r) H'
theorem Kp.late {ex:List Addr}{H1 H2:Hp}{a:Addr}(k:Kp ex H1 H2) (h:H1 a=none) (o:HO):Kp ex H1 (upd H2 a o):=λ b v e n=>by
 rw [Jh (Jx e h)];exact k b v e n
theorem Jci {n:Nat}{i:Int}(h0:0<=i) (h1:i<n):ixN n i=some i.toNat:=by
 unfold ixN
 rw [if_pos h0,if_pos (by omega)]
def Jr8 (K:Qc) (n:Nat) (t:TGs):TG:=λ v σ H Q=>∃ a xs,v = .ref a/\SqL K H a xs/\xs.length=n/\t xs σ H Q
section
variable {X:Cx}{pos:Pos}{k:Nat}
theorem Jun {es:List Expr}{t:TGs}{n:Nat}(hc:X.calm=true) (h:PGs X es t)
 (hn:(assignEach es X.env).length=n:=by rfl) (hst:(assignEach es X.env).findIdx? (·.1)=none:=by rfl):PG X (.Tuple es k pos) (Jr8 X.K n t):=by
 intro pins s σ H v u Q I r hw
 obtain ⟨a,xs,e1,hq,hl,hw⟩:=hw
 subst e1
 cases r
 obtain ⟨its,rv,pl,hz⟩:=I.list hq
 rw [assign_Tuple]
 refine wpAny_bind (wpAny_standAt ?_)
 unfold unpack
 have hsz:(assignEach es X.env).length=its.toArray.size:=by simp [hn,<- hl,rv.length]
 rw [hsz,hst]
 refine wpAny_bind (wpAny_holding (PySem.W.kun_itemsOf (I.ok.hd hc) pl.isList λ h' hx=>?_))
 have I1:Inv X pins σ H { s with heap:=h' }:=I.kept (t':=s.toks) λ b o e=>hx b o (Xe (Qr e)) e
 exact h pins _ σ H xs _ Q I1 (by simpa using rv) hw
theorem Jl4 {K':Qc}{i j:Nat}{x y:Str}{px py:Pos}(hc:X.calm=true) (hN:X.N.Nodup) (hx:Sto X i x) (hy:Sto X j y) (hK:X.K=K'):PG X (.Tuple [.Name x px,.Name y py] k pos) (Jr8 K' 2 (gCons (B9 i) (gCons (B9 j) gNil))):=
 hK▸Jun hc (Zb (J0 hN hx.1 hx.2.1 hx.2.2) (Zb (J0 hN hy.1 hy.2.1 hy.2.2) Jed))
end
theorem SDs.smalls {h:Nat}:∀ {zs:List Int},(∀ z∈zs,-1000<z/\z<1000)->SDs h (zs.length*11) (zs.map Qi)
 | [],_=>.nil
 | z::zs,hz=>(SDs.cons (h:=h) (n:=10) (SD.small (hz z Qn).1 (hz z Qn).2 (Qm _)) (SDs.smalls λ y hy=>hz y (Ql _ hy))).mono (Qm _) (by rw [X2,Nat.add_mul];omega)
end My
namespace L2
noncomputable def Jn6 (n:Nat):List V:=(Qf n).map λ (i:Nat)=>V.int (i:Int)
def tLR (ta:TA):TE:=λ σ H Q=>ta σ H λ vs H1=>∃ j:Int,vs=[.int j]/\0<=j/\j<=1000000/\∀ l,H1 l=none->Q (.ref l) (upd H1 l (.lst (Jn6 j.toNat)))
theorem Jr9:∀ (n:Nat) (us:List J8i),us.length=n->(∀ (k:Nat) (u:J8i),us[k]? = some u->∃ t,u=Uv ((k:Nat):Int) t)->Yg (Jn6 n) us:=by
 intro n
 induction n with
 | zero=>intro us h _;rw [J34.mp h];exact .nil
 | succ n ih=>
  intro us h hk
  have hne:us≠[]:=λ e=>by rw [e] at h;cases h
  obtain ⟨l,x,rfl⟩:∃ l x,us=l++[x]:=⟨us.dropLast,us.getLast hne,(J65 hne).symm⟩
  have hl:l.length=n:=by simpa using h
  have e:Jn6 (n+1)=Jn6 n++[V.int n]:=by unfold Jn6;rw [J13,Xg];rfl
  rw [e]
  obtain ⟨t,et⟩:=hk n x (by rw [<- hl];simp)
  subst et
  exact (ih l hl λ k u hu=>hk k u (by rw [Up (by exact (Qs.mp hu).1)];exact hu)).append (.cons ⟨t,rfl⟩ .nil)
section
variable {X:Cx}
theorem Jej {a:Expr}{ta:TA}{p1 p2 pos1 pos2:Pos}(hc:X.calm=true) (hg1:Gl X "list") (hm1:X.mg "list" = none) (hg2:Gl X "range") (hm2:X.mg "range" = none) (ha:PA X [a] ta) (hs:starEach [a] X.env=[(false,eval a X.env)]:=by rfl)
 (hs1:starEach [.Call (.Name "range" p2) [a] [] pos2] X.env=[(false,eval (.Call (.Name "range" p2) [a] [] pos2) X.env)]:=by rfl):PE X (.Call (.Name "list" p1) [.Call (.Name "range" p2) [a] [] pos2] [] pos1) (tLR ta):=by
 intro pins s σ H Q I h
 refine J9c (Ja4 I hg1 hm1 J82 ?_)
 refine U9 ?_ hs1 rfl
 rw [hs1]
 show J8l _ _ (spliced ((false,eval (.Call (.Name "range" p2) [a] [] pos2) X.env)::[])) _ _ s
 refine J4s ?_
 refine Call_ (Ja4 I hg2 hm2 boot_range (U9 (thn (ha pos2 pins s σ H _ I h) λ us s1 ⟨vs,H1,I1,r1,q1⟩=>?_) hs rfl))
 obtain ⟨j,e,b1,b2,q⟩:=q1
 subst e
 cases r1 with
 | cons r rr=>
  cases rr
  obtain ⟨t,rfl⟩:=r
  refine call_range_1 (J4r ?_)
  have I2:Inv X pins σ H1 { s1 with heap:=s1.heap.push { cls:=.type "range",data:=.fields #[.int 0 s1.toks,.int j t,.int 1 (s1.toks+1)] },toks:=s1.toks+1+1 }:=I1.kept λ b o e=>Qt _ e
  have hs:=J8p
  refine call_list_range (n:=j.toNat) (I2.ok.hd hc) (J4l ..) (small_one (by omega) (by omega) (by omega) (by omega)) (by rw [J9t];split<;>omega) (by omega) λ h' tk acc' c' hk hS' hacc=>?_
  refine ⟨.ref _,_,I2.laid (t':=tk) hk (Qm _) (show Zx X.prog X.w _ h' _ (.lst (Jn6 j.toNat)) from ⟨by unfold Jn6;simp;omega,acc'.toList,c',Jr9 _ _ (by simp [hacc.1]) (λ k u hu=>?_),by simpa using hS'⟩),rfl,q _ (I2.hok.fresh (Qm _))⟩
  obtain ⟨t,et⟩:=hacc.2 k u (by simpa using hu)
  exact ⟨t,by rw [et];simp⟩
end
end L2
namespace My
open L2
noncomputable def Jhn (xs ys:List Int) (n:Nat):Int:=((Qf n).map λ i=>xs.getD i 0*ys.getD i 0).sum
theorem Jqu (xs ys:List Int) (n:Nat):Jhn xs ys (n+1)=Jhn xs ys n+xs.getD n 0*ys.getD n 0:=by
 unfold Jhn
 rw [J13,Xg,J35]
 simp
noncomputable def Jdo (ws:List Way) (wts hts:List Int) (k:Int):Int:=hts.getD (Jg ws k).a.toNat 0-hts.getD (Jg ws k).b.toNat 0-Jhn wts (Jg ws k).g wts.length
noncomputable def Jdv (wts hts:List Int) (r:Int) (ns:List Int):Int:=hts.getD r.toNat 0+Jhn wts ns wts.length
theorem Juo {X:Cx}{es:List Expr}{kk:Nat}{tp:Pos}{K':Qc}{a b:Expr}{ta:TA}{p pos:Pos}(hK:X.K=K') (hg:Gl X "zip") (hm:X.mg "zip" = none) (ha:PA X [a,b] ta) (hs:starEach [a,b] X.env=[(false,eval a X.env),(false,eval b X.env)]:=by rfl) (hs2:starEach [b] X.env=[(false,eval b X.env)]:=by rfl) :
 PI X (.Tuple es kk tp) (.Call (.Name "zip" p) [a,b] [] pos) (Jn4 K' ta):=hK▸Jad hg hm ha hs hs2
section
variable {p c sl:Addr}{R U:Int}{ws:List Way}{bv:V}{sums:List (List Int×List Int)}{svs:List V}{H H':Hp}{n m:Nat}
end
end My
namespace L2
section
variable {P:J8n}{w:J8m}{H H':Hp}{h h':Heap}{a:Addr}{o:HO}
end
structure Fly (P:J8n) (w:J8m) (outer:List Env) (H:Hp) (s:J8k) (H':Hp) (ea:Addr) (cls:J8i) (s':J8k):Prop where
 os:s'.os=s.os
 bare:J8z s'.gens
 un:Un (frs outer) [] H H' s.heap s'.heap
 hok:HOk P w H' s'.heap
 fl:∃ (B:Heap) (t:Addr),(∀ b o,s'.heap.get? b=some o->((H' b).isSome=true\/∃ o₀,s.heap.get? b=some o₀)->b∉frs outer->B.get? b=some o)/\Heap.FlyingW B outer ea cls (.ref t) s'.heap
section
variable {X:Cx}{pins:List (Addr×Obj)}{σ:St}{H H':Hp}{s s':J8k}
end
section
variable {P:J8n}{w:J8m}{K:Qc}{mg:Str->Option J8i}{base:Heap}{N:List Str}{qual:Str}{scope:J8q}{f:Addr}{cd:J8i}{A:J8o}{outer:List Env}{s₀:J8k}{H₀:Hp}{E:XK}
end
open PySem.W Builtin Builtin.ObjectAttr Builtin.Getset_descriptor
section
variable {prog:J8n}{w:J8m}{A:J8o}{E:J8i->J8k->Prop}{s:J8k}{K:Qc}{x D:Addr}{R:J81->J8k->Prop}
end
section
variable {P:J8n}{w:J8m}{K:Qc}{mg:Str->Option J8i}{base:Heap}{N:List Str}{qual:Str}{scope:J8q}{f:Addr}{cd:J8i}{A:J8o}{outer:List Env}{s₀:J8k}{H₀:Hp}{E:XK}
 {x:Str} {C:Addr} {e:Expr} {es:List Expr} {np cpos pos:Pos} {t:TA}
end
section
variable {P:J8n}{w:J8m}{K:Qc}{mg:Str->Option J8i}{base:Heap}
end
section
variable {X:Cx}{x:Str}{e:Expr}{es:List Expr}{p pos:Pos}{t:TA}{k:Nat}{ps:List Str}{sp:Sp}{E:XK}
end
noncomputable abbrev XW:=St->J8i->Hp->Prop
noncomputable def XP (X:Cx) (pins:List (Addr×Obj)) (W:XW) (e:J8i) (s':J8k):Prop:=∃ ea cls σ' H H' s,e = .ref ea/\Inv X pins σ' H s/\Fly X.prog X.w X.stack H s H' ea cls s'/\W σ' cls H'
noncomputable abbrev TSX:=Ends->XW->St->Hp->Prop
section
variable {X:Cx}{x y:Str}{e:Expr}{es:List Expr}{p p' pos apos:Pos}{t:TA}{k:Nat}{ps:List Str}{sp:Sp}
end
section
variable {X:Cx}{pins:List (Addr×Obj)}{σ σ0:St}{H H0:Hp}{s s0:J8k}{B h':Heap}
end
section
variable {X:Cx}{body:List Stmt}{tb:TSX}{ts:TS}{b₀:Stmt}{suite:List Stmt}{c n:Str}{C:Addr}{i:Nat}{np hpos pos:Pos}
end
open PySem.SeqAt
section
variable {P:J8n}{w:J8m}{K:Qc}{mg:Str->Option J8i}{base:Heap}
end
section
variable {X:Cx}{x:Str}{e:Expr}{es:List Expr}{p pos:Pos}{t:TA}{k:Nat}{ps:List Str}{sp:Sp}
end
structure Er where
 fall:Addr
 way:Addr
 round:Addr
 ring:Addr
 purse:Addr
 end_:Addr
 stand:Addr
 many:Addr
 line:Addr
 row:Addr
section
variable {K:Qc}{mg:Str->Option J8i}{z:Er}
end
section
variable {X:Cx}{v:Expr}{te:TE}{a b:Str}{ja jb:Nat}{pa pb pf pos:Pos}
theorem Vu {o:Expr}{n:Str}{es:List Expr}{t:TA}(ha:PE X (.Attribute o n pos) te) (hr:PA X es t):PA X (.Attribute o n pos::es) (Yp te t):=Vs ha hr rfl
end
section
variable {X:Cx}{x:Str}{e:Expr}{es:List Expr}{p pos apos:Pos}{t:TA}{k:Nat}{ps:List Str}{sp:Sp}
variable {body:List Stmt}{tb:TSX}{ts:TS}{b₀:Stmt}{suite:List Stmt}{c:Str}{C:Addr}{np hpos:Pos}
end
end L2
namespace My
open L2
theorem Jl5 {α:Type}{xs:List α}{j:Nat}{v:α}(h:atI xs (j:Int)=some v):xs[j]? = some v:=by
 cases e:xs[j]? with
 | some u=>
  rw [Jkg e] at h
  exact h
 | none=>
  have hl:xs.length<=j:=List.getElem?_eq_none_iff.mp e
  unfold atI ixN at h
  rw [if_pos (by omega),if_neg (by omega)] at h
  cases h
end My
namespace HT
section
variable {prog:J8n}{w:J8m}{A:J8o}{E:J8i->J8k->Prop}{s:J8k}
end
end HT
namespace L2
end L2
namespace My
open L2
theorem sIx_none (n d:Nat):HT.sIx n d none=d:=rfl
end My
namespace L2
end L2
namespace My
open L2
section
variable {p c wl:Addr}{R U:Int}{ws:List Way}{bv fv hv:V}{r:Int}{xs:List Int}{Hs H H':Hp}{ns:List Int}
end
end My
namespace L2
section
variable {prog:J8n}{w:J8m}{A:J8o}{E:J8i->J8k->Prop}{s:J8k}{l:Addr}{xs:Array (Int×Tok)}
theorem Jn7 {Q:J8i->J8k->Prop}(hh:A.handled=none) (hl:s.heap.IsTuple l (intItems xs)) (hne:0<xs.size)
 (h:∀ v h' tk,(intItems xs)[argBest (λ i j=>decide (numAt xs i<numAt xs j)) (xs.size-1)]? = some v->(∀ b o,s.heap.get? b=some o->h'.get? b=some o)->Q v { s with heap:=h',toks:=tk }) :
 J8l (model prog w) A (call (.builtin "min") [.ref l]) Q E s:=by
 have hlt:l<s.heap.objs.size:=by obtain ⟨_,e,_⟩:=hl;exact Qr e
 refine call_min_walk (wpAny_pyIter_tuple hl ?_)
 refine ⟨_,[_,l],[_],_,_,_,_,rfl,Walks.tuple (A:=A.in1) hh _ l (Xe hlt) (intItems xs),⟨⟨_,Xd _ rfl,rfl,rfl⟩,hl.push _⟩,λ c hc=>?_,by simpa [intItems] using hne,CmpOf.ints_lt (numAt xs) (λ _ _=>J9r),λ v h' tk hP hk=>?_⟩
 . show c<(s.heap.push _).objs.size
   rw [Xy]
   simp only [Qh,X4,or_false] at hc
   rcases hc with rfl | rfl
   . exact J3p _
   . exact J27 hlt
 . refine h v h' tk (by simpa [intItems] using hP) λ b o e=>hk b o (λ hm=>?_) (Qt _ e)
   simp only [Qh,X4,or_false] at hm
   have:=Qr e
   rw [hm] at this
   exact Q4 _ this
end
section
variable {X:Cx}
theorem Jju (hc:X.calm=true):V3 X (.builtin "min") (λ xs H Q=>∃ (p:Addr) (ns:List Int),xs=[.ref p]/\SqT X.K H p (ns.map V.int)/\ns≠[]/\∀ m∈ns,(∀ n∈ns,m<=n)->Q (.int m) H):=by
 intro pins s σ H xs us Q I r h
 obtain ⟨p,ns,rfl,hq,hne,q⟩:=h
 obtain ⟨u,rfl,ru⟩:=Jap r
 cases ru
 obtain ⟨its,rv,pl,hz⟩:=I.tuple hq
 have hi:=Jbr rv
 obtain ⟨xs,e⟩:=hi.allInts.items
 have h1:=hi.numsOf
 have h2:numsOf its.toArray.toList=(xs.toList.map (·.1)):=by rw [e,J9p]
 have h2':(xs.toList.map (·.1))=ns:=by rw [<- h2];simpa using h1
 have hlen:xs.size=ns.length:=by rw [<- h2'];simp
 have hpos:0<ns.length:=J3d.mpr hne
 have hl:s.heap.IsTuple p (intItems xs):=by
  rw [<- e]
  obtain ⟨o,ho,hc',n,hd⟩:=id pl
  exact ⟨o,ho,hc',n,hd⟩
 refine Jn7 (I.ok.hd hc) hl (by omega) λ v h' tk hv hk=>?_
 obtain ⟨b1,b2⟩:=argBest_lt (numAt xs) (xs.size-1)
 generalize argBest (λ i j=>decide (numAt xs i<numAt xs j)) (xs.size-1)=m at hv b1 b2
 obtain ⟨t,rfl⟩:=J9r hv
 have num:∀ i (hi:i<ns.length),numAt xs i=ns[i]:=λ i hi=>by
  have hix:i<xs.size:=by omega
  have e1:numAt xs i=xs[i].1:=by unfold numAt;rw [J5a hix];rfl
  rw [e1]
  have e2:(xs.toList.map (·.1))[i]'(by simpa using hix)=xs[i].1:=by simp
  rw [<- e2]
  congr 1
 refine ⟨.int (numAt xs m),H,I.kept (t':=tk) hk,⟨t,rfl⟩,q _ ?_ λ n hn=>?_⟩
 . rw [num m (by omega)];exact Q8 _
 . obtain ⟨i,hi,rfl⟩:=J3v.mp hn
   rw [<- num i hi]
   exact b2 i (by omega)
end
end L2
namespace My
open L2
theorem nodup_le:∀ (n:Nat) (l:List Nat),l.Nodup->(∀ x∈l,x<n)->l.length<=n:=by
 intro n
 induction n with
 | zero=>
  intro l _ h
  cases l with
  | nil=>exact Qm _
  | cons a l=>exact absurd (h a Qn) (J2i _)
 | succ n ih=>
  intro l nd h
  by_cases hm:n∈l
  . have e:=ih (l.erase n) (nd.erase n) λ x hx=>by
     have hx':=(List.Nodup.mem_erase_iff nd).mp hx
     have:=h x hx'.2
     omega
    rw [List.length_erase_of_mem hm] at e
    omega
  . have:=ih l nd λ x hx=>by
     have:=h x hx
     have:x≠n:=λ z=>hm (z▸hx)
     omega
    omega
end My
namespace L2
section
variable {X:Cx}
end
end L2
namespace My
open L2
noncomputable def Yy (ws:List Way) (cs:List Int):Nat->Int->Int
 | 0,_=>0
 | i+1,r=>Yy ws cs i r-(if (Jg ws (i:Nat)).a=r then cs.getD i 0 else 0)+(if (Jg ws (i:Nat)).b=r then cs.getD i 0 else 0)
theorem V9 {n:Nat}{k:Int}(h0:0<=k) (h1:k<n):ixN n k=some k.toNat:=by
 unfold ixN;rw [if_pos h0,if_pos h1]
inductive Rt (es:List (Nat×Nat)):Nat->Nat->Prop
 | refl (a:Nat):Rt es a a
 | step {a b c:Nat}:Rt es a b->(b,c)∈es->Rt es a c
theorem Rt.trans {es:List (Nat×Nat)}{a b c:Nat}(h:Rt es a b) (g:Rt es b c):Rt es a c:=by
 induction g with
 | refl=>exact h
 | step _ e ih=>exact ih.step e
noncomputable def Pw (es:List (Nat×Nat)):Nat->Nat->Nat->Bool
 | 0,a,b=>decide (a=b)||decide ((a,b)∈es)
 | m+1,a,b=>Pw es m a b||(Pw es m a m&&Pw es m m b)
theorem Pw.mono {es:List (Nat×Nat)}{m a b:Nat}(h:Pw es m a b=true):Pw es (m+1) a b=true:=by
 rw [Pw,h];rfl
theorem Pw.zero {es:List (Nat×Nat)}{a b:Nat}(h:Pw es 0 a b=true):∀ m,Pw es m a b=true
 | 0=>h
 | m+1=>Pw.mono (Pw.zero h m)
theorem Pw.cut {es:List (Nat×Nat)}{m a b:Nat}(h:Pw es (m+1) a b=true):Pw es m a b=true\/(Pw es m a m=true/\Pw es m m b=true):=by
 rw [Pw,J3f,Ua] at h;exact h
theorem Pw.via {es:List (Nat×Nat)}{m a b:Nat}(h:Pw es m a m=true) (g:Pw es m m b=true):Pw es (m+1) a b=true:=by
 rw [Pw,h,g,Bool.and_self,J66]
theorem Pw.trans {es:List (Nat×Nat)}:∀ {m a b k:Nat},k<m->Pw es m a k=true->Pw es m k b=true->Pw es m a b=true
 | 0,_,_,_,h,_,_=>absurd h (J2i _)
 | m+1,a,b,k,hk,h,g=>by
  by_cases e:k=m
  . subst e
    have h':Pw es k a k=true:=by rcases (Pw.cut h) with h | h;exact h;exact h.1
    have g':Pw es k k b=true:=by rcases (Pw.cut g) with g | g;exact g;exact g.2
    exact Pw.via h' g'
  . have hk':k<m:=by omega
    rcases (Pw.cut h) with h | ⟨h1,h2⟩
    . rcases (Pw.cut g) with g | ⟨g1,g2⟩
      . exact Pw.mono (Pw.trans hk' h g)
      . exact Pw.via (Pw.trans hk' h g1) g2
    . rcases (Pw.cut g) with g | ⟨g1,g2⟩
      . exact Pw.via h1 (Pw.trans hk' h2 g)
      . exact Pw.via h1 g2
theorem Pw.rt {es:List (Nat×Nat)}:∀ {m a b:Nat},Pw es m a b=true->Rt es a b
 | 0,a,b,h=>by
  rw [Pw,J3f] at h
  rcases h with h | h
  . obtain rfl:=of_decide_eq_true h;exact .refl a
  . exact .step (.refl a) (of_decide_eq_true h)
 | m+1,a,b,h=>by
  rcases (Pw.cut h) with h | ⟨h,g⟩
  . exact Pw.rt h
  . exact (Pw.rt h).trans (Pw.rt g)
theorem Rt.pw {es:List (Nat×Nat)}{R a b:Nat}(hr:∀ e∈es,e.1<R/\e.2<R) (h:Rt es a b):Pw es R a b=true:=by
 induction h with
 | refl=>exact Pw.zero (by rw [Pw];simp) R
 | step _ e ih=>exact Pw.trans (hr _ e).1 ih (Pw.zero (by rw [Pw];simp [e]) R)
theorem Jxq {es:List (Nat×Nat)}{R a b:Nat}(hr:∀ e∈es,e.1<R/\e.2<R):Pw es R a b=true↔Rt es a b:=⟨Pw.rt,Rt.pw hr⟩
end My
namespace L2
section
variable {M:Model}{A:J8o}{E:J8i->J8k->Prop}{s:J8k}
theorem Jkp {scope:J8q}{globals:Addr}{closure:List (Str×Addr)}{qual:Str}{func:Option Addr}{code:J8i}{outer:Env}{builtins:Addr}{Q:Env->J8k->Prop}
 (hQ:Q (newEnv scope s.heap.objs.size globals (cellsFrom (s.heap.objs.size+1) scope.names closure) qual func code (some outer) builtins) { s with heap:=pushCells (s.heap.push { cls:=.type "dict",data:=.dict #[] }) scope.names }) :
 J8l M A (newFunctionEnv scope globals closure [] qual func code (some outer) builtins) Q E s:=by
 simp only [newFunctionEnv,Option.isSome_some,if_true]
 refine wpAny_bind (wpAny_alloc ?_)
 refine wpAny_bind (wpAny_layCells _ (λ name kind cells=>by cases hkc:kind==Ux<;>simp [hkc]) _ _ _ _ ?_)
 rw [show ({ s with heap:=s.heap.push { cls:=.type "dict",data:=.dict #[] } }:J8k).heap.objs.size=s.heap.objs.size+1 from Xy ..]
 refine wpAny_bind ?_
 rw [J49]
 exact wpAny_pure (wpAny_pure hQ)
end
theorem Ja7:∀ (names:List (Str×J8s)) (n:Nat) (acc:List (Str×Addr)) (x:Str) (c:Addr),(x,c)∈cellsFrom n names acc->(x,c)∈acc\/(n<=c/\(x,Ux)∈names)
 | [],n,acc,x,c,h=>.inl h
 | (name,kind)::r,n,acc,x,c,h=>by
  unfold cellsFrom at h
  split at h
  . rename_i hk
    have hk:kind = .cell:=by simpa using hk
    subst hk
    rcases Ja7 r (n+1) _ x c h with h | ⟨h1,h2⟩
    . rcases Qh.mp h with e | h
      . cases e;exact .inr ⟨Qm _,Qn⟩
      . exact .inl h
    . exact .inr ⟨by omega,Ql _ h2⟩
  . rcases Ja7 r n acc x c h with h | ⟨h1,h2⟩
    . exact .inl h
    . exact .inr ⟨h1,Ql _ h2⟩
theorem Bu:∀ (names:List (Str×J8s)) (n:Nat) (acc:List (Str×Addr)),(∀ p∈acc,p.2<n)->∀ x y c,(x,c)∈cellsFrom n names acc->(y,c)∈cellsFrom n names acc->(∀ x y c,(x,c)∈acc->(y,c)∈acc->x=y)->x=y
 | [],n,acc,_,x,y,c,h,g,inj=>inj x y c h g
 | (name,kind)::r,n,acc,ha,x,y,c,h,g,inj=>by
  unfold cellsFrom at h g
  split at h
  . rename_i hk
    rw [if_pos hk] at g
    refine Bu r (n+1) ((name,n)::acc) (λ p hp=>?_) x y c h g λ x y c h g=>?_
    . rcases Qh.mp hp with rfl | hp
      . exact J3p _
      . exact J27 (ha p hp)
    . rcases Qh.mp h with e | h<;>rcases Qh.mp g with e' | g
      . cases e;cases e';rfl
      . cases e;exact absurd (ha _ g) (Q4 _)
      . cases e';exact absurd (ha _ h) (Q4 _)
      . exact inj x y c h g
  . rename_i hk
    rw [if_neg hk] at g
    exact Bu r n acc ha x y c h g inj
theorem Vb:∀ (names:List (Str×J8s)) (n:Nat) (acc:List (Str×Addr)) (p:Str×Addr),p∈acc->p∈cellsFrom n names acc
 | [],n,acc,p,h=>h
 | (name,kind)::r,n,acc,p,h=>by
  unfold cellsFrom
  split
  . exact Vb r _ _ p (Ql _ h)
  . exact Vb r _ _ p h
theorem Ja8:∀ (names:List (Str×J8s)) (n:Nat) (acc:List (Str×Addr)) (x:Str),(x,Ux)∈names->∃ c,(x,c)∈cellsFrom n names acc
 | (name,kind)::r,n,acc,x,h=>by
  unfold cellsFrom
  rcases Qh.mp h with e | h
  . cases e
    exact ⟨n,Vb r _ _ _ Qn⟩
  . split
    . exact Ja8 r _ _ x h
    . exact Ja8 r _ _ x h
theorem Jae:∀ (names:List (Str×J8s)) (h:Heap) (acc:List (Str×Addr)) (x:Str) (c:Addr),(x,c)∈cellsFrom h.objs.size names acc->(x,c)∈acc\/(pushCells h names).IsCell c none
 | [],h,acc,x,c,m=>.inl m
 | (name,kind)::r,h,acc,x,c,m=>by
  unfold cellsFrom at m
  unfold pushCells
  split at m
  . rename_i hk
    rw [if_pos hk]
    have e:h.objs.size+1=(h.push { cls:=.type "cell",data:=.cell none }).objs.size:=by rw [Xy]
    rw [e] at m
    rcases Jae r _ _ x c m with m | m
    . rcases Qh.mp m with z | m
      . cases z
        exact .inr ⟨_,pushCells_keeps r _ _ _ (Xd _ rfl),rfl⟩
      . exact .inl m
    . exact .inr m
  . rename_i hk
    rw [if_neg hk]
    exact Jae r h acc x c m
theorem Jge {env:Env}:∀ (l:List (Str×J8s)) (cs:List (Str×Addr)) (x:Str) (c:Addr),(x,c)∈Yo env l cs->(x,c)∈cs\/(x,Uh)∈l
 | [],cs,x,c,h=>.inl h
 | (n,k)::r,cs,x,c,h=>by
  unfold Yo at h
  rcases Jge r _ x c h with g | g
  . split at g
    . rename_i hk
      have hk:k = .free:=by simpa using hk
      subst hk
      rcases Qh.mp g with e | g
      . cases e;exact .inr Qn
      . exact .inl g
    . exact .inl g
  . exact .inr (Ql _ g)
theorem Jjv {l:List (Str×J8s)}(u:(l.map (·.1)).Nodup) {x:Str}{j k:J8s}(h:(x,j)∈l) (g:(x,k)∈l):j=k:=by
 induction l with
 | nil=>cases h
 | cons p l ih=>
  rw [Xa,Xz] at u
  rcases Qh.mp h with e | h<;>rcases Qh.mp g with e' | g
  . rw [<- e] at e';cases e';rfl
  . exact absurd (Qo.mpr ⟨_,g,by rw [<- e]⟩) u.1
  . exact absurd (Qo.mpr ⟨_,h,by rw [<- e']⟩) u.1
  . exact ih u.2 h g
noncomputable def Zj (X:Cx) (N':List Str) (scope:J8q) (C:Addr) (s:J8k) (H:Hp) (fp:List Addr):Cx:=
 { Wf X N' scope C s H fp with env:=compEnvC scope (cellsFrom (C+1) scope.names (Yo X.env scope.names [])) C X.env,fn:=λ x=>scope.names.lookup x==some Ux }
structure CompScopeC (sc:J8q) (N:List Str) (scope:J8q) (N':List Str) (k:Nat) (idx:List Nat):Prop where
 kind:scope.kind = .function
 uniq:(scope.names.map (·.1)).Nodup
 loc:∀ x∈scope.names,x.2 = .local -> scope.names.lookup x.1=some .local
 fr:∀ x∈scope.names,x.2 = .free->sc.names.lookup x.1=some .cell\/sc.names.lookup x.1=some .free
 nd:N'.Nodup
 free:∀ x∈N'.drop k,scope.names.lookup x=some .free
 ix:(N'.drop k).map some=idx.map λ i=>N[i]?
 len:N'.length=k+idx.length
section
variable {X:Cx}{pins:List (Addr×Obj)}{σ:St}{H:Hp}{s:J8k}{scope:J8q}{N':List Str}{k:Nat}{idx:List Nat}{sc:J8q}{N:List Str}
theorem Jl6 (I:Inv X pins σ H s) (S:CompScopeC sc N scope N' k idx) (hsc:X.env.scope=sc) (hNN:X.N=N) {fp:List Addr}(hf:∀ b∈fp,Jds X pins H b) (hlt:∀ b∈fp,b<s.heap.objs.size) {t':Nat} :
 Inv (Zj X N' scope s.heap.objs.size s H fp) [] (Yv k idx σ) H { s with heap:=pushCells (s.heap.push { cls:=.type "dict",data:=.dict #[] }) scope.names,toks:=t' }:=by
 have hcell:∀ x∈scope.names,x.2 = .free->∃ c,X.env.cells.lookup x.1=some c:=λ x hx hfree=>I.ok.has x.1 (by
  show X.env.scope.names.lookup x.1=_\/X.env.scope.names.lookup x.1=_
  rw [hsc];exact S.fr x hx hfree)
 have hclm:∀ x c,(x,c)∈Yo X.env scope.names []->X.env.cells.lookup x=some c:=λ x c e=>Jdu hcell (λ p hp=>by cases hp) (x,c) e
 have hold:∀ x c,(x,c)∈Yo X.env scope.names []->c<s.heap.objs.size:=λ x c e=>by
  obtain ⟨v,o,ho,_⟩:=I.cell x c (hclm x c e)
  exact Qr ho
 have hk:∀ b o,s.heap.get? b=some o->(pushCells (s.heap.push { cls:=.type "dict",data:=.dict #[] }) scope.names).get? b=some o:=λ b o e=>pushCells_keeps _ _ b o (Qt _ e)
 have hsp:∀ x c,(cellsFrom (s.heap.objs.size+1) scope.names (Yo X.env scope.names [])).lookup x=some c->((x,c)∈Yo X.env scope.names []\/(s.heap.objs.size+1<=c/\(x,Ux)∈scope.names)):=λ x c e=>
  Ja7 _ _ _ x c (Xt e)
 have hok:(Zj X N' scope s.heap.objs.size s H fp).Ok:={
  mod:=I.ok.mod
  kind:=S.kind
  glob:=I.ok.glob
  blt:=I.ok.blt
  above:=Qm _
  inj:=λ x y c e1 e2=>Bu _ _ _ (λ p hp=>J27 (hold p.1 p.2 hp)) x y c (Xt e1) (Xt e2) λ x y c h g=>I.ok.inj x y c (hclm x c h) (hclm y c g)
  has:=λ x hx=>by
   have hcf:scope.names.lookup x=some .cell\/scope.names.lookup x=some .free:=by
    rcases hx with hx | hx
    . rcases Va (env:=X.env) (names:=scope.names) hx with h | ⟨_,h⟩
      . exact .inl h
      . exact .inr h
    . rcases Va (env:=X.env) (names:=scope.names) hx with h | ⟨h,_⟩
      . exact .inr h
      . cases h
   rcases hcf with h | h
   . obtain ⟨c,hc⟩:=Ja8 scope.names (s.heap.objs.size+1) (Yo X.env scope.names []) x (Xt h)
     exact Zl hc
   . obtain ⟨c,hc⟩:=Jab (env:=X.env) (cs:=[]) (Xt h)
     exact Zl (Vb scope.names (s.heap.objs.size+1) _ _ hc)
  cab:=λ x c h e=>by
   rcases hsp x c e with m | m
   . rcases Jge _ _ x c m with z | z
     . cases z
     . have hx:scope.names.lookup x=some .cell:=by simpa using (show (scope.names.lookup x==some Ux)=true from h)
       have:=Jjv S.uniq z (Xt hx)
       cases this
   . exact J5f m.1
  hd:=I.ok.hd
  frames:=I.ok.frames
  stk:=.inl rfl
  exf:=λ b hb=>⟨Xe (hlt b hb),λ x c e=>by
   rcases hsp x c e with m | m
   . exact (hf b hb).2.2.2.2.1 x c (hclm x c m)
   . intro z
     have h2:=m.1
     rw [z] at h2
     exact absurd (Qz (hlt b hb) (J5f h2)) (Q4 _)⟩
  bs:=I.bs
  bsz:=Xc I.ok.bsz I.sz
  noex:=λ b o e hb=>by
   rcases (hf b hb).2.2.2.1 with z | z
   . exact I.ok.noex b o e z
   . exact absurd (Qz (Qr e) (Xc I.ok.bsz z)) (Q4 _)
  exfs:=λ b hb hz=>by
   rcases Qh.mp (I.stkSub b hz) with e | e
   . exact (hf b hb).2.1 e
   . exact (hf b hb).2.2.1 e
  funs:=I.stack
  frf:=I.stkFree }
 refine ⟨hok,rfl,I.bare,Un.kept hk,⟨_,(Heap.Ns.new s.heap (.type "dict")).keeps (pushCells_keeps _ _),λ i x v e1 e2 e3=>?_⟩,λ x c e=>?_,I.hok.fresh (Qm _),λ x c e=>?_,(λ p hp=>by cases hp),I.hok.kept hk,?_⟩
 . have hi:k<=i:=by
    rcases Uq i k with h | h
    . have e2:(Yv k idx σ)[i]? = some (some v):=e2
      unfold Yv at e2
      rw [Up (by simpa using h),U4] at e2
      split at e2<;>cases e2
    . exact h
   have e1':(N'.drop k)[i-k]? = some x:=by
    rw [J4z,show k+(i-k)=i by omega];exact e1
   have hfree:=S.free x (Xo e1')
   have e2':(idx.map λ i=>(σ[i]?).join)[i-k]? = some (some v):=by
    have e2:(Yv k idx σ)[i]? = some (some v):=e2
    unfold Yv at e2
    rw [J1p (by simpa using hi),X3] at e2
    exact e2
   rw [Qk] at e2'
   cases hj:idx[i-k]? with
   | none=>rw [hj] at e2';cases e2'
   | some j=>
    rw [hj] at e2'
    have e3':(σ[j]?).join=some v:=by simpa using e2'
    have eσ:σ[j]? = some (some v):=by
     cases q:σ[j]? with
     | none=>rw [q] at e3';cases e3'
     | some o=>rw [q] at e3';cases o with
      | none=>cases e3'
      | some z=>cases e3';rfl
    have eN:X.N[j]? = some x:=by
     rw [hNN]
     have:=congrArg (λ l=>l[i-k]?) S.ix
     simp only [Qk,e1',hj,Option.map_some] at this
     exact (Xr this).symm
    have hvk:=S.fr _ (Xt hfree) rfl
    obtain ⟨m,hm,hl⟩:=I.loc
    obtain ⟨u,ru,lk⟩:=hl j x v eN eσ (by rw [hsc];exact .inr hvk)
    refine ⟨u,ru,.inr ⟨Jbt (env:=X.env) hfree,?_⟩⟩
    rcases lk with ⟨kl,_⟩ | ⟨_,c,ec,z⟩
    . have kl:X.env.scope.names.lookup x=some .local := kl
      rw [hsc] at kl
      rcases hvk with q | q<;>(rw [kl] at q;cases q)
    . obtain ⟨d,hd⟩:=Jab (env:=X.env) (cs:=[]) (Xt hfree)
      obtain ⟨d',hd'⟩:=Zl (Vb scope.names (s.heap.objs.size+1) _ _ hd)
      have e:d'=c:=by
       rcases hsp x d' hd' with m | m
       . have:=hclm x d' m
         rw [ec] at this
         cases this;rfl
       . have:=Jjv S.uniq m.2 (Xt hfree)
         cases this
      subst e
      obtain ⟨o,ho,hod⟩:=z
      exact ⟨d',hd',o,hk d' o ho,hod⟩
 . have e0:s.heap.objs.size+1=(s.heap.push { cls:=.type "dict",data:=.dict #[] }).objs.size:=by rw [Xy]
   have m:=Xt (show (cellsFrom (s.heap.objs.size+1) scope.names (Yo X.env scope.names [])).lookup x=some c from e)
   rw [e0] at m
   rcases Jae _ _ _ x c m with m | m
   . obtain ⟨v,o,ho,hod⟩:=I.cell x c (hclm x c m)
     exact ⟨v,o,hk c o ho,hod⟩
   . exact ⟨none,m⟩
 . rcases hsp x c e with m | m
   . exact I.freeC x c (hclm x c m)
   . exact I.hok.fresh (J5f m.1)
 . show (Yv k idx σ).length=N'.length
   unfold Yv
   rw [S.len,Xp,X3,Qb]
end
section
variable {X:Cx}{tg iter elt:Expr}{ifs:List Expr}{scope sc:J8q}{N N':List Str}{k:Nat}{idx:List Nat}{wi:TI}{g:TG}{tt:TT}{te:TE}{pos:Pos}
theorem Jgf {pins:List (Addr×Obj)}{s:J8k}{σ:St}{E:J8i->J8k->Prop}{RR:J8i->Addr->J81->J8k->Prop}{itv:J8i}{Qe:Addr->Hp->Prop}
 (hc:X.calm=true) (S:CompScopeC sc N scope N' k idx) (hsc:X.env.scope=sc) (hNN:X.N=N)
 (hg:∀ C s H fp,PG (Zj X N' scope C s H fp) tg g) (ht:∀ C s H fp,PTs (Zj X N' scope C s H fp) ifs tt) (he:∀ C s H fp,PE (Zj X N' scope C s H fp) elt te)
 (hit:PIE X pins σ tg (λ J H1=>∀ l,H1 l=none->Jki J g tt te l (Yv k idx σ) (upd H1 l (.lst [])) λ H2=>Qe l H2) itv s)
 (hRR:∀ l H2 C s2,Inv X pins σ H2 s2->(∃ m,s2.heap.Ns C m)->Free1 X pins H2 C->Qe l H2->RR (.ref l) C (.ok .next) s2) :
 J8l (model X.prog X.w) X.A (newList []) (λ acc s₃=>J8l (model X.prog X.w) X.A (newFunctionEnv scope X.env.globals (Yo X.env scope.names []) [] X.env.qual none .none (some X.env)) (λ cenv s₄=>
  J8w (model X.prog X.w) X.A (.compStart (.ListComp elt [⟨tg,iter,ifs,0⟩] scope pos) 0 itv acc { cenv with scope:=relabel scope X.env }) (RR acc cenv.locals) s₄) E s₃) E s:=by
 obtain ⟨it,fp,tn,J,H1,rfl,I1,T,st1,f1,q⟩:=hit
 refine wpAny_newObj_type ?_
 have hf0:H1 s.heap.objs.size=none:=I1.hok.fresh (Qm _)
 have hflt:∀ b∈fp,b<s.heap.objs.size:=λ b hb=>let ⟨_,e,_⟩:=T.obj _ _ st1 b hb;Qr e
 generalize hl:s.heap.objs.size=l at *
 have I2:Inv X pins σ (upd H1 l (.lst [])) { s with heap:=s.heap.push { cls:=.type "list",dict:=none,data:=.seq ([]:List J8i).toArray } }:=
  I1.laid (t':=s.toks) (λ b u e=>Qt _ e) (J3o hl) (show Zx _ _ _ _ l (.lst []) from ⟨Xu _,[],0,.nil,by rw [<- hl];exact Xd _ rfl⟩)
 have st2:tn 0 (s.heap.push { cls:=.type "list",dict:=none,data:=.seq ([]:List J8i).toArray }):=T.keep _ _ _ st1 λ b _ o e=>Qt _ e
 have f2:∀ b∈fp,Jds X pins (upd H1 l (.lst [])) b:=λ b hb=>⟨by rw [Jh (Xe (hflt b hb))];exact (f1 b hb).1,(f1 b hb).2⟩
 have hsz2:(s.heap.push { cls:=.type "list",dict:=none,data:=.seq ([]:List J8i).toArray }).objs.size=l+1:=by rw [Xy,hl]
 have q2:=q l hf0
 generalize hs2:({ s with heap:=s.heap.push { cls:=.type "list",dict:=none,data:=.seq ([]:List J8i).toArray } }:J8k)=s2 at I2 ⊢
 have st2:tn 0 s2.heap:=by rw [<- hs2];exact st2
 have hsz2:s2.heap.objs.size=l+1:=by rw [<- hs2];exact hsz2
 refine Jkp ?_
 have hk1:∀ b o,s2.heap.get? b=some o->(pushCells (s2.heap.push { cls:=.type "dict",data:=.dict #[] }) scope.names).get? b=some o:=λ b o e=>pushCells_keeps _ _ b o (Qt _ e)
 have hlt2:∀ b∈fp,b<s2.heap.objs.size:=λ b hb=>by rw [hsz2];exact J27 (hflt b hb)
 have I3:=Jl6 (t':=s2.toks) I2 S hsc hNN f2 hlt2
 generalize pushCells (s2.heap.push { cls:=.type "dict",data:=.dict #[] }) scope.names=h₁ at *
 generalize hC:s2.heap.objs.size=C at *
 have st3:tn 0 h₁:=T.keep _ _ _ st2 λ b _ o e=>hk1 b o e
 obtain ⟨W,⟨m0,w0⟩,turn⟩:=q2
 -- back to the frame around
 have back:∀ {σ':St} {H':Hp} {s':J8k},Inv (Zj X N' scope C s2 (upd H1 l (.lst [])) fp) [] σ' H' s'->Inv X pins σ H' s':=λ {σ' H' s'} I'=>
  I2.call' I'.os I'.base I'.hok I'.bare λ b hb=>⟨(f2 b hb).2.2.2.1,(f2 b hb).2.1,(f2 b hb).2.2.2.2.1,(f2 b hb).2.2.2.2.2⟩
 have loop:∀ s₃:J8k,s₃ = { s2 with heap:=h₁,toks:=s2.toks } ->
  J8w (model X.prog X.w) X.A (.compLoop (.ListComp elt [⟨tg,iter,ifs,0⟩] scope pos) 0 (.ref it) (.ref l) (compEnvC scope (cellsFrom (C+1) scope.names (Yo X.env scope.names [])) C X.env)) (RR (.ref l) C) s₃:=by
  rintro s₃ rfl
  refine Jgc (λ n s'=>∃ i σ' H',Inv (Zj X N' scope C s2 (upd H1 l (.lst [])) fp) [] σ' H' s'/\tn i s'.heap/\(∀ b∈fp,H' b=none)/\W i n σ' H') ?_ m0 ⟨0,_,_,I3,st3,λ b hb=>(f2 b hb).1,w0⟩
  rintro n s4 ⟨i,σ4,H4,I4,st4,fr4,w4⟩
  have stat:∀ {H':Hp},(∀ b∈fp,H' b=none)->∀ b∈fp,Jds (Zj X N' scope C s2 (upd H1 l (.lst [])) fp) [] H' b:=λ {H'} hn b hb=>
   ⟨hn b hb,(I4.ok.exf b hb).1,I4.ok.exfs b hb,.inl hb,(I4.ok.exf b hb).2,λ p hp=>by cases hp⟩
  rcases turn i n σ4 H4 w4 with ⟨stop,qn⟩ | ⟨go,step⟩
  . refine thn (T.done (Zj X N' scope C s2 (upd H1 l (.lst [])) fp) rfl rfl rfl hc i [] s4 σ4 H4 NoE I4 (stat fr4) st4 stop) λ r s5 ⟨hr,I5⟩=>?_
    subst hr
    have IX:=back I5
    have hCl:C≠X.env.locals:=λ e=>by
     have:=I2.lt
     rw [hC,<- e] at this
     exact Q4 _ this
    have hCc:∀ x c,X.env.cells.lookup x=some c->c≠C:=λ x c e z=>by
     obtain ⟨v,o,ho,_⟩:=I2.cell x c e
     have:=Qr ho
     rw [hC,z] at this
     exact Q4 _ this
    obtain ⟨m5,hm5,_⟩:=I5.loc
    refine hRR l H4 C s5 IX ⟨m5,hm5⟩ ⟨hCl,hCc,I5.free,by rw [<- hC];exact I2.sz,λ p hp z=>?_⟩ qn
    obtain ⟨e,_⟩:=I2.pin p hp
    have:=Qr e
    rw [hC,z] at this
    exact Q4 _ this
  . refine thn (T.item (Zj X N' scope C s2 (upd H1 l (.lst [])) fp) rfl rfl rfl hc i [] s4 σ4 H4 NoE I4 (stat fr4) st4 go) λ r s5 ⟨u,hr,h5⟩=>?_
    subst hr
    refine thn h5 λ _ s6 ⟨x,H6,I6,r6,y6,st6,fr6⟩=>?_
    have I6':=I6.pinned (stat fr6) (T.obj _ _ st6)
    have keepT:∀ {σ7:St} {H7:Hp} {s7:J8k},Inv (Zj X N' scope C s2 (upd H1 l (.lst [])) fp) ([]++Jfe fp s6.heap) σ7 H7 s7->tn (i+1) s7.heap/\∀ b∈fp,H7 b=none:=λ {σ7 H7 s7} I7=>
     ⟨T.keep _ _ _ st6 λ b hb o e=>(I7.pin (b,o) (Xf _ (Xf _ (V4 hb e)))).1,λ b hb=>by
      obtain ⟨o,e,d⟩:=T.obj _ _ st6 b hb
      exact (I7.pin (b,o) (Xf _ (Xf _ (V4 hb e)))).2.1⟩
    refine thn (hg C s2 (upd H1 l (.lst [])) fp _ s6 σ4 H6 x u _ I6' r6 (step x H6 y6)) λ _ s7 ⟨σ7,H7,I7,q7⟩=>?_
    refine thn (ht C s2 (upd H1 l (.lst [])) fp _ s7 σ7 H7 _ I7 q7) λ ok s8 ⟨H8,I8,q8⟩=>?_
    cases ok with
    | false=>
     rw [if_neg (by decide)] at q8 ⊢
     obtain ⟨m',hm,w8⟩:=q8
     have kt:=keepT I8
     exact ⟨m',hm,i+1,σ7,H8,I8.unpinned,kt.1,kt.2,w8⟩
    | true=>
     rw [if_pos rfl] at q8 ⊢
     refine thn (he C s2 (upd H1 l (.lst [])) fp _ s8 σ7 H8 _ I8 q8) λ v s9 ⟨y,H9,I9,r9,xs,e9,z9,m',hm,w9⟩=>?_
     refine thn (Vo _ s9 σ7 H9 (.ref l) [y] (.ref l) [v] (λ z H10=>z = .non/\H10=upd H9 l (.lst (xs++[y]))) I9 rfl (.cons r9 .nil) ⟨l,xs,y,rfl,rfl,e9,z9,rfl,rfl⟩) λ _ s10 ⟨z,H10,I10,_,_,e10⟩=>?_
     subst e10
     have kt:=keepT I10
     exact ⟨m',hm,i+1,σ7,_,I10.unpinned,kt.1,kt.2,w9⟩
 have e2:(newEnv scope C X.env.globals (cellsFrom (C+1) scope.names (Yo X.env scope.names [])) X.env.qual none .none (some X.env) J9h).locals=C:=rfl
 show J8w _ _ (.compStart _ 0 (.ref it) (.ref l) (compEnvC scope (cellsFrom (C+1) scope.names (Yo X.env scope.names [])) C X.env)) (RR (.ref l) C) _
 exact J9y (loop _ rfl) (T.self _ 0 _ _ _ st3 (loop _ rfl))
theorem Jsa (hc:X.calm=true) (S:CompScopeC sc N scope N' k idx) (hsc:X.env.scope=sc) (hNN:X.N=N) (hi:PI X tg iter wi)
 (hg:∀ C s H fp,PG (Zj X N' scope C s H fp) tg g) (ht:∀ C s H fp,PTs (Zj X N' scope C s H fp) ifs tt) (he:∀ C s H fp,PE (Zj X N' scope C s H fp) elt te)
 (hs:∀ x,J9j iter X.env x=pure x:=by intro _;rfl):PE X (.ListComp elt [⟨tg,iter,ifs,0⟩] scope pos) (Jbe wi k idx g tt te):=by
 intro pins s σ H Q I h
 rw [eval_ListComp]
 have hclos:J9f scope X.env=pure (Yo X.env scope.names []):=Bk λ x hx hfree=>I.ok.has x.1 (by
  show X.env.scope.names.lookup x.1=_\/X.env.scope.names.lookup x.1=_
  rw [hsc];exact S.fr x hx hfree)
 refine wpAny_comprehension_free (use:=none) rfl hs hclos S.kind S.loc (thn (hi pins s σ H _ I h) λ v s1 h1=>thn h1 λ itv s2 h2=>?_)
 refine Jgf (RR:=λ acc C=>compPost (model X.prog X.w) X.A X.xe none (EP X pins σ Q) acc C) (Qe:=λ l H2=>Q (.ref l) H2) hc S hsc hNN hg ht he h2 ?_
 intro l H2 C s2 I2 hm f q
 obtain ⟨m,hm⟩:=hm
 exact ⟨m,hm,λ h' hs'=>⟨.ref l,H2,I2.freed f hs',rfl,q⟩⟩
theorem Jgg {i:Nat}{y:Str}{py spos:Pos}(hc:X.calm=true) (hN:X.N.Nodup) (hiN:X.N[i]? = some y) (hy:X.env.scope.names.lookup y=some .local) (S:CompScopeC sc N scope N' k idx) (hsc:X.env.scope=sc) (hNN:X.N=N) (hi:PI X tg iter wi)
 (hg:∀ C s H fp,PG (Zj X N' scope C s H fp) tg g) (ht:∀ C s H fp,PTs (Zj X N' scope C s H fp) ifs tt) (he:∀ C s H fp,PE (Zj X N' scope C s H fp) elt te)
 (hsw:J89 (.ListComp elt [⟨tg,iter,ifs,0⟩] scope pos) (some (.Name y py)) spos.line X.env=pure true:=by rfl)
 (hs:∀ x,J9j iter X.env x=pure x:=by intro _;rfl):PS X (.Assign [.Name y py] (.ListComp elt [⟨tg,iter,ifs,0⟩] scope pos) spos) (Bo i wi k idx g tt te):=by
 intro pins s σ H D I h
 rw [J9z _ _ _ _ hsw]
 refine wpAny_bind (wpAny_standAt (wpAny_bind ?_))
 show J8l _ X.A (do let _ <- comprehension (.ListComp elt [⟨tg,iter,ifs,0⟩] scope pos) scope X.env _ (newList []) false (eval iter X.env) (some (assign (.Name y py) X.env))) _ _ s
 have hclos:J9f scope X.env=pure (Yo X.env scope.names []):=Bk λ x hx hfree=>I.ok.has x.1 (by
  show X.env.scope.names.lookup x.1=_\/X.env.scope.names.lookup x.1=_
  rw [hsc];exact S.fr x hx hfree)
 refine wpAny_bind (wpAny_mono (wpAny_comprehension_free (use:=some (assign (.Name y py) X.env)) (Q:=λ _ s'=>SP X pins D .next s') rfl hs hclos S.kind S.loc (thn (hi pins s σ H _ I h) λ v s1 h1=>thn h1 λ itv s2 h2=>?_))
  (λ _ s' hq=>wpAny_pure (wpAny_pure hq)) λ _ _ e=>e)
 refine Jgf (RR:=λ acc C=>compPost (model X.prog X.w) X.A X.xe (some (assign (.Name y py) X.env)) (λ _ s'=>SP X pins D .next s') acc C) (Qe:=λ l H2=>D.nx (σ.set i (some (.ref l))) H2) hc S hsc hNN hg ht he h2 ?_
 intro l H2 C s2 I2 hm f q
 obtain ⟨m,hm⟩:=hm
 show J8l _ X.A (assign (.Name y py) X.env (.ref l)) _ _ _
 refine J9s (Jfb (v:=.ref l) I2 hN hiN (.inl hy) rfl (λ s' I' hch=>?_) (.inr hy))
 obtain ⟨a,hsb,ha⟩:=hch
 have haC:C≠a:=λ z=>by
  rcases ha with e | e
  . exact f.loc (z.trans e)
  . exact f.cel y a e z.symm
 exact ⟨m,hm.sameBut hsb haC,λ h' hs'=>⟨_,H2,I'.freed f hs',q⟩⟩
end
noncomputable def Jup (scope osc:J8q):J8q:={ scope with names:=scope.names.map λ (n,k)=>if (k==Uh&&osc.kind == .function&&osc.names.lookup n==some .cell) then (n,Ux) else (n,k) }
theorem Jxr {X:Cx}{N':List Str}{scope osc:J8q}{C:Addr}{s:J8k}{H:Hp}{fp:List Addr}(h:X.env.scope=osc):(Zj X N' scope C s H fp).env.scope=Jup scope osc:=by
 subst h;rfl
end L2
namespace My
open L2
noncomputable def Jl7 (ws:List Way) (cs:List Int) (p:Nat):List Int:=(Qf ws.length).map λ i=>cs.getD i 0*(Jg ws (i:Nat)).g.getD p 0
noncomputable def rgI (ws:List Way) (cs:List Int) (U:Int):List Int:=(Qf U.toNat).map λ p=>(Jl7 ws cs p).sum
inductive Vl where
 | jnk | jar | tape | d (x:J8j) | own (xs:List J8j) | dct (kvs:List (Key×J8j)) | own2 (ks:Option (List Key)) (ps:List (Addr×List J8j)) | pin (v:V) (x:J8j)
structure Src where
 jv:V
 ch:List Addr
 inv:Nat->Hp->Prop
 keep:∀ {n:Nat} {H H':Hp},inv n H->(∀ b∈ch,∀ o,H b=some o->H' b=some o)->inv n H'
 dom:∀ {n:Nat} {H:Hp},inv n H->∀ b∈ch,H b≠none
noncomputable def Src.no:Src:=⟨.non,[],λ _ _=>True,λ _ _=>trivial,λ _ _ h=>by cases h⟩
def Jqv (H:Hp) (p c:Addr) (n:Nat):Prop:=∃ e,Jxp H p c e/\(n=0\/e=some (n:Int))
theorem Jqv.jar {H:Hp}{p c:Addr}{n:Nat}(J:Jqv H p c n):Jar H p c:=J.choose_spec.1.jar
theorem Juq {H:Hp}{p c:Addr}{n:Nat}(J:Jqv H p c n):∀ b∈[p,c],H b≠none:=λ b hb z=>J.jar.fresh z hb
theorem Jsb {H H':Hp}{p c:Addr}{n:Nat}(J:Jqv H p c n) (h:∀ b∈[p,c],∀ o,H b=some o->H' b=some o):Jqv H' p c n:=by
 obtain ⟨e,⟨ns,r,s,t,X,h3⟩,hn⟩:=J
 exact ⟨e,⟨ns,r,s,t,⟨h _ (by simp) _ X.d,h _ (by simp) _ X.l⟩,h3⟩,hn⟩
noncomputable def Src.jar (p c:Addr):Src:=⟨.ref p,[p,c],λ n H=>Jqv H p c n,λ J h=>Jsb J h,λ J=>Juq J⟩
theorem Jqw {H H':Hp}{p c:Addr}{n:Nat}(J:Tape H p c n) (h:∀ b∈[p,c],∀ o,H b=some o->H' b=some o):Tape H' p c n:=by
 obtain ⟨ns,a,g,h1,h2,h3⟩:=J.ex
 exact ⟨ns,a,g,h _ (by simp) _ h1,h _ (by simp) _ h2,h3⟩
noncomputable def Src.tape (p c:Addr):Src:=⟨.ref p,[p,c],λ n H=>Tape H p c n,λ J h=>Jqw J h,λ J b hb z=>J.fresh z hb⟩
def Y6 (S:Src) (n':Nat) (H H':Hp):Prop:=Kp S.ch H H'/\S.inv n' H'
section
variable {S:Src}{n m:Nat}{H H1 H2 H':Hp}{ex:List Addr}
theorem Y6.refl (h:S.inv n H):Y6 S n H H:=⟨.refl,h⟩
theorem Y6.trans (a:Y6 S n H H1) (b:Y6 S m H1 H2):Y6 S m H H2:=⟨a.1.trans b.1,b.2⟩
theorem Y6.new (h:S.inv n H) (k:Kp [] H H'):Y6 S n H H':=⟨k.of,S.keep h λ b _ o e=>k b o e (by simp)⟩
theorem Y6.then (a:Y6 S n H H1) (k:Kp [] H1 H2):Y6 S n H H2:=a.trans (.new a.2 k)
theorem Y6.free {p:Addr}(a:Y6 S n H H1) (h:H1 p=none):H p=none:=by
 cases e:H p with
 | none=>rfl
 | some o=>
  by_cases hp:p∈S.ch
  . exact absurd h (S.dom a.2 p hp)
  . rw [a.1 p o e hp] at h;cases h
def Alc (ex:List Addr) (H:Hp):Prop:=∀ a∈ex,H a≠none
theorem Alc.nm {p:Addr}(h:Alc ex H) (e:H p=none):p∉ex:=λ z=>h p z e
theorem Alc.kp (h:Alc ex H) (k:Kp [] H H'):Alc ex H':=λ a ha z=>by
 cases e:H a with
 | none=>exact h a ha e
 | some o=>rw [k a o e (by simp)] at z;cases z
theorem Alc.step (h:Alc ex H) (k:Y6 S n H H'):Alc ex H':=λ a ha z=>h a ha (k.free z)
mutual
theorem Rep.add {l:Addr}(h:H l=none):∀ {d:J8j}{v:V},Rep ex H d v->Rep (l::ex) H d v
 | _,_,.none=>.none
 | _,_,.bool b=>.bool b
 | _,_,.int i=>.int i
 | _,_,.str x=>.str x
 | _,_,.tuple e n z r=>.tuple e (λ q=>(Qh.mp q).elim (λ q=>by rw [q,h] at e;cases e) n) z (Reps.add h r)
 | _,_,.list e n z r=>.list e (λ q=>(Qh.mp q).elim (λ q=>by rw [q,h] at e;cases e) n) z (Reps.add h r)
 | _,_,.obj e n k r=>.obj e (λ q=>(Qh.mp q).elim (λ q=>by rw [q,h] at e;cases e) n) k (Reps.add h r)
 | _,_,.dctf e n k r=>.dctf e (λ q=>(Qh.mp q).elim (λ q=>by rw [q,h] at e;cases e) n) k (Reps.add h r)
theorem Reps.add {l:Addr}(h:H l=none):∀ {ds:List J8j}{vs:List V},Reps ex H ds vs->Reps (l::ex) H ds vs
 | _,_,.nil=>.nil
 | _,_,.cons r t=>.cons (Rep.add h r) (Reps.add h t)
end
theorem Rep.sub {l:Addr}{d:J8j}{v:V}(r:Rep (l::ex) H d v):Rep ex H d v:=Rep.mono (λ b hb=>Ql _ hb) r
theorem Reps.sub {l:Addr}{d:List J8j}{v:List V}(r:Reps (l::ex) H d v):Reps ex H d v:=Reps.mono (λ b hb=>Ql _ hb) r
end
noncomputable def exm (m:Bool) (S:Src) (ex:List Addr):List Addr:=match m with | true=>ex | false=>S.ch
def KvR (ex:List Addr) (H:Hp) (kvs:List (Key×J8j)) (kws:List (Key×V)):Prop:=kws.map (·.1)=kvs.map (·.1)/\Reps ex H (kvs.map (·.2)) (kws.map (·.2))
noncomputable def Jzg (ks:Option (List Key)) (rs:List V):HO:=match ks with
 | none=>.lst rs
 | some ks=>.dK (ks.zip rs)
structure In2 (S:Src) (ex:List Addr) (H:Hp) (p:Addr×List J8j):Prop where
 m:p.1∈ex
 c:p.1∉S.ch
 h:∃ vs,H p.1=some (.lst vs)/\vs.length<=sizeLine/\Reps ex H p.2 vs
noncomputable def Wg (ps:List (Addr×List J8j)):List V:=ps.map λ p=>.ref p.1
structure Own2 (S:Src) (ex:List Addr) (H:Hp) (ks:Option (List Key)) (ps:List (Addr×List J8j)) (a:Addr):Prop where
 h:H a=some (Jzg ks (Wg ps))
 z:ps.length<=1000000
 k:∀ l,ks=some l->l.length=ps.length
 nd:(a::ps.map (·.1)).Nodup
 m:a∈ex
 c:a∉S.ch
 i:∀ p∈ps,In2 S ex H p
def SlR (S:Src) (ex:List Addr) (H:Hp):Vl->Option V->Prop
 | .jnk,_=>True
 | .jar,o=>∃ p c,S=Src.jar p c/\o=some (.ref p)
 | .tape,o=>∃ p c,S=Src.tape p c/\o=some (.ref p)
 | .d x,o=>∃ v,o=some v/\Rep ex H x v
 | .own xs,o=>∃ a vs,o=some (.ref a)/\H a=some (.lst vs)/\vs.length<=sizeLine/\Reps ex H xs vs/\a∈ex/\a∉S.ch
 | .dct kvs,o=>∃ a kws,o=some (.ref a)/\H a=some (.dK kws)/\KvR ex H kvs kws/\a∈ex/\a∉S.ch
 | .own2 ks ps,o=>∃ a,o=some (.ref a)/\Own2 S ex H ks ps a
 | .pin v x,o=>o=some v/\Rep ex H x v
structure Ev (S:Src) (ex:List Addr) (env:List Vl) (σ:L2.St) (H:Hp) (n:Nat):Prop where
 len:env.length<=σ.length
 sl:∀ (i:Nat) (w:Vl),env[i]? = some w->SlR S ex H w (σ[i]?).join
 ch:∀ a∈S.ch,a∈ex
 al:Alc ex H
 inv:S.inv n H
section
variable {S:Src}{n m:Nat}{H H1 H2 H':Hp}{ex:List Addr}{env:List Vl}{σ:L2.St}
theorem SlR.kp {w:Vl}{o:Option V}(hc:∀ a∈S.ch,a∈ex) (k:Kp S.ch H H') (h:SlR S ex H w o):SlR S ex H' w o:=by
 have kx:Kp ex H H':=k.mono hc
 cases w with
 | jnk=>trivial
 | jar=>exact h
 | tape=>exact h
 | d x=>obtain ⟨v,e,r⟩:=h;exact ⟨v,e,r.keep kx⟩
 | pin v x=>obtain ⟨e,r⟩:=h;exact ⟨e,r.keep kx⟩
 | own xs=>obtain ⟨a,vs,e,h1,h2,h3,h4,h5⟩:=h;exact ⟨a,vs,e,k _ _ h1 h5,h2,h3.keep kx,h4,h5⟩
 | dct kvs=>obtain ⟨a,kws,e,h1,⟨h2,h3⟩,h4,h5⟩:=h;exact ⟨a,kws,e,k _ _ h1 h5,⟨h2,h3.keep kx⟩,h4,h5⟩
 | own2 ks ps=>obtain ⟨a,e,q⟩:=h;exact ⟨a,e,k _ _ q.h q.c,q.z,q.k,q.nd,q.m,q.c,λ p hp=>let w:=q.i p hp;⟨w.m,w.c,let ⟨vs,h1,h2,h3⟩:=w.h;⟨vs,k _ _ h1 w.c,h2,h3.keep kx⟩⟩⟩
theorem Ev.step (E:Ev S ex env σ H n) (k:Y6 S m H H'):Ev S ex env σ H' m:=⟨E.len,λ i w e=>(E.sl i w e).kp E.ch k.1,E.ch,E.al.step k,k.2⟩
theorem Ev.rep (E:Ev S ex env σ H n) (k:Y6 S m H H') {d:J8j}{v:V}(r:Rep ex H d v):Rep ex H' d v:=r.keep (k.1.mono E.ch)
theorem Ev.reps (E:Ev S ex env σ H n) (k:Y6 S m H H') {d:List J8j}{v:List V}(r:Reps ex H d v):Reps ex H' d v:=r.keep (k.1.mono E.ch)
theorem Ev.sub (E:Ev S ex env σ H n) (b:Bool):∀ a∈exm b S ex,a∈ex:=by
 cases b with
 | true=>exact λ a h=>h
 | false=>exact E.ch
theorem Ev.sup (E:Ev S ex env σ H n) (b:Bool):∀ a∈S.ch,a∈exm b S ex:=by
 cases b with
 | true=>exact E.ch
 | false=>exact λ a h=>h
theorem Ev.alm (E:Ev S ex env σ H n) (b:Bool):Alc (exm b S ex) H:=λ a h=>E.al a (E.sub b a h)
theorem Ev.repm (E:Ev S ex env σ H n) (b:Bool) (k:Y6 S m H H') {d:J8j}{v:V}(r:Rep (exm b S ex) H d v):Rep (exm b S ex) H' d v:=r.keep (k.1.mono (E.sup b))
theorem Rep.nil {d:J8j}{v:V}(r:Rep ex H d v):Rep [] H d v:=Rep.mono (λ b hb=>by cases hb) r
theorem Reps.nil' {d:List J8j}{v:List V}(r:Reps ex H d v):Reps [] H d v:=Reps.mono (λ b hb=>by cases hb) r
theorem Jt {i:Nat}{v:V}(h:(σ[i]?).join=some v):σ[i]? = some (some v):=by
 cases e:σ[i]? with
 | none=>rw [e] at h;cases h
 | some o=>rw [e] at h;cases o with
  | none=>cases h
  | some u=>cases h;rfl
end
abbrev GE:=List Vl->Nat->(J8j->Nat->Prop)->Prop
abbrev GT:=List Vl->Nat->(Bool->Nat->Prop)->Prop
abbrev GA:=List Vl->Nat->(List Vl->Nat->Prop)->Prop
abbrev GN:=List Vl->Nat->(List J8j->Nat->Prop)->Prop
abbrev GSp:=List Vl->Nat->(J8j->Nat->Prop)->Prop
abbrev GSn:=List Vl->Nat->(List J8j->Nat->Prop)->Prop
def Jav (S:Src) (ex:List Addr) (H:Hp):List Vl->List V->Prop
 | [],[]=>True
 | a::as,v::vs=>SlR S ex H a (some v)/\Jav S ex H as vs
 | _,_=>False
class EV (m:Bool) (te:TE) (g:outParam GE):Prop where
 ev:∀ {S:Src} {ex:List Addr} {env:List Vl} {σ:L2.St} {H:Hp} {n:Nat} {Q:VK} {P:J8j->Nat->Prop},Ev S ex env σ H n->g env n P->(∀ d n' v H',P d n'->Y6 S n' H H'->Rep (exm m S ex) H' d v->Q v H')->te σ H Q
class NV (te:TE) (g:outParam GN):Prop where
 nv:∀ {S:Src} {ex:List Addr} {env:List Vl} {σ:L2.St} {H:Hp} {n:Nat} {Q:VK} {P:List J8j->Nat->Prop},Ev S ex env σ H n->g env n P->(∀ ds n' a vs H',P ds n'->Y6 S n' H H'->H a=none->H' a=some (.lst vs)->vs.length<=sizeLine->Reps (a::ex) H' ds vs->Q (.ref a) H')->te σ H Q
class TV (tt:TT) (g:outParam GT):Prop where
 tv:∀ {S:Src} {ex:List Addr} {env:List Vl} {σ:L2.St} {H:Hp} {n:Nat} {Q:Bool->Hp->Prop} {P:Bool->Nat->Prop},Ev S ex env σ H n->g env n P->(∀ b n' H',P b n'->Y6 S n' H H'->Q b H')->tt σ H Q
class AV (m:Bool) (ta:TA) (g:outParam GA):Prop where
 av:∀ {S:Src} {ex:List Addr} {env:List Vl} {σ:L2.St} {H:Hp} {n:Nat} {Q:List V->Hp->Prop} {P:List Vl->Nat->Prop},Ev S ex env σ H n->g env n P->(∀ as n' vs H',P as n'->Y6 S n' H H'->Jav S (exm m S ex) H' as vs->Q vs H')->ta σ H Q
class DV (m:Bool) (ta:TA) (g:outParam GN):Prop where
 dv:∀ {S:Src} {ex:List Addr} {env:List Vl} {σ:L2.St} {H:Hp} {n:Nat} {Q:List V->Hp->Prop} {P:List J8j->Nat->Prop},Ev S ex env σ H n->g env n P->(∀ ds n' vs H',P ds n'->Y6 S n' H H'->Reps (exm m S ex) H' ds vs->Q vs H')->ta σ H Q
abbrev G2:=J8j->J8j->(J8j->Prop)->Prop
class OV (r:R2) (f:outParam G2):Prop where
 ov:∀ {ex:List Addr} {H:Hp} {x y:V} {dx dy:J8j} {Q:VK} {P:J8j->Prop},Alc ex H->Rep ex H dx x->Rep ex H dy y->f dx dy P->(∀ d v H',P d->Kp [] H H'->Rep ex H' d v->Q v H')->r x y H Q
class OS (r:R2) (f:outParam G2):Prop where
 os:∀ {H:Hp} {x y:V} {dx dy:J8j} {Q:VK} {P:J8j->Prop},Rep [] H dx x->Rep [] H dy y->f dx dy P->(∀ d v,P d->(∀ ex,Rep ex H d v)->Q v H)->r x y H Q
class ON (r:R2) (f:outParam (J8j->J8j->(List J8j->Prop)->Prop)):Prop where
 on:∀ {ex:List Addr} {H:Hp} {x y:V} {dx dy:J8j} {Q:VK} {P:List J8j->Prop},Rep ex H dx x->Rep ex H dy y->f dx dy P->(∀ ds p vs,P ds->H p=none->vs.length<=sizeLine->Reps ex H ds vs->Q (.ref p) (upd H p (.lst vs)))->r x y H Q
abbrev G1:=List J8j->(J8j->Prop)->Prop
class CS (r:List V->Hp->VK->Prop) (f:outParam G1):Prop where
 cs:∀ {H:Hp} {xs:List V} {ds:List J8j} {Q:VK} {P:J8j->Prop},Reps [] H ds xs->f ds P->(∀ d v,P d->(∀ ex,Rep ex H d v)->Q v H)->r xs H Q
class CO (r:List V->Hp->VK->Prop) (f:outParam G1):Prop where
 co:∀ {ex:List Addr} {H:Hp} {xs:List V} {ds:List J8j} {Q:VK} {P:J8j->Prop},Alc ex H->Reps ex H ds xs->f ds P->(∀ d v H',P d->Kp [] H H'->Rep ex H' d v->Q v H')->r xs H Q
class CN (r:List V->Hp->VK->Prop) (f:outParam (List J8j->(List J8j->Prop)->Prop)):Prop where
 cn:∀ {ex:List Addr} {H:Hp} {xs:List V} {ds:List J8j} {Q:VK} {P:List J8j->Prop},Reps ex H ds xs->f ds P->(∀ es p vs,P es->H p=none->vs.length<=sizeLine->Reps ex H es vs->Q (.ref p) (upd H p (.lst vs)))->r xs H Q
abbrev Jur (i:Nat):GE:=λ env n Q=>match env[i]? with
 | some (.d x)=>Q x n
 | some (.pin _ x)=>Q x n
 | _=>False
abbrev Jwd (i:Nat):GE:=λ env n Q=>match env[i]? with
 | some (.d x)=>Q x n
 | some (.pin _ x)=>Q x n
 | some (.own xs)=>Q (.list xs) n
 | some (.own2 none ps)=>Q (.list (ps.map λ p=>.list p.2)) n
 | _=>False
theorem Jfn {S:Src}{ex:List Addr}{H:Hp}:∀ {ps:List (Addr×List J8j)},(∀ a∈S.ch,a∈ex)->(∀ p∈ps,In2 S ex H p)->Reps S.ch H (ps.map λ p=>Ur p.2) (Wg ps)
 | [],_,_=>.nil
 | p::ps,hc,h=>by
  have w:=h p Qn
  obtain ⟨vs,h1,h2,h3⟩:=w.h
  exact .cons (.list h1 w.c h2 (Reps.mono hc h3)) (Jfn hc λ q hq=>h q (Ql _ hq))
abbrev gC (d:J8j):GE:=λ _ n Q=>Q d n
section
variable {S:Src}{n m:Nat}{H H1 H2 H':Hp}{ex:List Addr}{env:List Vl}{σ:L2.St}{b:Bool}{te ta tb tc:TE}{g ga gb gc:GE}
instance ev_var {i:Nat}:EV true (Z8 i) (Jur i):=⟨λ {S ex env σ H n Q P} E h k=>by
 unfold Jur at h
 split at h
 . rename_i x e
   obtain ⟨v,ev,r⟩:=E.sl i _ e
   exact ⟨v,Jt ev,k _ _ v H h (.refl E.inv) r⟩
 . rename_i v x e
   obtain ⟨ev,r⟩:=E.sl i _ e
   exact ⟨v,Jt ev,k _ _ v H h (.refl E.inv) r⟩
 . exact h.elim⟩
instance pv_var {i:Nat}:EV false (Z8 i) (Jwd i):=⟨λ {S ex env σ H n Q P} E h k=>by
 unfold Jwd at h
 split at h
 . rename_i x e
   obtain ⟨v,ev,r⟩:=E.sl i _ e
   exact ⟨v,Jt ev,k _ _ v H h (.refl E.inv) (Rep.mono E.ch r)⟩
 . rename_i v x e
   obtain ⟨ev,r⟩:=E.sl i _ e
   exact ⟨v,Jt ev,k _ _ v H h (.refl E.inv) (Rep.mono E.ch r)⟩
 . rename_i xs e
   obtain ⟨a,vs,ev,h1,h2,h3,h4,h5⟩:=E.sl i _ e
   exact ⟨_,Jt ev,k _ _ _ H h (.refl E.inv) (.list h1 h5 h2 (Reps.mono E.ch h3))⟩
 . rename_i ps e
   obtain ⟨a,ev,q⟩:=E.sl i _ e
   have hs:sizeLine=16777216:=J8p
   exact ⟨_,Jt ev,k _ _ _ H h (.refl E.inv) (.list q.h q.c (by unfold Wg;rw [Qb];have:=q.z;omega) (Jfn E.ch q.i))⟩
 . exact h.elim⟩
instance ev_int {i:Int}:EV b (tC (.int i)) (gC (.int i)):=⟨λ E h k=>k _ _ _ _ h (.refl E.inv) (.int i)⟩
instance ev_bl {i:Bool}:EV b (tC (.bl i)) (gC (.bool i)):=⟨λ E h k=>k _ _ _ _ h (.refl E.inv) (.bool i)⟩
instance ev_str {i:Str}:EV b (tC (.str i)) (gC (.str i)):=⟨λ E h k=>k _ _ _ _ h (.refl E.inv) (.str i)⟩
instance ev_non:EV b (tC .non) (gC .none):=⟨λ E h k=>k _ _ _ _ h (.refl E.inv) .none⟩
abbrev gOp (f:G2) (ga gb:GE):GE:=λ env n Q=>ga env n λ x n1=>gb env n1 λ y n2=>f x y λ d=>Q d n2
instance ev_opS {r:R2}{f:G2} [O:OS r f] [A:EV false ta ga] [B:EV false tb gb]:EV b (tOp r ta tb) (gOp f ga gb):=⟨λ {S ex env σ H n Q P} E h k=>by
 refine A.ev E h λ x n1 v1 H1 h1 s1 r1=>B.ev (E.step s1) h1 λ y n2 v2 H2 h2 s2 r2=>?_
 exact O.os (Rep.nil ((E.step s1).repm false s2 r1)) (Rep.nil r2) h2 λ d v p r=>k _ _ _ _ p (s1.trans s2) (r _)⟩
instance (priority:=low) ev_op {r:R2}{f:G2} [O:OV r f] [A:EV b ta ga] [B:EV b tb gb]:EV b (tOp r ta tb) (gOp f ga gb):=⟨λ {S ex env σ H n Q P} E h k=>by
 refine A.ev E h λ x n1 v1 H1 h1 s1 r1=>B.ev (E.step s1) h1 λ y n2 v2 H2 h2 s2 r2=>?_
 exact O.ov ((E.step (s1.trans s2)).alm b) ((E.step s1).repm b s2 r1) r2 h2 λ d v H' p kp r=>k _ _ _ _ p ((s1.trans s2).then kp) r⟩
abbrev J0u (g:GN):GE:=λ env n Q=>g env n λ ds n'=>Q (.list ds) n'
instance (priority:=low) ev_nv {g:GN} [N:NV te g]:EV b te (J0u g):=⟨λ {S ex env σ H n Q P} E h k=>
 N.nv E h λ ds n' a vs H' p st ha hl hz r=>k _ _ _ _ p st (.list hl (λ z=>E.alm b a z ha) hz (Reps.mono (λ c hc=>Ql _ (E.sub b c hc)) r))⟩
abbrev J0v (f:J8j->J8j->(List J8j->Prop)->Prop) (ga gb:GE):GN:=λ env n Q=>ga env n λ x n1=>gb env n1 λ y n2=>f x y λ d=>Q d n2
theorem Jaf {S:Src}{ex:List Addr}{env:List Vl}{σ:L2.St}{H H1:Hp}{n n1:Nat}{p:Addr}{vs:List V}{ds:List J8j}(E:Ev S ex env σ H n) (s:Y6 S n1 H H1) (hp:H1 p=none) (r:Reps ex H1 ds vs) :
 Y6 S n1 H (upd H1 p (.lst vs))/\H p=none/\Reps (p::ex) (upd H1 p (.lst vs)) ds vs:=
 ⟨s.then (Kp.new hp _),s.free hp,(Reps.add hp r).keep (Kp.new hp _)⟩
instance nv_op {r:R2}{f:J8j->J8j->(List J8j->Prop)->Prop} [O:ON r f] [A:EV true ta ga] [B:EV true tb gb]:NV (tOp r ta tb) (J0v f ga gb):=⟨λ {S ex env σ H n Q P} E h k=>by
 refine A.ev E h λ x n1 v1 H1 h1 s1 r1=>B.ev (E.step s1) h1 λ y n2 v2 H2 h2 s2 r2=>?_
 refine O.on ((E.step s1).repm true s2 r1) r2 h2 λ ds p vs pp hp hz r=>?_
 obtain ⟨c1,c2,c3⟩:=Jaf E (s1.trans s2) hp r
 exact k _ _ _ _ _ pp c1 c2 Jj hz c3⟩
abbrev Jzh:GA:=λ _ n Q=>Q [] n
abbrev Jzi (i:Nat) (rest:GA):GA:=λ env n Q=>match env[i]? with
 | some (.d x)=>rest env n λ as n'=>Q (.d x::as) n'
 | some .jar=>rest env n λ as n'=>Q (.jar::as) n'
 | some .tape=>rest env n λ as n'=>Q (.tape::as) n'
 | _=>False
abbrev Jwe (i:Nat) (rest:GA):GA:=λ env n Q=>match env[i]? with
 | some (.d x)=>rest env n λ as n'=>Q (.d x::as) n'
 | some (.own xs)=>rest env n λ as n'=>Q (.d (.list xs)::as) n'
 | some (.own2 none ps)=>rest env n λ as n'=>Q (.d (.list (ps.map λ p=>.list p.2))::as) n'
 | some .jar=>rest env n λ as n'=>Q (.jar::as) n'
 | some .tape=>rest env n λ as n'=>Q (.tape::as) n'
 | _=>False
abbrev Jxs (g:GE) (rest:GA):GA:=λ env n Q=>g env n λ d n1=>rest env n1 λ as n2=>Q (.d d::as) n2
abbrev Jzj:GN:=λ _ n Q=>Q [] n
abbrev Jxt (g:GE) (rest:GN):GN:=λ env n Q=>g env n λ d n1=>rest env n1 λ as n2=>Q (d::as) n2
instance av_nil:AV b Jbd Jzh:=⟨λ E h k=>k _ _ _ _ h (.refl E.inv) trivial⟩
instance (priority:=low) av_cons {t:TA}{gt:GA} [A:EV b te g] [B:AV b t gt]:AV b (Yp te t) (Jxs g gt):=⟨λ {S ex env σ H n Q P} E h k=>
 A.ev E h λ x n1 v1 H1 h1 s1 r1=>B.av (E.step s1) h1 λ as n2 vs H2 h2 s2 r2=>k _ _ _ _ h2 (s1.trans s2) ⟨⟨_,rfl,(E.step s1).repm b s2 r1⟩,r2⟩⟩
instance av_var {t:TA}{gt:GA}{i:Nat} [B:AV true t gt]:AV true (Yp (Z8 i) t) (Jzi i gt):=⟨λ {S ex env σ H n Q P} E h k=>by
 unfold Jzi at h
 split at h
 . rename_i x e
   obtain ⟨v,ev,r⟩:=E.sl i _ e
   exact ⟨v,Jt ev,B.av E h λ as n2 vs H2 h2 s2 r2=>k _ _ _ _ h2 s2 ⟨⟨_,rfl,E.repm true s2 r⟩,r2⟩⟩
 . rename_i e
   obtain ⟨p,c,hS,ev⟩:=E.sl i _ e
   exact ⟨_,Jt ev,B.av E h λ as n2 vs H2 h2 s2 r2=>k _ _ _ _ h2 s2 ⟨⟨p,c,hS,rfl⟩,r2⟩⟩
 . rename_i e
   obtain ⟨p,c,hS,ev⟩:=E.sl i _ e
   exact ⟨_,Jt ev,B.av E h λ as n2 vs H2 h2 s2 r2=>k _ _ _ _ h2 s2 ⟨⟨p,c,hS,rfl⟩,r2⟩⟩
 . exact h.elim⟩
instance av_look {t:TA}{gt:GA}{i:Nat} [B:AV false t gt]:AV false (Yp (Z8 i) t) (Jwe i gt):=⟨λ {S ex env σ H n Q P} E h k=>by
 unfold Jwe at h
 split at h
 . rename_i x e
   obtain ⟨v,ev,r⟩:=E.sl i _ e
   exact ⟨v,Jt ev,B.av E h λ as n2 vs H2 h2 s2 r2=>k _ _ _ _ h2 s2 ⟨⟨_,rfl,E.repm false s2 (Rep.mono E.ch r)⟩,r2⟩⟩
 . rename_i xs e
   obtain ⟨a,vs,ev,h1,h2,h3,h4,h5⟩:=E.sl i _ e
   exact ⟨_,Jt ev,B.av E h λ as n2 vs' H2 hh s2 r2=>k _ _ _ _ hh s2 ⟨⟨_,rfl,E.repm false s2 (.list h1 h5 h2 (Reps.mono E.ch h3))⟩,r2⟩⟩
 . rename_i ps e
   obtain ⟨a,ev,q⟩:=E.sl i _ e
   exact ⟨_,Jt ev,B.av E h λ as n2 vs' H2 hh s2 r2=>k _ _ _ _ hh s2 ⟨⟨_,rfl,E.repm false s2 (.list q.h q.c (by unfold Wg;rw [Qb,J8p];have:=q.z;omega) (Jfn E.ch q.i))⟩,r2⟩⟩
 . rename_i e
   obtain ⟨p,c,hS,ev⟩:=E.sl i _ e
   exact ⟨_,Jt ev,B.av E h λ as n2 vs H2 h2 s2 r2=>k _ _ _ _ h2 s2 ⟨⟨p,c,hS,rfl⟩,r2⟩⟩
 . rename_i e
   obtain ⟨p,c,hS,ev⟩:=E.sl i _ e
   exact ⟨_,Jt ev,B.av E h λ as n2 vs H2 h2 s2 r2=>k _ _ _ _ h2 s2 ⟨⟨p,c,hS,rfl⟩,r2⟩⟩
 . exact h.elim⟩
instance dv_nil:DV b Jbd Jzj:=⟨λ E h k=>k _ _ _ _ h (.refl E.inv) .nil⟩
instance dv_cons {t:TA}{gt:GN} [A:EV b te g] [B:DV b t gt]:DV b (Yp te t) (Jxt g gt):=⟨λ {S ex env σ H n Q P} E h k=>
 A.ev E h λ x n1 v1 H1 h1 s1 r1=>B.dv (E.step s1) h1 λ as n2 vs H2 h2 s2 r2=>k _ _ _ _ h2 (s1.trans s2) (.cons ((E.step s1).repm b s2 r1) r2)⟩
abbrev Jzk (t:GN):GE:=λ env n Q=>t env n λ ds n1=>ds.length<=sizeLine/\Q (.tuple ds) n1
abbrev Jzl (t:GN):GN:=λ env n Q=>t env n λ ds n1=>ds.length<=sizeLine/\Q ds n1
instance ev_tup {t:TA}{gt:GN} [A:DV b t gt]:EV b (Juf t) (Jzk gt):=⟨λ {S ex env σ H n Q P} E h k=>
 A.dv E h λ ds n1 vs H1 h1 s1 r1=>⟨by rw [<- r1.length];exact h1.1,λ p hp=>k _ _ _ _ h1.2 (s1.then (Kp.new hp _)) (.tuple Jj ((E.step s1).alm b |>.nm hp) (by rw [<- r1.length];exact h1.1) (r1.keep (Kp.new hp _)))⟩⟩
instance nv_lst {t:TA}{gt:GN} [A:DV true t gt]:NV (Jxf t) (Jzl gt):=⟨λ {S ex env σ H n Q P} E h k=>
 A.dv E h λ ds n1 vs H1 h1 s1 r1=>⟨by rw [<- r1.length];exact h1.1,λ p hp=>by
  obtain ⟨c1,c2,c3⟩:=Jaf E s1 hp r1
  exact k _ _ _ _ _ h1.2 c1 c2 Jj (by rw [<- r1.length];exact h1.1) c3⟩⟩
abbrev gCB (f:G1) (t:GN):GE:=λ env n Q=>t env n λ ds n1=>f ds λ d=>Q d n1
abbrev J0w (f:List J8j->(List J8j->Prop)->Prop) (t:GN):GN:=λ env n Q=>t env n λ ds n1=>f ds λ d=>Q d n1
instance ev_cs {r:List V->Hp->VK->Prop}{f:G1}{t:TA}{gt:GN} [C:CS r f] [A:DV false t gt]:EV b (tCB r t) (gCB f gt):=⟨λ {S ex env σ H n Q P} E h k=>
 A.dv E h λ ds n1 vs H1 h1 s1 r1=>C.cs (Reps.nil' r1) h1 λ d v p r=>k _ _ _ _ p s1 (r _)⟩
instance (priority:=low) ev_co {r:List V->Hp->VK->Prop}{f:G1}{t:TA}{gt:GN} [C:CO r f] [A:DV b t gt]:EV b (tCB r t) (gCB f gt):=⟨λ {S ex env σ H n Q P} E h k=>
 A.dv E h λ ds n1 vs H1 h1 s1 r1=>C.co ((E.step s1).alm b) r1 h1 λ d v H' p kp r=>k _ _ _ _ p (s1.then kp) r⟩
instance nv_cn {r:List V->Hp->VK->Prop}{f:List J8j->(List J8j->Prop)->Prop}{t:TA}{gt:GN} [C:CN r f] [A:DV true t gt]:NV (tCB r t) (J0w f gt):=⟨λ {S ex env σ H n Q P} E h k=>
 A.dv E h λ ds n1 vs H1 h1 s1 r1=>C.cn r1 h1 λ es p ws pp hp hz r=>by
  obtain ⟨c1,c2,c3⟩:=Jaf E s1 hp r
  exact k _ _ _ _ _ pp c1 c2 Jj hz c3⟩
def Jm (sp:GSp):Sp:=λ vs H Q _=>∃ (S:Src) (ex:List Addr) (as:List Vl) (n:Nat) (P:J8j->Nat->Prop),Jav S ex H as vs/\(∀ a∈S.ch,a∈ex)/\Alc ex H/\S.inv n H/\sp as n P/\∀ d n' v H',P d n'->Y6 S n' H H'->Rep ex H' d v->Q v H'
def Y8 (sp:GSn):Sp:=λ vs H Q _=>∃ (S:Src) (ex:List Addr) (as:List Vl) (n:Nat) (P:List J8j->Nat->Prop),Jav S ex H as vs/\(∀ a∈S.ch,a∈ex)/\Alc ex H/\S.inv n H/\sp as n P/\∀ ds n' a ws H',P ds n'->Y6 S n' H H'->H a=none->H' a=some (.lst ws)->ws.length<=sizeLine->Reps (a::ex) H' ds ws->Q (.ref a) H'
noncomputable def W6:J8j->Bool
 | .none | .bool _ | .int _ | .str _=>true
 | _=>false
theorem Jho {d:J8j}{v:V}(h:W6 d=true) (r:Rep ex H d v):∀ ex',Rep ex' H d v:=λ ex'=>by
 cases r with
 | none=>exact .none
 | bool b=>exact .bool b
 | int i=>exact .int i
 | str x=>exact .str x
 | tuple=>cases h
 | list=>cases h
 | obj=>cases h
 | dctf=>cases h
class Scal (sp:GSp):Prop where
 sc:∀ {as:List Vl} {n:Nat} {P:J8j->Nat->Prop},sp as n P->sp as n λ d n'=>W6 d=true/\P d n'
abbrev Jwf (sp:GSp) (ga:GA):GE:=λ env n Q=>ga env n λ as n1=>sp as n1 Q
abbrev Jxu (sp:GSn) (ga:GA):GN:=λ env n Q=>ga env n λ as n1=>sp as n1 Q
instance ev_callS {sp:GSp}{E':XK}{t:TA}{gt:GA} [Z:Scal sp] [A:AV false t gt]:EV b (Jjk (Jm sp) [] E' t) (Jwf sp gt):=⟨λ {S ex env σ H n Q P} E h k=>
 A.av E h λ as n1 vs H1 h1 s1 r1=>by
  rw [U3]
  exact ⟨S,S.ch,as,n1,_,r1,λ _ h=>h,λ a ha=>(E.step s1).al a (E.ch a ha),s1.2,Z.sc h1,λ d n' v H' p s2 r=>k _ _ _ _ p.2 (s1.trans s2) (Jho p.1 r _)⟩⟩
instance (priority:=low) ev_call {sp:GSp}{E':XK}{t:TA}{gt:GA} [A:AV b t gt]:EV b (Jjk (Jm sp) [] E' t) (Jwf sp gt):=⟨λ {S ex env σ H n Q P} E h k=>
 A.av E h λ as n1 vs H1 h1 s1 r1=>by
  rw [U3]
  exact ⟨S,exm b S ex,as,n1,_,r1,E.sup b,(E.step s1).alm b,s1.2,h1,λ d n' v H' p s2 r=>k _ _ _ _ p (s1.trans s2) r⟩⟩
instance nv_call {sp:GSn}{E':XK}{t:TA}{gt:GA} [A:AV true t gt]:NV (Jjk (Y8 sp) [] E' t) (Jxu sp gt):=⟨λ {S ex env σ H n Q P} E h k=>
 A.av E h λ as n1 vs H1 h1 s1 r1=>by
  rw [U3]
  exact ⟨S,ex,as,n1,_,r1,E.ch,(E.step s1).al,s1.2,h1,λ ds n' a ws H' p s2 ha hl hz r=>k _ _ _ _ _ p (s1.trans s2) (s1.free ha) hl hz r⟩⟩
abbrev Jwg (g:GE):GT:=λ env n Q=>g env n λ d n1=>match d with
 | .bool c=>Q c n1
 | _=>False
theorem Jcj {d:J8j}{n:Nat}{Q:Bool->Nat->Prop}{v:V}(h:match d with | .bool c=>Q c n | _=>False) (r:Rep ex H d v):∃ c,v = .bl c/\Q c n:=by
 cases r with
 | bool c=>exact ⟨c,rfl,h⟩
 | none=>exact h.elim
 | obj=>exact h.elim
 | dctf=>exact h.elim
 | int=>exact h.elim
 | str=>exact h.elim
 | tuple=>exact h.elim
 | list=>exact h.elim
instance tv_test [A:EV false te g]:TV (Jv5 te) (Jwg g):=⟨λ {S ex env σ H n Q P} E h k=>A.ev E h λ d n1 v H1 h1 s1 r1=>by
 obtain ⟨c,e,q⟩:=Jcj h1 r1
 exact ⟨c,e,k _ _ _ q s1⟩⟩
instance tv_b [A:EV false te g]:TV (tB te) (Jwg g):=⟨λ {S ex env σ H n Q P} E h k=>A.ev E h λ d n1 v H1 h1 s1 r1=>by
 obtain ⟨c,e,q⟩:=Jcj h1 r1
 exact ⟨c,e,k _ _ _ q s1⟩⟩
abbrev J0x (a b:GT):GT:=λ env n Q=>a env n λ c n1=>if c=true then b env n1 Q else Q false n1
abbrev gOr (a b:GT):GT:=λ env n Q=>a env n λ c n1=>if c=true then Q true n1 else b env n1 Q
abbrev J0y (a:GT):GT:=λ env n Q=>a env n λ c n1=>Q (!c) n1
instance tv_and {t u:TT}{gt gu:GT} [A:TV t gt] [B:TV u gu]:TV (Jyz t u) (J0x gt gu):=⟨λ {S ex env σ H n Q P} E h k=>A.tv E h λ c n1 H1 h1 s1=>by
 cases c with
 | true=>exact B.tv (E.step s1) h1 λ c n2 H2 h2 s2=>k _ _ _ h2 (s1.trans s2)
 | false=>exact k _ _ _ h1 s1⟩
instance tv_or {t u:TT}{gt gu:GT} [A:TV t gt] [B:TV u gu]:TV (tOr t u) (gOr gt gu):=⟨λ {S ex env σ H n Q P} E h k=>A.tv E h λ c n1 H1 h1 s1=>by
 cases c with
 | false=>exact B.tv (E.step s1) h1 λ c n2 H2 h2 s2=>k _ _ _ h2 (s1.trans s2)
 | true=>exact k _ _ _ h1 s1⟩
instance tv_not {t:TT}{gt:GT} [A:TV t gt]:TV (Jy0 t) (J0y gt):=⟨λ {S ex env σ H n Q P} E h k=>A.tv E h λ c n1 H1 h1 s1=>k _ _ _ h1 s1⟩
instance tv_noTest:TV Jgx (λ _ n Q=>Q true n):=⟨λ {S ex env σ H n Q P} E h k=>k _ _ _ h (.refl E.inv)⟩
abbrev gIf (t:GT) (a b:GE):GE:=λ env n Q=>t env n λ c n1=>if c=true then a env n1 Q else b env n1 Q
instance ev_if {t:TT}{gt:GT} [T:TV t gt] [A:EV b ta ga] [B:EV b tb gb]:EV b (tIf t ta tb) (gIf gt ga gb):=⟨λ {S ex env σ H n Q P} E h k=>T.tv E h λ c n1 H1 h1 s1=>by
 cases c with
 | true=>exact A.ev (E.step s1) h1 λ d n2 v H2 h2 s2 r=>k _ _ _ _ h2 (s1.trans s2) r
 | false=>exact B.ev (E.step s1) h1 λ d n2 v H2 h2 s2 r=>k _ _ _ _ h2 (s1.trans s2) r⟩
abbrev Jzm (a b:GE):GE:=λ env n Q=>a env n λ d n1=>match d with
 | .bool c=>if c=true then b env n1 Q else Q (.bool false) n1
 | _=>False
abbrev J0z (a b:GE):GE:=λ env n Q=>a env n λ d n1=>match d with
 | .bool c=>if c=true then Q (.bool true) n1 else b env n1 Q
 | _=>False
abbrev Jzn (a:GE):GE:=λ env n Q=>a env n λ d n1=>match d with
 | .bool c=>Q (.bool (!c)) n1
 | _=>False
instance ev_andV [A:EV false ta ga] [B:EV b tb gb]:EV b (Jvz ta tb) (Jzm ga gb):=⟨λ {S ex env σ H n Q P} E h k=>A.ev E h λ d n1 v H1 h1 s1 r1=>by
 obtain ⟨c,e,q⟩:=Jcj (Q:=λ c n1=>if c=true then gb env n1 P else P (.bool false) n1) h1 r1
 refine ⟨c,e,?_⟩
 cases c with
 | true=>exact B.ev (E.step s1) q λ d n2 v H2 h2 s2 r=>k _ _ _ _ h2 (s1.trans s2) r
 | false=>exact k _ _ _ _ q s1 (.bool _)⟩
instance ev_orV [A:EV false ta ga] [B:EV b tb gb]:EV b (Jy1 ta tb) (J0z ga gb):=⟨λ {S ex env σ H n Q P} E h k=>A.ev E h λ d n1 v H1 h1 s1 r1=>by
 obtain ⟨c,e,q⟩:=Jcj (Q:=λ c n1=>if c=true then P (.bool true) n1 else gb env n1 P) h1 r1
 refine ⟨c,e,?_⟩
 cases c with
 | false=>exact B.ev (E.step s1) q λ d n2 v H2 h2 s2 r=>k _ _ _ _ h2 (s1.trans s2) r
 | true=>exact k _ _ _ _ q s1 (.bool _)⟩
instance ev_notV [A:EV false ta ga]:EV b (Jv0 ta) (Jzn ga):=⟨λ {S ex env σ H n Q P} E h k=>A.ev E h λ d n1 v H1 h1 s1 r1=>by
 obtain ⟨c,e,q⟩:=Jcj (Q:=λ c n1=>P (.bool (!c)) n1) h1 r1
 exact ⟨c,e,k _ _ _ _ q s1 (.bool _)⟩⟩
abbrev gUn (f:J8j->(J8j->Prop)->Prop) (a:GE):GE:=λ env n Q=>a env n λ d n1=>f d λ e=>Q e n1
abbrev fU (f:Int->V):J8j->(J8j->Prop)->Prop:=λ d Q=>match d with
 | .int i=>(match f i with | .int k=>Q (.int k) | _=>False)
 | _=>False
instance ev_unI {f:Int->V} [A:EV false ta ga]:EV b (tUn (rU f) ta) (gUn (fU f) ga):=⟨λ {S ex env σ H n Q P} E h k=>A.ev E h λ d n1 v H1 h1 s1 r1=>by
 cases r1 with
 | int i=>
  unfold fU at h1
  refine ⟨i,rfl,?_⟩
  dsimp only at h1
  split at h1
  . rename_i j e;rw [e];exact k _ _ _ _ h1 s1 (.int _)
  . exact h1.elim
 | none=>exact h1.elim
 | obj=>exact h1.elim
 | dctf=>exact h1.elim
 | bool=>exact h1.elim
 | str=>exact h1.elim
 | tuple=>exact h1.elim
 | list=>exact h1.elim⟩
end
abbrev ofV:V->(J8j->Prop)->Prop
 | .int k,Q=>Q (.int k)
 | .bl c,Q=>Q (.bool c)
 | .str s,Q=>Q (.str s)
 | .non,Q=>Q .none
 | _,_=>False
theorem Jpi {v:V}{P:J8j->Prop}{H:Hp}(h:ofV v P):∃ d,P d/\∀ ex,Rep ex H d v:=by
 cases v with
 | int k=>exact ⟨_,h,λ _=>.int k⟩
 | bl k=>exact ⟨_,h,λ _=>.bool k⟩
 | str k=>exact ⟨_,h,λ _=>.str k⟩
 | non=>exact ⟨_,h,λ _=>.none⟩
 | byt _=>exact h.elim
 | flt _=>exact h.elim
 | ref _=>exact h.elim
 | ty _=>exact h.elim
abbrev fI0 (f:Int->Int->V):G2:=λ x y Q=>match x,y with
 | .int i,.int j=>ofV (f i j) Q
 | _,_=>False
abbrev fI (C:Int->Int->Prop) (f:Int->Int->V):G2:=λ x y Q=>match x,y with
 | .int i,.int j=>C i j/\ofV (f i j) Q
 | _,_=>False
theorem ints_inv {ex:List Addr}{H:Hp}{dx dy:J8j}{x y:V}{A:Int->Int->Prop}(h:match dx,dy with | .int i,.int j=>A i j | _,_=>False) (r1:Rep ex H dx x) (r2:Rep ex H dy y):∃ i j,x = .int i/\y = .int j/\A i j:=by
 split at h
 . cases r1;cases r2;exact ⟨_,_,rfl,rfl,h⟩
 . exact h.elim
instance os_I0 {f:Int->Int->V}:OS (rI0 f) (fI0 f):=⟨λ {H x y dx dy Q P} r1 r2 h k=>by
 obtain ⟨i,j,rfl,rfl,h⟩:=ints_inv (A:=λ i j=>ofV (f i j) P) h r1 r2
 obtain ⟨d,p,r⟩:=Jpi (H:=H) h
 exact ⟨i,j,rfl,rfl,k _ _ p r⟩⟩
instance os_I {C:Int->Int->Prop}{f:Int->Int->V}:OS (rI C f) (fI C f):=⟨λ {H x y dx dy Q P} r1 r2 h k=>by
 obtain ⟨i,j,rfl,rfl,hc,h⟩:=ints_inv (A:=λ i j=>C i j/\ofV (f i j) P) h r1 r2
 obtain ⟨d,p,r⟩:=Jpi (H:=H) h
 exact ⟨i,j,rfl,rfl,hc,k _ _ p r⟩⟩
noncomputable def eqS:J8j->J8j->Option Bool
 | .int i,.int j=>some (decide (i=j))
 | .str a,.str b=>some (decide (a=b))
 | .bool a,.bool b=>some (decide (a=b))
 | .none,.none=>some true
 | .none,.int _ | .none,.bool _ | .none,.str _ | .int _,.none | .bool _,.none | .str _,.none=>some false
 | .int _,.str _ | .str _,.int _ | .bool _,.str _ | .str _,.bool _=>some false
 | _,_=>none
def fEq (neg:Bool):G2:=λ x y Q=>match eqS x y with
 | some c=>Q (.bool (if neg then !c else c))
 | none=>False
theorem Jsc {ex:List Addr}{H:Hp}{dx dy:J8j}{x y:V}{c:Bool}(h:eqS dx dy=some c) (r1:Rep ex H dx x) (r2:Rep ex H dy y):Jt9 x y=true/\decide (x=y)=c:=by
 cases r1<;>cases r2<;>simp [eqS] at h<;>subst h<;>simp [Jt9]
instance os_eq:OS rEq (fEq false):=⟨λ {H x y dx dy Q P} r1 r2 h k=>by
 unfold fEq at h
 split at h
 . rename_i c e
   obtain ⟨h1,h2⟩:=Jsc e r1 r2
   exact ⟨h1,by rw [h2];exact k _ _ h λ _=>.bool _⟩
 . exact h.elim⟩
instance os_ne:OS rNe (fEq true):=⟨λ {H x y dx dy Q P} r1 r2 h k=>by
 unfold fEq at h
 split at h
 . rename_i c e
   obtain ⟨h1,h2⟩:=Jsc e r1 r2
   exact ⟨h1,by rw [h2];exact k _ _ h λ _=>.bool _⟩
 . exact h.elim⟩
def J00 (x y:J8j):Prop:=x.canLay0=true/\y.canLay0=true/\min x.depth y.depth<=50
def Jus (neg:Bool):G2:=λ x y Q=>J00 x y/\Q (.bool (if neg then !X6 x y else X6 x y))
instance os_eqD:OS Jzc (Jus false):=⟨λ {H x y dx dy Q P} r1 r2 h k=>⟨[],dx,dy,r1,r2,h.1.1,h.1.2.1,h.1.2.2,k _ _ h.2 λ _=>.bool _⟩⟩
instance os_neD:OS Jzd (Jus true):=⟨λ {H x y dx dy Q P} r1 r2 h k=>⟨[],dx,dy,r1,r2,h.1.1,h.1.2.1,h.1.2.2,k _ _ h.2 λ _=>.bool _⟩⟩
noncomputable def Jdw:J8j->Bool
 | .none=>true
 | _=>false
abbrev J01 (neg:Bool):G2:=λ x y Q=>Jdw y=true/\Q (.bool (if neg then !Jdw x else Jdw x))
theorem Jqx {ex:List Addr}{H:Hp}{d:J8j}{v:V}(r:Rep ex H d v):decide (v = .non)=Jdw d:=by
 cases r<;>simp [Jdw]
theorem Jsd {ex:List Addr}{H:Hp}{d:J8j}{v:V}(r:Rep ex H d v) (h:Jdw d=true):v = .non:=by
 cases r<;>simp [Jdw] at h<;>rfl
instance os_isN:OS (λ x y H Q=>y = .non/\Q (.bl (decide (x = .non))) H) (J01 false):=⟨λ {H x y dx dy Q P} r1 r2 h k=>⟨Jsd r2 h.1,by rw [Jqx r1];exact k _ _ h.2 λ _=>.bool _⟩⟩
noncomputable def inD (x:J8j) (xs:List J8j):Bool:=xs.any λ y=>X6 y x
def fIn (neg:Bool):G2:=λ x y Q=>match y with
 | .list xs=>W6 x=true/\xs.all W6=true/\Q (.bool (if neg then !inD x xs else inD x xs))
 | .tuple xs=>W6 x=true/\xs.all W6=true/\Q (.bool (if neg then !inD x xs else inD x xs))
 | _=>False
theorem Jkq {ex:List Addr}{H:Hp}{d:J8j}{v:V}(r:Rep ex H d v) (h:W6 d=true):Jdn v=true:=by
 cases r<;>first | rfl | cases h
theorem Jhp {ex:List Addr}{H:Hp}:∀ {ds:List J8j}{vs:List V},Reps ex H ds vs->ds.all W6=true->vs.all Jdn=true
 | _,_,.nil,_=>rfl
 | _,_,.cons r t,h=>by
  simp only [J2d,Ua] at h ⊢
  exact ⟨Jkq r h.1,Jhp t h.2⟩
theorem Jxv {ex:List Addr}{H:Hp}{d e:J8j}{v w:V}(r:Rep ex H d v) (s:Rep ex H e w) (h:W6 d=true) (g:W6 e=true):eqV v w=X6 d e:=by
 cases r<;>cases s<;>first | rfl | (cases h;done) | (cases g;done) | simp [eqV,X6]
theorem Jse {ex:List Addr}{H:Hp}{d:J8j}{v:V}(r:Rep ex H d v) (h:W6 d=true):∀ {ds:List J8j}{vs:List V},Reps ex H ds vs->ds.all W6=true->inV v vs=inD d ds
 | _,_,.nil,_=>rfl
 | _,_,.cons s t,g=>by
  simp only [J2d,Ua] at g
  have:=Jse r h t g.2
  unfold inV inD at this ⊢
  rw [J23,J23,this,Jxv s r g.1 h]
instance os_in {K:Qc}{neg:Bool}:OS (rIn K neg) (fIn neg):=⟨λ {H x y dx dy Q P} r1 r2 h k=>by
 cases r2 with
 | list e _ _ rs=>exact ⟨_,_,rfl,.inl (SqL.of e),Jkq r1 h.1,Jhp rs h.2.1,by rw [Jse r1 h.1 rs h.2.1];exact k _ _ h.2.2 λ _=>.bool _⟩
 | tuple e _ _ rs=>exact ⟨_,_,rfl,.inr (SqT.of e),Jkq r1 h.1,Jhp rs h.2.1,by rw [Jse r1 h.1 rs h.2.1];exact k _ _ h.2.2 λ _=>.bool _⟩
 | none=>exact h.elim
 | obj=>exact h.elim
 | dctf=>exact h.elim
 | bool=>exact h.elim
 | int=>exact h.elim
 | str=>exact h.elim⟩
theorem Jkr {ex:List Addr}{H:Hp}{ds:List J8j}{vs:List V}{i:Int}{d:J8j}(r:Reps ex H ds vs) (h:atI ds i=some d):∃ v,atI vs i=some v/\Rep ex H d v:=by
 unfold atI at h ⊢
 rw [<- r.length]
 cases e:ixN ds.length i with
 | none=>rw [e] at h;cases h
 | some j=>rw [e] at h;exact r.get h
abbrev Jut:G2:=λ x y Q=>match x,y with
 | .list xs,.int i=>∃ d,atI xs i=some d/\Q d
 | _,_=>False
abbrev Jzo:G2:=λ x y Q=>match x,y with
 | .tuple xs,.int i=>∃ d,atI xs i=some d/\Q d
 | _,_=>False
instance ov_ixL {K:Qc}:OV (Jlw K) Jut:=⟨λ {ex H x y dx dy Q P} al r1 r2 h k=>by
 unfold Jut at h
 split at h
 . obtain ⟨d,e,p⟩:=h
   cases r2
   cases r1 with
   | list e1 _ _ rs=>
    obtain ⟨v,ev,r⟩:=Jkr rs e
    exact ⟨_,_,_,v,rfl,rfl,SqL.of e1,ev,k _ _ _ p .refl r⟩
 . exact h.elim⟩
instance ov_ixT {K:Qc}:OV (Jxi K) Jzo:=⟨λ {ex H x y dx dy Q P} al r1 r2 h k=>by
 unfold Jzo at h
 split at h
 . obtain ⟨d,e,p⟩:=h
   cases r2
   cases r1 with
   | tuple e1 _ _ rs=>
    obtain ⟨v,ev,r⟩:=Jkr rs e
    exact ⟨_,_,_,v,rfl,rfl,SqT.of e1,ev,k _ _ _ p .refl r⟩
 . exact h.elim⟩
abbrev Jzp (i:Nat) (gb:GE):GE:=λ env n Q=>match env[i]? with
 | some (.own xs)=>gb env n λ y n1=>Jut (.list xs) y λ d=>Q d n1
 | some (.d x)=>gb env n λ y n1=>Jut x y λ d=>Q d n1
 | _=>False
instance (priority:=high) ev_ixO {K:Qc}{i:Nat}{tb:TE}{gb:GE} [B:EV true tb gb]:EV true (tOp (Jlw K) (Z8 i) tb) (Jzp i gb):=⟨λ {S ex env σ H n Q P} E h k=>by
 unfold Jzp at h
 split at h
 . rename_i xs e
   obtain ⟨a,vs,ev,h1,h2,h3,h4,h5⟩:=E.sl i _ e
   refine ⟨_,Jt ev,B.ev E h λ y n1 v1 H1 hh s1 r1=>?_⟩
   cases r1 with
   | int j=>
    obtain ⟨d,ed,p⟩:=hh
    obtain ⟨v,ev2,r⟩:=Jkr (E.reps s1 h3) ed
    exact ⟨_,_,_,v,rfl,rfl,SqL.of (s1.1 _ _ h1 h5),ev2,k _ _ _ _ p s1 r⟩
   | none=>exact hh.elim
   | obj=>exact hh.elim
   | dctf=>exact hh.elim
   | bool=>exact hh.elim
   | str=>exact hh.elim
   | tuple=>exact hh.elim
   | list=>exact hh.elim
 . rename_i x e
   obtain ⟨v,ev,r⟩:=E.sl i _ e
   refine ⟨v,Jt ev,B.ev E h λ y n1 v1 H1 hh s1 r1=>?_⟩
   exact (ov_ixL (K:=K)).ov (E.step s1).al (E.rep s1 r) r1 hh λ d v H' p kp r=>k _ _ _ _ p (s1.then kp) r
 . exact h.elim⟩
instance on_rep:ON Jzb (λ x y Q=>match x,y with | .list xs,.int k=>(-(2^63)<=k/\k<2^63/\xs.length*k.toNat<=sizeLine)/\Q (Qp k.toNat xs).flatten | _,_=>False):=⟨λ {ex H x y dx dy Q P} r1 r2 h k=>by
 split at h
 . cases r1 with
   | list e1 _ _ rs=>
    cases r2
    have l1:=rs.length
    refine ⟨_,_,_,rfl,rfl,e1,h.1.1,h.1.2.1,by rw [<- l1];exact h.1.2.2,λ p hp=>k _ p _ h.2 hp ?_ (rs.rep _)⟩
    rw [Jeg,<- l1,J4v];exact h.1.2.2
 . exact h.elim⟩
def Jwh:G2:=λ x y Q=>match x,y with
 | .tuple xs,.int k=>xs≠[]/\-(2^63)<=k/\(xs.length:Int)*k<=sizeLine/\Q (.tuple (Qp k.toNat xs).flatten)
 | _,_=>False
instance ov_repT {K:Qc}:OV (Jr1 K) Jwh:=⟨λ {ex H x y dx dy Q P} al r1 r2 h k=>by
 unfold Jwh at h
 split at h
 . obtain ⟨h1,h2,h3,h4⟩:=h
   rename_i xs k0
   cases r2
   cases r1 with
   | tuple e1 n1 z1 rs=>
    have l1:=rs.length
    refine Jr3 e1 (λ z=>h1 (J34.mp (by rw [l1,z];rfl))) h2 (by rw [<- l1];exact h3) λ t H' kp ht hf=>k _ _ _ h4 kp (.tuple ht ?_ ?_ ((rs.rep _).keep kp.of))
    . rcases hf with rfl | hf
      . exact n1
      . exact al.nm hf
    . rw [Jeg,<- l1]
      rcases J14 k0 0 with hk | hk
      . rw [show k0.toNat=0 by omega];simp
      . have:((k0.toNat*xs.length:Nat):Int)<=sizeLine:=by rw [J43,Uz hk,Xb];exact h3
        exact_mod_cast this
 . exact h.elim⟩
def Jwi:G2:=λ x y Q=>match x,y with
 | .tuple xs,.tuple ys=>xs≠[]/\xs.length+ys.length<=sizeLine/\Q (.tuple (xs++ys))
 | _,_=>False
instance ov_catT {K:Qc}:OV (Jv9 K) Jwi:=⟨λ {ex H x y dx dy Q P} al r1 r2 h k=>by
 unfold Jwi at h
 split at h
 . obtain ⟨h1,h2,h3⟩:=h
   cases r1 with
   | tuple e1 n1 z1 rs=>
    cases r2 with
    | tuple e2 n2 z2 rs2=>
     have l1:=rs.length
     have l2:=rs2.length
     refine ⟨_,_,_,_,rfl,rfl,SqT.of e1,SqT.of e2,λ z=>h1 (J34.mp (by rw [l1,z];rfl)),by rw [<- l1,<- l2];exact h2,λ z=>?_,λ _ p hp=>k _ _ _ h3 (Kp.new hp _) (.tuple Jj (al.nm hp) (by rw [Xp,<- l1,<- l2];exact h2) ((rs.append rs2).keep (Kp.new hp _)))⟩
     subst z
     cases rs2
     rw [U3] at h3
     exact k _ _ _ h3 .refl (.tuple e1 n1 z1 rs)
 . exact h.elim⟩
abbrev Jzq:G1:=λ ds Q=>match ds with
 | [.list xs]=>Q (.int xs.length)
 | [.tuple xs]=>Q (.int xs.length)
 | _=>False
instance cs_len {K:Qc}:CS (λ xs H Q=>∃ p ys,xs=[.ref p]/\(SqL K H p ys\/SqT K H p ys)/\Q (.int ys.length) H) Jzq:=⟨λ {H xs ds Q P} r h k=>by
 unfold Jzq at h
 split at h
 . cases r with
   | cons r1 t=>
    cases t
    cases r1 with
    | list e _ _ rs=>exact ⟨_,_,rfl,.inl (SqL.of e),by rw [<- rs.length];exact k _ _ h λ _=>.int _⟩
 . cases r with
   | cons r1 t=>
    cases t
    cases r1 with
    | tuple e _ _ rs=>exact ⟨_,_,rfl,.inr (SqT.of e),by rw [<- rs.length];exact k _ _ h λ _=>.int _⟩
 . exact h.elim⟩
abbrev Jks (ds:List J8j) (Q:List J8j->Prop):Prop:=match ds with
 | [.list xs]=>Q xs
 | [.tuple xs]=>Q xs
 | _=>False
instance cn_list {K:Qc}:CN (λ xs H Q=>∃ p ys,xs=[.ref p]/\(SqL K H p ys\/SqT K H p ys)/\∀ l,H l=none->Q (.ref l) (upd H l (.lst ys))) Jks:=⟨λ {ex H xs ds Q P} r h k=>by
 unfold Jks at h
 split at h
 . cases r with
   | cons r1 t=>
    cases t
    cases r1 with
    | list e _ z rs=>exact ⟨_,_,rfl,.inl (SqL.of e),λ l hl=>k _ l _ h hl z rs⟩
 . cases r with
   | cons r1 t=>
    cases t
    cases r1 with
    | tuple e _ z rs=>exact ⟨_,_,rfl,.inr (SqT.of e),λ l hl=>k _ l _ h hl z rs⟩
 . exact h.elim⟩
abbrev Jl8:G1:=λ ds Q=>match ds with
 | [.list xs]=>Q (.tuple xs)
 | [.tuple xs]=>Q (.tuple xs)
 | _=>False
instance co_tuple {K:Qc}:CO (λ xs H Q=>∃ p ys,xs=[.ref p]/\((SqL K H p ys/\∀ l,H l=none->Q (.ref l) (upd H l (.tup ys)))\/(SqT K H p ys/\Q (.ref p) H))) Jl8:=⟨λ {ex H xs ds Q P} al r h k=>by
 unfold Jl8 at h
 split at h
 . cases r with
   | cons r1 t=>
    cases t
    cases r1 with
    | list e _ z rs=>exact ⟨_,_,rfl,.inl ⟨SqL.of e,λ l hl=>k _ _ _ h (Kp.new hl _) (.tuple Jj (al.nm hl) z (rs.keep (Kp.new hl _)))⟩⟩
 . cases r with
   | cons r1 t=>
    cases t
    cases r1 with
    | tuple e n z rs=>exact ⟨_,_,rfl,.inr ⟨SqT.of e,k _ _ _ h .refl (.tuple e n z rs)⟩⟩
 . exact h.elim⟩
def J02 (c:Bool):G1:=λ ds Q=>∃ ns:List Int,ds=[.list (ns.map .int)]/\c=true/\Q (.int ns.sum)
instance cs_sum {K:Qc}{c:Bool}:CS (λ xs H Q=>c=true/\∃ (p:Addr) (ns:List Int),xs=[.ref p]/\SqL K H p (ns.map V.int)/\Q (.int ns.sum) H) (J02 c):=⟨λ {H xs ds Q P} r h k=>by
 obtain ⟨ns,rfl,hc,q⟩:=h
 cases r with
 | cons r1 t=>
  cases t
  cases r1 with
  | list e _ _ rs=>
   cases rs.ints_inv
   exact ⟨hc,_,ns,rfl,SqL.of e,k _ _ q λ _=>.int _⟩⟩
theorem Reps.bools_inv {ex:List Addr}{H:Hp}:∀ {ns:List Bool}{vs:List V},Reps ex H (ns.map J5g) vs->vs=ns.map V.bl
 | [],_,.nil=>rfl
 | n::r,_,.cons (.bool _) t=>by rw [Reps.bools_inv t];rfl
def J03 (c:Bool):G1:=λ ds Q=>∃ bs:List Bool,ds=[.list (bs.map .bool)]/\c=true/\Q (.bool (bs.all id))
instance cs_all {K:Qc}{c:Bool}:CS (λ xs H Q=>c=true/\∃ (p:Addr) (bs:List Bool),xs=[.ref p]/\SqL K H p (bs.map V.bl)/\Q (.bl (bs.all id)) H) (J03 c):=⟨λ {H xs ds Q P} r h k=>by
 obtain ⟨ns,rfl,hc,q⟩:=h
 cases r with
 | cons r1 t=>
  cases t
  cases r1 with
  | list e _ _ rs=>
   cases Reps.bools_inv rs
   exact ⟨hc,_,ns,rfl,SqL.of e,k _ _ q λ _=>.bool _⟩⟩
def Jzr (tup:Bool):G1:=λ ds Q=>∃ ns:List Int,ds=[if tup then .tuple (ns.map .int) else .list (ns.map .int)]/\ns≠[]/\∀ m∈ns,(∀ n∈ns,m<=n)->Q (.int m)
instance cs_minL {K:Qc}:CS (λ xs H Q=>∃ (p:Addr) (ns:List Int),xs=[.ref p]/\SqL K H p (ns.map V.int)/\ns≠[]/\∀ m∈ns,(∀ n∈ns,m<=n)->Q (.int m) H) (Jzr false):=⟨λ {H xs ds Q P} r h k=>by
 obtain ⟨ns,rfl,hne,q⟩:=h
 cases r with
 | cons r1 t=>
  cases t
  cases r1 with
  | list e _ _ rs=>
   cases rs.ints_inv
   exact ⟨_,ns,rfl,SqL.of e,hne,λ m h1 h2=>k _ _ (q m h1 h2) λ _=>.int _⟩⟩
instance cs_minT {K:Qc}:CS (λ xs H Q=>∃ (p:Addr) (ns:List Int),xs=[.ref p]/\SqT K H p (ns.map V.int)/\ns≠[]/\∀ m∈ns,(∀ n∈ns,m<=n)->Q (.int m) H) (Jzr true):=⟨λ {H xs ds Q P} r h k=>by
 obtain ⟨ns,rfl,hne,q⟩:=h
 cases r with
 | cons r1 t=>
  cases t
  cases r1 with
  | tuple e _ _ rs=>
   cases rs.ints_inv
   exact ⟨_,ns,rfl,SqT.of e,hne,λ m h1 h2=>k _ _ (q m h1 h2) λ _=>.int _⟩⟩
abbrev Jzs (f:Int->Int->Int):G1:=λ ds Q=>match ds with
 | [.int i,.int j]=>Q (.int (f i j))
 | _=>False
theorem Jpj {ex:List Addr}{H:Hp}{ds:List J8j}{xs:List V}{A:Int->Int->Prop}(h:match ds with | [.int i,.int j]=>A i j | _=>False) (r:Reps ex H ds xs):∃ i j,xs=[.int i,.int j]/\A i j:=by
 split at h
 . cases r with
   | cons r1 t=>cases t with
    | cons r2 t=>cases t;cases r1;cases r2;exact ⟨_,_,rfl,h⟩
 . exact h.elim
instance cs_max2:CS (λ xs H Q=>∃ i j,xs=[.int i,.int j]/\Q (.int (if j>i then j else i)) H) (Jzs λ i j=>if j>i then j else i):=⟨λ {H xs ds Q P} r h k=>by
 obtain ⟨i,j,rfl,q⟩:=Jpj (A:=λ i j=>P (.int (if j>i then j else i))) h r
 exact ⟨i,j,rfl,k _ _ q λ _=>.int _⟩⟩
instance cs_min2:CS (λ xs H Q=>∃ i j,xs=[.int i,.int j]/\Q (.int (if j<i then j else i)) H) (Jzs λ i j=>if j<i then j else i):=⟨λ {H xs ds Q P} r h k=>by
 obtain ⟨i,j,rfl,q⟩:=Jpj (A:=λ i j=>P (.int (if j<i then j else i))) h r
 exact ⟨i,j,rfl,k _ _ q λ _=>.int _⟩⟩
abbrev Jl9 (T:String) (g:GE):GE:=λ env n Q=>g env n λ d n1=>noD d=true/\Q (.bool (Jgd d T)) n1
section
variable {b:Bool}{te:TE}{g:GE}
theorem Jg0 (T:String) (hT:T = "int"\/T = "bool"\/T = "str"\/T = "tuple"\/T = "list") [A:EV false te g]:EV b (tCB (λ xs H Q=>∃ ex d x T,xs=[x,.ty T]/\Rep ex H d x/\noD d=true/\(T = "int"\/T = "bool"\/T = "str"\/T = "tuple"\/T = "list")/\Q (.bl (Jgd d T)) H) (Yp te (Yp (tC (.ty T)) Jbd))) (Jl9 T g):=⟨λ {S ex env σ H n Q P} E h k=>
 A.ev E h λ d n1 v H1 h1 s1 r1=>⟨_,d,v,T,rfl,r1,h1.1,hT,k _ _ _ _ h1.2 s1 (.bool _)⟩⟩
instance (priority:=high) ev_instI [A:EV false te g]:EV b (tCB (λ xs H Q=>∃ ex d x T,xs=[x,.ty T]/\Rep ex H d x/\noD d=true/\(T = "int"\/T = "bool"\/T = "str"\/T = "tuple"\/T = "list")/\Q (.bl (Jgd d T)) H) (Yp te (Yp (tC (.ty "int")) Jbd))) (Jl9 "int" g):=Jg0 _ (by simp)
instance (priority:=high) ev_instB [A:EV false te g]:EV b (tCB (λ xs H Q=>∃ ex d x T,xs=[x,.ty T]/\Rep ex H d x/\noD d=true/\(T = "int"\/T = "bool"\/T = "str"\/T = "tuple"\/T = "list")/\Q (.bl (Jgd d T)) H) (Yp te (Yp (tC (.ty "bool")) Jbd))) (Jl9 "bool" g):=Jg0 _ (by simp)
instance (priority:=high) ev_instS [A:EV false te g]:EV b (tCB (λ xs H Q=>∃ ex d x T,xs=[x,.ty T]/\Rep ex H d x/\noD d=true/\(T = "int"\/T = "bool"\/T = "str"\/T = "tuple"\/T = "list")/\Q (.bl (Jgd d T)) H) (Yp te (Yp (tC (.ty "str")) Jbd))) (Jl9 "str" g):=Jg0 _ (by simp)
instance (priority:=high) ev_instT [A:EV false te g]:EV b (tCB (λ xs H Q=>∃ ex d x T,xs=[x,.ty T]/\Rep ex H d x/\noD d=true/\(T = "int"\/T = "bool"\/T = "str"\/T = "tuple"\/T = "list")/\Q (.bl (Jgd d T)) H) (Yp te (Yp (tC (.ty "tuple")) Jbd))) (Jl9 "tuple" g):=Jg0 _ (by simp)
abbrev gLR (t:GN):GN:=λ env n Q=>t env n λ ds n1=>∃ j:Int,ds=[.int j]/\0<=j/\j<=1000000/\Q ((Qf j.toNat).map λ (i:Nat)=>.int (i:Int)) n1
theorem Jma {ex:List Addr}{H:Hp}(f:Nat->Int):∀ l:List Nat,Reps ex H (l.map λ i=>.int (f i)) (l.map λ i=>.int (f i))
 | []=>.nil
 | _::r=>.cons (.int _) (Jma f r)
instance nv_lr {t:TA}{gt:GN} [A:DV true t gt]:NV (tLR t) (gLR gt):=⟨λ {S ex env σ H n Q P} E h k=>
 A.dv E h λ ds n1 vs H1 h1 s1 r1=>by
  obtain ⟨j,rfl,h2,h3,q⟩:=h1
  cases r1 with
  | cons r1 t=>
   cases t
   cases r1
   have hs:sizeLine=16777216:=J8p
   refine ⟨j,rfl,h2,h3,λ l hl=>?_⟩
   obtain ⟨c1,c2,c3⟩:=Jaf E s1 hl (Jma (λ i:Nat=>(i:Int)) (Qf j.toNat))
   exact k _ _ _ _ _ q c1 c2 Jj (by show ((Qf j.toNat).map _).length<=_;rw [Qb,Qw];omega) c3⟩
class OPV (t:TO) (g:outParam (List Vl->Nat->(Option Int->Nat->Prop)->Prop)):Prop where
 op:∀ {S:Src} {ex:List Addr} {env:List Vl} {σ:L2.St} {H:Hp} {n:Nat} {Q:Option Int->Hp->Prop} {P:Option Int->Nat->Prop},Ev S ex env σ H n->g env n P->(∀ o n' H',P o n'->Y6 S n' H H'->Q o H')->t σ H Q
instance op_no:OPV Jpb (λ _ n Q=>Q none n):=⟨λ E h k=>k _ _ _ h (.refl E.inv)⟩
abbrev Jzt (g:GE):List Vl->Nat->(Option Int->Nat->Prop)->Prop:=λ env n Q=>g env n λ d n1=>match d with
 | .int i=>Q (some i) n1
 | _=>False
instance op_part [A:EV false te g]:OPV (Jv8 te) (Jzt g):=⟨λ {S ex env σ H n Q P} E h k=>A.ev E h λ d n1 v H1 h1 s1 r1=>by
 cases r1 with
 | int i=>exact ⟨i,rfl,k _ _ _ h1 s1⟩
 | none=>exact h1.elim
 | obj=>exact h1.elim
 | dctf=>exact h1.elim
 | bool=>exact h1.elim
 | str=>exact h1.elim
 | tuple=>exact h1.elim
 | list=>exact h1.elim⟩
theorem Jsf {ex:List Addr}{H:Hp}{ds:List J8j}{vs:List V}(r:Reps ex H ds vs) (lo hi:Option Int):Reps ex H (Jei ds lo hi) (Jlv vs lo hi):=by
 unfold Jei Jlv
 rw [r.length]
 exact Reps.take _ (Reps.drop _ r)
abbrev Jxw (f f':G2) (ga gb gc:GE):GE:=λ env n Q=>ga env n λ x n1=>gb env n1 λ y n2=>f x y λ d=>match d with
 | .bool true=>gc env n2 λ z n3=>f' y z λ e=>Q e n3
 | .bool false=>Q (.bool false) n2
 | _=>False
instance ev_chain {r r':R2}{f f':G2}{ta tb tc:TE}{ga gb gc:GE} [O:OS r f] [O':OS r' f'] [A:EV false ta ga] [B:EV false tb gb] [C:EV false tc gc]:EV b (Jrp r r' ta tb tc) (Jxw f f' ga gb gc):=⟨λ {S ex env σ H n Q P} E h k=>by
 refine A.ev E h λ x n1 v1 H1 h1 s1 r1=>B.ev (E.step s1) h1 λ y n2 v2 H2 h2 s2 r2=>?_
 refine O.os (Rep.nil ((E.step s1).repm false s2 r1)) (Rep.nil r2) h2 λ d v p r=>?_
 cases r [] with
 | bool c=>
  refine ⟨c,rfl,?_⟩
  cases c with
  | true=>exact C.ev (E.step (s1.trans s2)) p λ z n3 v3 H3 h3 s3 r3=>O'.os (Rep.nil ((E.step (s1.trans s2)).repm false s3 r2)) (Rep.nil r3) h3 λ d v p r=>k _ _ _ _ p ((s1.trans s2).trans s3) (r _)
  | false=>exact k _ _ _ _ p (s1.trans s2) (.bool _)
 | none=>exact p.elim
 | obj=>exact p.elim
 | dctf=>exact p.elim
 | int=>exact p.elim
 | str=>exact p.elim
 | tuple=>exact p.elim
 | list=>exact p.elim⟩
end
def ItAt (ex:List Addr) (J:It) (items:List J8j) (H:Hp):Prop:=J.stop items.length H/\∀ (i:Nat) (d:J8j),items[i]? = some d->J.go i H/\∀ x H',J.yld i H x H'->Kp [] H H'/\Rep ex H' d x
class IV (wi:TI) (g:outParam GN):Prop where
 iv:∀ {S:Src} {ex:List Addr} {env:List Vl} {σ:L2.St} {H:Hp} {n:Nat} {R:It->Hp->Prop} {P:List J8j->Nat->Prop},Ev S ex env σ H n->g env n P ->
  (∀ items n' J (hd:List (J8j×V)) H',P items n'->Y6 S n' H H'->(∀ h∈hd,Rep ex H' h.1 h.2)->(∀ ex' H2,Alc ex' H2->(∀ h∈hd,Rep ex' H2 h.1 h.2)->ItAt ex' J items H2)->R J H')->wi σ H R
class IC (wi:TI) (g:outParam GN):Prop where
 ic:∀ {S:Src} {ex:List Addr} {env:List Vl} {σ:L2.St} {H:Hp} {n:Nat} {R:It->Hp->Prop} {P:List J8j->Nat->Prop},Ev S ex env σ H n->g env n P ->
  (∀ items n' J H',P items n'->Y6 S n' H H'->(∀ l H2,H' l=none->Kp (l::S.ch) H' H2->Alc (l::ex) H2->ItAt (l::ex) J items H2)->R J H')->wi σ H R
section
variable {K:Qc}{S:Src}{n m:Nat}{H H1 H2 H':Hp}{ex:List Addr}{env:List Vl}{σ:L2.St}{b:Bool}{te ta tb tc:TE}{g ga gb gc:GE}{wi:TI}{gi:GN}
theorem Jdc {l:Addr}(hc:∀ a∈S.ch,a∈ex) (k:Kp (l::S.ch) H H'):Kp (l::ex) H H':=k.mono λ b hb=>(Qh.mp hb).elim (λ e=>by rw [e];exact Qn) λ h=>Ql _ (hc b h)
instance (priority:=low) ic_iv [I:IV wi gi]:IC wi gi:=⟨λ {S ex env σ H n R P} E h k=>I.iv E h λ items n' J hd H' p s hr hit=>k _ _ _ _ p s λ l H2 hl kp al=>
 hit _ _ al λ x hx=>(Rep.add hl (hr x hx)).keep (Jdc E.ch kp)⟩
theorem Jkt {a:Addr}{vs:List V}{ds:List J8j}(ha:H a=some (.lst vs)) (r:Reps ex H ds vs):ItAt ex (Itl K a) ds H:=by
 refine ⟨⟨vs,SqL.of ha,by rw [r.length];exact Qm _⟩,λ i d e=>?_⟩
 obtain ⟨v,ev,rv⟩:=r.get e
 refine ⟨⟨vs,v,SqL.of ha,ev⟩,λ x H' y=>?_⟩
 obtain ⟨rfl,hx⟩:=y
 have:=hx vs (SqL.of ha)
 rw [ev] at this
 cases this
 exact ⟨.refl,rv⟩
theorem Jxx {a:Addr}{vs:List V}{ds:List J8j}(ha:H a=some (.tup vs)) (r:Reps ex H ds vs):ItAt ex (Itt K a) ds H:=by
 refine ⟨⟨vs,SqT.of ha,by rw [r.length];exact Qm _⟩,λ i d e=>?_⟩
 obtain ⟨v,ev,rv⟩:=r.get e
 refine ⟨⟨vs,v,SqT.of ha,ev⟩,λ x H' y=>?_⟩
 obtain ⟨rfl,hx⟩:=y
 have:=hx vs (SqT.of ha)
 rw [ev] at this
 cases this
 exact ⟨.refl,rv⟩
noncomputable def Ji5 (lo:Int) (k:Nat):List J8j:=(Qf k).map λ (i:Nat)=>.int (lo+(i:Int))
theorem Yn (lo:Int) (k:Nat):(Ji5 lo k).length=k:=by unfold Ji5;rw [Qb,Qw]
theorem Jxy {lo:Int}{k:Nat}:ItAt ex (Itr lo k) (Ji5 lo k) H:=by
 refine ⟨by rw [Yn];exact Qm _,λ i d e=>?_⟩
 have hi:i<k:=by
  have:=(Qs.mp e).1
  rw [Yn] at this
  exact this
 unfold Ji5 at e
 rw [Qk,Xi hi] at e
 cases e
 refine ⟨hi,λ x H' y=>?_⟩
 obtain ⟨rfl,rfl⟩:=y
 exact ⟨.refl,.int _⟩
noncomputable def Jn8:J8j->Option (List J8j)
 | .list xs=>some xs
 | .tuple xs=>some xs
 | _=>none
theorem Jek {d:J8j}{v:V}{ds:List J8j}(r:Rep ex H d v) (h:Jn8 d=some ds):∃ (c:Bool) (a:Addr) (vs:List V),v = .ref a/\(∀ K,SqK c K H a vs)/\Reps ex H ds vs/\((c=true/\H a=some (.tup vs))\/(c=false/\H a=some (.lst vs)))/\a∉ex:=by
 cases r with
 | tuple e n z rs=>cases h;exact ⟨true,_,_,rfl,λ K=>SqT.of e,rs,.inl ⟨rfl,e⟩,n⟩
 | list e n z rs=>cases h;exact ⟨false,_,_,rfl,λ K=>SqL.of e,rs,.inr ⟨rfl,e⟩,n⟩
 | none=>cases h
 | obj=>cases h
 | dctf=>cases h
 | bool=>cases h
 | int=>cases h
 | str=>cases h
noncomputable def Jck (ds:List J8j):List J8j:=ds.mapIdx λ i d=>.tuple [.int (i:Int),d]
theorem Jcl:(2:Nat)<=sizeLine:=by rw [J8p];decide
theorem Vj:(3:Nat)<=sizeLine:=by rw [J8p];decide
theorem Juu {c:Bool}{a:Addr}{vs:List V}{ds:List J8j}(al:Alc ex H) (ha:SqK c K H a vs) (r:Reps ex H ds vs):ItAt ex (Ite c K a) (Jck ds) H:=by
 unfold Jck
 refine ⟨⟨vs,ha,by rw [J67,r.length]⟩,λ i d e=>?_⟩
 rw [J36] at e
 cases hd:ds[i]? with
 | none=>rw [hd] at e;cases e
 | some d0=>
  rw [hd] at e
  cases e
  obtain ⟨v,ev,rv⟩:=r.get hd
  refine ⟨⟨vs,v,ha,ev⟩,λ x H' y=>?_⟩
  obtain ⟨p,y,hp,rfl,rfl,hy⟩:=y
  have:=hy vs ha
  rw [ev] at this
  cases this
  exact ⟨Kp.new hp _,.tuple Jj (al.nm hp) Jcl (.cons (.int _) (.cons (rv.keep (Kp.new hp _)) .nil))⟩
noncomputable def Ba (ds es:List J8j):List J8j:=J28 (λ x y=>.tuple [x,y]) ds es
theorem Jn9 {c c':Bool}{a a':Addr}{vs vs':List V}{ds es:List J8j}(al:Alc ex H) (ha:SqK c K H a vs) (r:Reps ex H ds vs) (ha':SqK c' K H a' vs') (r':Reps ex H es vs'):ItAt ex (Itz c c' K a a') (Ba ds es) H:=by
 unfold Ba
 refine ⟨⟨vs,vs',ha,ha',by rw [J37,r.length,r'.length]⟩,λ i d e=>?_⟩
 rw [J15] at e
 cases hd:ds[i]? with
 | none=>rw [hd] at e;cases e
 | some d0=>
  cases he:es[i]? with
  | none=>rw [hd,he] at e;cases e
  | some e0=>
   rw [hd,he] at e
   cases e
   obtain ⟨v,ev,rv⟩:=r.get hd
   obtain ⟨v',ev',rv'⟩:=r'.get he
   refine ⟨⟨vs,vs',v,v',ha,ha',ev,ev'⟩,λ x H' y=>?_⟩
   obtain ⟨p,y,y',hp,rfl,rfl,hy,hy'⟩:=y
   have:=hy vs ha
   rw [ev] at this
   cases this
   have:=hy' vs' ha'
   rw [ev'] at this
   cases this
   exact ⟨Kp.new hp _,.tuple Jj (al.nm hp) Jcl (.cons (rv.keep (Kp.new hp _)) (.cons (rv'.keep (Kp.new hp _)) .nil))⟩
abbrev Jwj (f:J8j->Option (List J8j)) (g:GE):GN:=λ env n Q=>g env n λ d n1=>match f d with
 | some ds=>Q ds n1
 | none=>False
noncomputable def J04:J8j->Option (List J8j)
 | .list xs=>some xs
 | _=>none
noncomputable def Jzu:J8j->Option (List J8j)
 | .tuple xs=>some xs
 | _=>none
instance iv_list [A:EV true te g]:IV (Jo6 K te) (Jwj J04 g):=⟨λ {S ex env σ H n R P} E h k=>A.ev E h λ d n1 v H1 h1 s1 r1=>by
 cases r1 with
 | list e m z rs=>
  refine ⟨_,rfl,⟨_,SqL.of e⟩,k _ _ _ [(Ur _,V.ref _)] _ h1 s1 (λ h hh=>by rw [Qu.mp hh];exact .list e m z rs) λ ex' H2 al hr=>?_⟩
  have:=hr _ (Qu.mpr rfl)
  cases this with
  | list e m z rs=>exact Jkt e rs
 | none=>exact h1.elim
 | obj=>exact h1.elim
 | dctf=>exact h1.elim
 | bool=>exact h1.elim
 | str=>exact h1.elim
 | int=>exact h1.elim
 | tuple=>exact h1.elim⟩
instance iv_tup [A:EV true te g]:IV (Jy6 K te) (Jwj Jzu g):=⟨λ {S ex env σ H n R P} E h k=>A.ev E h λ d n1 v H1 h1 s1 r1=>by
 cases r1 with
 | tuple e m z rs=>
  refine ⟨_,rfl,⟨_,SqT.of e⟩,k _ _ _ [(Us _,V.ref _)] _ h1 s1 (λ h hh=>by rw [Qu.mp hh];exact .tuple e m z rs) λ ex' H2 al hr=>?_⟩
  have:=hr _ (Qu.mpr rfl)
  cases this with
  | tuple e m z rs=>exact Jxx e rs
 | none=>exact h1.elim
 | obj=>exact h1.elim
 | dctf=>exact h1.elim
 | bool=>exact h1.elim
 | str=>exact h1.elim
 | int=>exact h1.elim
 | list=>exact h1.elim⟩
abbrev Jsg (i:Nat):GN:=λ env n Q=>match env[i]? with
 | some (.own xs)=>Q xs n
 | some (.d (.list xs))=>Q xs n
 | _=>False
instance (priority:=high) ic_own {i:Nat}:IC (Jo6 K (Z8 i)) (Jsg i):=⟨λ {S ex env σ H n R P} E h k=>by
 unfold Jsg at h
 split at h
 . rename_i xs e
   obtain ⟨a,vs,ev,h1,h2,h3,h4,h5⟩:=E.sl i _ e
   refine ⟨_,Jt ev,_,rfl,⟨_,SqL.of h1⟩,k _ _ _ _ h (.refl E.inv) λ l H2 hl kp al=>?_⟩
   have na:a≠l:=Jx h1 hl
   exact Jkt (kp _ _ h1 λ z=>(Qh.mp z).elim na h5) ((Reps.add hl h3).keep (Jdc E.ch kp))
 . rename_i xs e
   obtain ⟨v,ev,r⟩:=E.sl i _ e
   cases r with
   | list e1 m z rs=>
    refine ⟨_,Jt ev,_,rfl,⟨_,SqL.of e1⟩,k _ _ _ _ h (.refl E.inv) λ l H2 hl kp al=>?_⟩
    have:=(Rep.add hl (.list e1 m z rs)).keep (Jdc E.ch kp)
    cases this with
    | list e m z rs=>exact Jkt e rs
 . exact h.elim⟩
abbrev Jzv (t:GN):GN:=λ env n Q=>t env n λ ds n1=>∃ j:Int,ds=[.int j]/\(-(2^62)<=j/\j<2^62)/\Q (Ji5 0 j.toNat) n1
instance iv_rng1 {t:TA}{gt:GN} [A:DV false t gt]:IV (Jv3 t) (Jzv gt):=⟨λ {S ex env σ H n R P} E h k=>A.dv E h λ ds n1 vs H1 h1 s1 r1=>by
 obtain ⟨j,rfl,h2,q⟩:=h1
 cases r1 with
 | cons r1 t=>
  cases t
  cases r1
  exact ⟨j,rfl,h2.1,h2.2,k _ _ _ [] _ q s1 (λ h hh=>by cases hh) λ ex' H2 al _=>Jxy⟩⟩
abbrev Jzw (t:GN):GN:=λ env n Q=>t env n λ ds n1=>∃ d xs,ds=[d]/\Jn8 d=some xs/\Q (Jck xs) n1
abbrev J05 (t:GN):GN:=λ env n Q=>t env n λ ds n1=>∃ d e xs ys,ds=[d,e]/\Jn8 d=some xs/\Jn8 e=some ys/\Q (Ba xs ys) n1
theorem Jcm {d:J8j}{ds:List J8j}{c:Bool}{a:Addr}{vs:List V}(hs:Jn8 d=some ds) (hc:(c=true/\H a=some (.tup vs))\/(c=false/\H a=some (.lst vs))) (r:Rep ex H d (.ref a)) (ex':List Addr) (H2:Hp) (r2:Rep ex' H2 d (.ref a)):∃ vs',(∀ K,SqK c K H2 a vs')/\Reps ex' H2 ds vs':=by
 cases r2 with
 | obj=>cases hs
 | dctf=>cases hs
 | tuple e n z rs=>
  cases hs
  refine ⟨_,λ K=>?_,rs⟩
  rcases hc with ⟨rfl,_⟩ | ⟨_,h⟩
  . exact SqT.of e
  . cases r with | tuple e' _ _ _=>rw [h] at e';cases e'
 | list e n z rs=>
  cases hs
  refine ⟨_,λ K=>?_,rs⟩
  rcases hc with ⟨_,h⟩ | ⟨rfl,_⟩
  . cases r with | list e' _ _ _=>rw [h] at e';cases e'
  . exact SqL.of e
instance iv_enum {t:TA}{gt:GN} [A:DV true t gt]:IV (Jwc K t) (Jzw gt):=⟨λ {S ex env σ H n R P} E h k=>A.dv E h λ ds n1 vs H1 h1 s1 r1=>by
 obtain ⟨d,xs,rfl,hs,q⟩:=h1
 cases r1 with
 | cons r1 t=>
  cases t
  obtain ⟨c,a,ws,rfl,hq,rs,hc,na⟩:=Jek r1 hs
  refine ⟨c,a,ws,rfl,hq K,k _ _ _ [(d,V.ref a)] _ q s1 (λ h hh=>by rw [Qu.mp hh];exact r1) λ ex' H2 al hr=>?_⟩
  obtain ⟨vs',h3,h4⟩:=Jcm hs hc r1 ex' H2 (hr _ (Qu.mpr rfl))
  exact Juu al (h3 K) h4⟩
instance iv_zip {t:TA}{gt:GN} [A:DV true t gt]:IV (Jn4 K t) (J05 gt):=⟨λ {S ex env σ H n R P} E h k=>A.dv E h λ ds n1 vs H1 h1 s1 r1=>by
 obtain ⟨d,e,xs,ys,rfl,hs,hs',q⟩:=h1
 cases r1 with
 | cons r1 t=>
  cases t with
  | cons r2 t=>
   cases t
   obtain ⟨c,a,ws,rfl,hq,rs,hc,na⟩:=Jek r1 hs
   obtain ⟨c',a',ws',rfl,hq',rs',hc',na'⟩:=Jek r2 hs'
   refine ⟨c,c',a,a',ws,ws',rfl,hq K,hq' K,k _ _ _ [(d,V.ref a),(e,V.ref a')] _ q s1 (λ h hh=>?_) λ ex' H2 al hr=>?_⟩
   . rcases Qh.mp hh with e | hh
     . rw [e];exact r1
     . rw [Qu.mp hh];exact r2
   obtain ⟨v1,h3,h4⟩:=Jcm hs hc r1 ex' H2 (hr _ Qn)
   obtain ⟨v2,h5,h6⟩:=Jcm hs' hc' r2 ex' H2 (hr _ (Ql _ (Qu.mpr rfl)))
   exact Jn9 al (h3 K) h4 (h5 K) h6⟩
end
noncomputable def Jv (env:List Vl) (σ:L2.St) (i:Nat):List Addr:=match env[i]?,(σ[i]?).join with
 | some (.own _),some (.ref a)=>[a]
 | some (.dct _),some (.ref a)=>[a]
 | some (.own2 _ ps),some (.ref a)=>a::ps.map (·.1)
 | _,_=>[]
abbrev GG:=J8j->List Vl->(List Vl->Prop)->Prop
abbrev GGs:=List J8j->List Vl->(List Vl->Prop)->Prop
class GV (g:TG) (bd:outParam GG) (ks:outParam (List Nat)):Prop where
 gv:∀ {S:Src} {ex:List Addr} {env:List Vl} {σ:L2.St} {H:Hp} {n:Nat} {d:J8j} {v:V} {Q:L2.St->Hp->Prop} {P:List Vl->Prop},Ev S ex env σ H n->Rep ex H d v->bd d env P ->
  (∀ env' σ',P env'->Ev S ex env' σ' H n->(∀ i a,a∈Jv env' σ' i->a∈Jv env σ i)->(∀ i:Nat,i∉ks->σ'[i]? = σ[i]?)->σ'.length = σ.length->Q σ' H)->g v σ H Q
class GVs (g:TGs) (bd:outParam GGs) (ks:outParam (List Nat)):Prop where
 gvs:∀ {S:Src} {ex:List Addr} {env:List Vl} {σ:L2.St} {H:Hp} {n:Nat} {d:List J8j} {v:List V} {Q:L2.St->Hp->Prop} {P:List Vl->Prop},Ev S ex env σ H n->Reps ex H d v->bd d env P ->
  (∀ env' σ',P env'->Ev S ex env' σ' H n->(∀ i a,a∈Jv env' σ' i->a∈Jv env σ i)->(∀ i:Nat,i∉ks->σ'[i]? = σ[i]?)->σ'.length = σ.length->Q σ' H)->g v σ H Q
abbrev Jzx (i:Nat):GG:=λ d env P=>P (env.set i (.d d))
theorem Ev.put {S:Src}{ex:List Addr}{env:List Vl}{σ:L2.St}{H:Hp}{n i:Nat}{w:Vl}{v:V}(E:Ev S ex env σ H n) (h:SlR S ex H w (some v)):Ev S ex (env.set i w) (σ.set i (some v)) H n:=by
 refine ⟨by rw [Qq,Qq];exact E.len,λ j u e=>?_,E.ch,E.al,E.inv⟩
 by_cases hj:i=j
 . subst hj
   have hl:i<env.length:=by
    have:=(Qs.mp e).1
    rw [Qq] at this;exact this
   rw [Q9 hl] at e
   cases e
   rw [Q9 (Qz hl E.len)]
   exact h
 . rw [Q6 hj] at e ⊢
   exact E.sl j u e
theorem Jg1 {env:List Vl}{σ:L2.St}{i:Nat}{d:J8j}{v:V}:∀ j a,a∈Jv (env.set i (.d d)) (σ.set i (some v)) j->a∈Jv env σ j:=λ j a h=>by
 unfold Jv at h ⊢
 by_cases hj:i=j
 . subst hj
   by_cases hl:i<env.length
   . rw [Q9 hl] at h
     cases h
   . rw [Qx (by rw [Qq];omega)] at h
     cases h
 . rw [Q6 hj,Q6 hj] at h
   exact h
instance gv_name {i:Nat}:GV (B9 i) (Jzx i) [i]:=⟨λ {S ex env σ H n d v Q P} E r h k=>k _ _ h (E.put ⟨v,rfl,r⟩) Jg1 (λ j hj=>Q6 (λ z=>hj (by rw [z];exact Qu.mpr rfl))) Qq⟩
abbrev J06:GGs:=λ ds env P=>ds=[]/\P env
abbrev Jzy (t:GG) (u:GGs):GGs:=λ ds env P=>match ds with
 | d::r=>t d env λ env1=>u r env1 P
 | []=>False
instance gvs_nil:GVs L2.gNil J06 []:=⟨λ {S ex env σ H n d v Q P} E r h k=>by
 obtain ⟨rfl,h⟩:=h
 cases r
 exact ⟨rfl,k _ _ h E (λ _ _ h=>h) (λ _ _=>rfl) rfl⟩⟩
instance gvs_cons {t:TG}{u:TGs}{bt:GG}{bu:GGs}{k1 k2:List Nat} [A:GV t bt k1] [B:GVs u bu k2]:GVs (L2.gCons t u) (Jzy bt bu) (k1++k2):=⟨λ {S ex env σ H n d v Q P} E r h k=>by
 cases r with
 | nil=>exact h.elim
 | cons r1 t=>
  refine ⟨_,_,rfl,A.gv E r1 h λ env1 σ1 h1 E1 o1 f1 z1=>B.gvs E1 t h1 λ env2 σ2 h2 E2 o2 f2 z2=>k _ _ h2 E2 (λ i a ha=>o1 i a (o2 i a ha)) (λ i hi=>?_) (z2.trans z1)⟩
  rw [f2 i λ z=>hi (Xf _ z),f1 i λ z=>hi (Xn _ z)]⟩
abbrev J07 (k:Nat) (bs:GGs):GG:=λ d env P=>match d with
 | .tuple ds=>ds.length=k/\bs ds env P
 | _=>False
abbrev J08 (k:Nat) (bs:GGs):GG:=λ d env P=>match d with
 | .list ds=>ds.length=k/\bs ds env P
 | _=>False
instance gv_tup {K:Qc}{k:Nat}{t:TGs}{bs:GGs}{ks:List Nat} [A:GVs t bs ks]:GV (Jrj K k t) (J07 k bs) ks:=⟨λ {S ex env σ H n d v Q P} E r h k=>by
 cases r with
 | tuple e m z rs=>exact ⟨_,_,rfl,SqT.of e,by rw [<- rs.length];exact h.1,A.gvs E rs h.2 k⟩
 | none=>exact h.elim
 | obj=>exact h.elim
 | dctf=>exact h.elim
 | bool=>exact h.elim
 | str=>exact h.elim
 | int=>exact h.elim
 | list=>exact h.elim⟩
instance gv_lst {K:Qc}{k:Nat}{t:TGs}{bs:GGs}{ks:List Nat} [A:GVs t bs ks]:GV (Jr8 K k t) (J08 k bs) ks:=⟨λ {S ex env σ H n d v Q P} E r h k=>by
 cases r with
 | list e m z rs=>exact ⟨_,_,rfl,SqL.of e,by rw [<- rs.length];exact h.1,A.gvs E rs h.2 k⟩
 | none=>exact h.elim
 | obj=>exact h.elim
 | dctf=>exact h.elim
 | bool=>exact h.elim
 | str=>exact h.elim
 | int=>exact h.elim
 | tuple=>exact h.elim⟩
def Jhq (f:J8j->Nat->(Option J8j->Nat->Prop)->Prop):List J8j->Nat->(List J8j->Nat->Prop)->Prop
 | [],n,Q=>Q [] n
 | x::xs,n,Q=>f x n λ o n1=>Jhq f xs n1 λ ys n2=>Q (o.toList++ys) n2
noncomputable def Jdx (k:Nat) (idx:List Nat) (env:List Vl):List Vl:=Qp k .jnk++idx.map λ i=>(env[i]?).getD .jnk
abbrev Jwk (bd:GG) (gt:GT) (ge:GE) (env:List Vl):J8j->Nat->(Option J8j->Nat->Prop)->Prop:=λ x n Q=>bd x env λ env'=>gt env' n λ c n1=>if c=true then ge env' n1 λ y n2=>Q (some y) n2 else Q none n1
abbrev Jzz (gi:GN) (k:Nat) (idx:List Nat) (ks:List Nat) (bd:GG) (gt:GT) (ge:GE):GN:=λ env n Q=>gi env n λ items n1=>(ks.all (λ i=>decide (i<k))=true/\items.length<=sizeLine)/\Jhq (Jwk bd gt ge (Jdx k idx env)) items n1 Q
theorem SlR.add {S:Src}{ex:List Addr}{H:Hp}{l:Addr}{w:Vl}{o:Option V}(hl:H l=none) (h:SlR S ex H w o):SlR S (l::ex) H w o:=by
 cases w with
 | jnk=>trivial
 | jar=>exact h
 | tape=>exact h
 | d x=>obtain ⟨v,e,r⟩:=h;exact ⟨v,e,Rep.add hl r⟩
 | pin v x=>obtain ⟨e,r⟩:=h;exact ⟨e,Rep.add hl r⟩
 | own xs=>obtain ⟨a,vs,e,h1,h2,h3,h4,h5⟩:=h;exact ⟨a,vs,e,h1,h2,Reps.add hl h3,Ql _ h4,h5⟩
 | dct kvs=>obtain ⟨a,kws,e,h1,⟨h2,h3⟩,h4,h5⟩:=h;exact ⟨a,kws,e,h1,⟨h2,Reps.add hl h3⟩,Ql _ h4,h5⟩
 | own2 ks ps=>obtain ⟨a,e,q⟩:=h;exact ⟨a,e,q.h,q.z,q.k,q.nd,Ql _ q.m,q.c,λ p hp=>let w:=q.i p hp;⟨Ql _ w.m,w.c,let ⟨vs,h1,h2,h3⟩:=w.h;⟨vs,h1,h2,Reps.add hl h3⟩⟩⟩
theorem SlR.upd {S:Src}{ex:List Addr}{H:Hp}{l:Addr}{w:Vl}{o:Option V}{u:HO}(hl:l∈ex) (hn:∀ b∈Jv [w] [o] 0,b≠l) (h:SlR S ex H w o):SlR S ex (upd H l u) w o:=by
 cases w with
 | jnk=>trivial
 | jar=>exact h
 | tape=>exact h
 | d x=>obtain ⟨v,e,r⟩:=h;exact ⟨v,e,r.keep (Kp.at hl _)⟩
 | pin v x=>obtain ⟨e,r⟩:=h;exact ⟨e,r.keep (Kp.at hl _)⟩
 | own xs=>obtain ⟨a,vs,e,h1,h2,h3,h4,h5⟩:=h;subst e;exact ⟨a,vs,rfl,by rw [Jh (hn a Qn)];exact h1,h2,h3.keep (Kp.at hl _),h4,h5⟩
 | dct kvs=>obtain ⟨a,kws,e,h1,⟨h2,h3⟩,h4,h5⟩:=h;subst e;exact ⟨a,kws,rfl,by rw [Jh (hn a Qn)];exact h1,⟨h2,h3.keep (Kp.at hl _)⟩,h4,h5⟩
 | own2 ks ps=>obtain ⟨a,e,q⟩:=h;subst e;exact ⟨a,rfl,by rw [Jh (hn a Qn)];exact q.h,q.z,q.k,q.nd,q.m,q.c,λ p hp=>let w:=q.i p hp;⟨w.m,w.c,let ⟨vs,h1,h2,h3⟩:=w.h;⟨vs,by rw [Jh (hn p.1 (Ql _ (Qo.mpr ⟨p,hp,rfl⟩)))];exact h1,h2,h3.keep (Kp.at hl _)⟩⟩⟩
theorem Jhr {S:Src}{ex:List Addr}{env:List Vl}{σ:L2.St}{H:Hp}{n:Nat}(E:Ev S ex env σ H n) (k:Nat) (idx:List Nat):Ev S ex (Jdx k idx env) (Yv k idx σ) H n:=by
 refine ⟨by unfold Jdx Yv;simp,λ i w e=>?_,E.ch,E.al,E.inv⟩
 unfold Jdx at e
 by_cases hi:i<k
 . rw [Up (by simpa using hi),U4,if_pos hi] at e
   cases e
   trivial
 . rw [J1p (by simpa using J2e hi),Qk] at e
   rw [X3] at e
   cases hj:idx[i-k]? with
   | none=>rw [hj] at e;cases e
   | some j=>
    rw [hj] at e
    cases e
    have e2:(Yv k idx σ)[i]? = some ((σ[j]?).join):=by
     unfold Yv
     rw [J1p (by simpa using J2e hi),X3,Qk,hj];rfl
    rw [e2]
    show SlR S ex H ((env[j]?).getD .jnk) (σ[j]?).join
    cases hw:env[j]? with
    | none=>exact trivial
    | some w=>exact E.sl j w hw
theorem Juv {S:Src}{ex:List Addr}{je:List Vl}{σ0 σ':L2.St}{H1 H2:Hp}{n1 n2 k:Nat}{l:Addr}(E:Ev S ex je σ0 H1 n1) (hl:H1 l=none) (kp:Kp (l::S.ch) H1 H2) (h2:H2 l≠none) (iv:S.inv n2 H2) (hj:∀ j:Nat,j<k->je[j]? = none\/je[j]? = some .jnk) (hs:∀ j:Nat,k<=j->σ'[j]? = σ0[j]?) (hz:σ'.length = σ0.length):Ev S (l::ex) je σ' H2 n2:=by
 have hc:∀ a∈S.ch,a∈l::ex:=λ a h=>Ql _ (E.ch a h)
 have kx:Kp (l::ex) H1 H2:=Jdc E.ch kp
 refine ⟨by rw [hz];exact E.len,λ j w e=>?_,hc,λ a ha=>?_,iv⟩
 . by_cases hjk:j<k
   . rcases hj j hjk with h | h
     . rw [h] at e;cases e
     . rw [h] at e;cases e;trivial
   . rw [hs j (J2e hjk)]
     have h:=SlR.add hl (E.sl j w e)
     cases w with
     | jnk=>trivial
     | jar=>exact h
     | tape=>exact h
     | d x=>obtain ⟨v,e,r⟩:=h;exact ⟨v,e,r.keep kx⟩
     | pin v x=>obtain ⟨e,r⟩:=h;exact ⟨e,r.keep kx⟩
     | own xs=>obtain ⟨a,vs,e,h1,h2,h3,h4,h5⟩:=h;exact ⟨a,vs,e,kp _ _ h1 λ z=>(Qh.mp z).elim (Jx h1 hl) h5,h2,h3.keep kx,h4,h5⟩
     | dct kvs=>obtain ⟨a,kws,e,h1,⟨h2,h3⟩,h4,h5⟩:=h;exact ⟨a,kws,e,kp _ _ h1 λ z=>(Qh.mp z).elim (Jx h1 hl) h5,⟨h2,h3.keep kx⟩,h4,h5⟩
     | own2 ks ps=>obtain ⟨a,e,q⟩:=h;exact ⟨a,e,kp _ _ q.h λ z=>(Qh.mp z).elim (Jx q.h hl) q.c,q.z,q.k,q.nd,q.m,q.c,λ p hp=>let w:=q.i p hp;⟨w.m,w.c,let ⟨vs,h1,h2,h3⟩:=w.h;⟨vs,kp _ _ h1 λ z=>(Qh.mp z).elim (Jx h1 hl) w.c,h2,h3.keep kx⟩⟩⟩
 . rcases Qh.mp ha with rfl | ha
   . exact h2
   . by_cases hac:a∈S.ch
     . exact S.dom iv a hac
     . intro z
       cases e:H1 a with
       | none=>exact E.al a ha e
       | some o=>
        rw [kp a o e λ q=>(Qh.mp q).elim (Jx e hl) hac] at z
        cases z
theorem Jhs {k:Nat}{idx:List Nat}{env:List Vl}(j:Nat) (h:j<k):(Jdx k idx env)[j]? = none\/(Jdx k idx env)[j]? = some .jnk:=by
 right
 unfold Jdx
 rw [Up (by simpa using h),U4,if_pos h]
instance nv_comp {wi:TI}{gi:GN}{k:Nat}{idx ks:List Nat}{g:TG}{bd:GG}{tt:TT}{gt:GT}{te:TE}{ge:GE} [I:IC wi gi] [G:GV g bd ks] [T:TV tt gt] [A:EV true te ge]:NV (Jbe wi k idx g tt te) (Jzz gi k idx ks bd gt ge):=⟨λ {S ex env σ H n Q P} E h kk=>by
 refine I.ic E h λ items n1 J H1 hc s1 hit l hl=>?_
 obtain ⟨⟨hk,hz⟩,hc⟩:=hc
 have E1:=Jhr (E.step s1) k idx
 have lch:l∉S.ch:=λ z=>S.dom s1.2 l z hl
 have hkk:∀ i∈ks,i<k:=λ i hi=>of_decide_eq_true (X7.mp hk i hi)
 refine ⟨λ i m σ' H2=>i<=items.length/\m=items.length-i/\∃ (n2:Nat) (ds:List J8j) (vs:List V),Jhq (Jwk bd gt ge (Jdx k idx env)) (items.drop i) n2 (λ ys n'=>P (ds++ys) n')/\Kp (l::S.ch) H1 H2/\H2 l=some (.lst vs)/\vs.length<=i/\Reps (l::ex) H2 ds vs/\S.inv n2 H2/\(∀ j:Nat,k<=j->σ'[j]? = (Yv k idx σ)[j]?)/\σ'.length=(Yv k idx σ).length,
  ⟨items.length,Xu _,rfl,n1,[],[],by simpa using hc,Kp.new hl _,Jj,Qm _,.nil,S.keep s1.2 λ b _ o' e=>Kp.new (ex:=[]) hl _ _ _ e (by simp),λ _ _=>rfl,rfl⟩,?_⟩
 rintro i m σ' H2 ⟨hi,rfl,n2,ds,vs,hcm,kp,h2l,hvl,rs,iv2,hsl,hln⟩
 have E2:Ev S (l::ex) (Jdx k idx env) σ' H2 n2:=Juv E1 hl kp (by rw [h2l];intro z;cases z) iv2 Jhs hsl hln
 have IT:=hit l H2 hl kp E2.al
 rcases Uq i items.length with hlt | hge
 . refine .inr ⟨(IT.2 i items[i] (Qg hlt)).1,λ x H3 y=>?_⟩
   obtain ⟨kp3,rx⟩:=(IT.2 i items[i] (Qg hlt)).2 x H3 y
   rw [J5h hlt] at hcm
   have st3:Y6 S n2 H2 H3:=Y6.new E2.inv kp3
   have E3:=E2.step st3
   refine G.gv E3 rx hcm λ env' σ2 ht E4 _ hs hl2=>T.tv E4 ht λ c n4 H4 h4 s4=>?_
   have hs2:∀ j:Nat,k<=j->σ2[j]? = (Yv k idx σ)[j]?:=λ j hj=>by
    rw [hs j λ z=>by have:=hkk j z;omega];exact hsl j hj
   cases c with
   | true=>
    refine A.ev (E4.step s4) h4 λ d n5 v H5 h5 s5 r5=>?_
    have s25:=st3.trans (s4.trans s5)
    have k5:Kp S.ch H2 H5:=s25.1
    have h5l:H5 l=some (.lst vs):=k5 _ _ h2l lch
    refine ⟨vs,h5l,by omega,_,(?_:items.length-(i+1)<_),hlt,rfl,n5,ds++[d],vs++[v],?_,?_,Jj,?_,?_,?_,hs2,hl2.trans hln⟩
    . omega
    . simpa using h5
    . exact (kp.trans (k5.mono λ b hb=>Ql _ hb)).trans (Kp.at Qn _)
    . rw [Xp,J1y];omega
    . have q1:Reps (l::ex) H5 ds vs:=rs.keep (k5.mono E2.ch)
      exact (Reps.append q1 (.cons r5 .nil)).keep (Kp.at Qn _)
    . exact S.keep s25.2 λ b hb o e=>by rw [Jh (λ z=>lch (by rw [<- z];exact hb))];exact e
   | false=>
    have s24:=st3.trans s4
    refine ⟨_,(?_:items.length-(i+1)<_),hlt,rfl,n4,ds,vs,by simpa using h4,kp.trans (s24.1.mono λ b hb=>Ql _ hb),s24.1 _ _ h2l lch,by omega,rs.keep (s24.1.mono E2.ch),s24.2,hs2,hl2.trans hln⟩
    omega
 . have e:i=items.length:=by omega
   subst e
   rw [J5i] at hcm
   refine .inl ⟨IT.1,kk _ _ _ _ _ (by simpa [Jhq] using hcm) ⟨λ b o e nb=>kp b o (s1.1 b o e nb) λ z=>(Qh.mp z).elim (λ e2=>by rw [e2,s1.free hl] at e;cases e) nb,iv2⟩ (s1.free hl) h2l (Xc hvl hz) rs⟩⟩
structure VEnds where
 nx:List Vl->Nat->Prop
 rt:J8j->Nat->Prop
 rtn:List J8j->Nat->Prop
 bk:List Vl->Nat->Prop:=λ _ _=>False
 ct:List Vl->Nat->Prop:=λ _ _=>False
 xc:XK->Addr->Nat->Prop:=λ _ _ _=>False
 rt2:List (List J8j)->Nat->Prop:=λ _ _=>False
abbrev GS:=VEnds->List Vl->Nat->Prop
structure Cv where
 S:Src
 ex0:List Addr
 H0:Hp
 held:List (J8j×V)
structure At (C:Cv) (ex:List Addr) (env:List Vl) (σ:L2.St) (H:Hp) (n:Nat):Prop where
 ev:Ev C.S ex env σ H n
 ex0:∀ a∈C.ex0,a∈ex
 al0:Alc C.ex0 C.H0
 sep:∀ i j a,a∈Jv env σ i->a∈Jv env σ j->i=j
 new:∀ i a,a∈Jv env σ i->C.H0 a=none
 kp:Kp C.S.ch C.H0 H
 held:∀ h∈C.held,Rep ex H h.1 h.2
structure Ret (C:Cv) (d:J8j) (n:Nat) (v:V) (H:Hp):Prop where
 kp:Kp C.S.ch C.H0 H
 inv:C.S.inv n H
 r:Rep C.ex0 H d v
structure RetN (C:Cv) (ds:List J8j) (n:Nat) (a:Addr) (H:Hp):Prop where
 kp:Kp C.S.ch C.H0 H
 inv:C.S.inv n H
 fr:C.H0 a=none
 r:∃ vs,H a=some (.lst vs)/\vs.length<=sizeLine/\Reps (a::C.ex0) H ds vs
structure Ret2 (C:Cv) (ps:List (Addr×List J8j)) (n:Nat) (a:Addr) (H:Hp):Prop where
 kp:Kp C.S.ch C.H0 H
 inv:C.S.inv n H
 fr:C.H0 a=none
 frs:∀ p∈ps,C.H0 p.1=none
 o:Own2 C.S (a::ps.map (·.1)++C.ex0) H none ps a
structure EndsOk (C:Cv) (G:VEnds) (D:Ends):Prop where
 nx:∀ {ex env σ H n},At C ex env σ H n->G.nx env n->D.nx σ H
 bk:∀ {ex env σ H n},At C ex env σ H n->G.bk env n->D.bk σ H
 ct:∀ {ex env σ H n},At C ex env σ H n->G.ct env n->D.ct σ H
 rt:∀ {d n v H},Ret C d n v H->G.rt d n->D.rt v H
 rtn:∀ {ds n a H},RetN C ds n a H->G.rtn ds n->D.rt (.ref a) H
 xc:∀ {E c n H},Kp C.S.ch C.H0 H->C.S.inv n H->G.xc E c n->E (.ref c) none H
 r2:∀ {ps n a H},Ret2 C ps n a H->G.rt2 (ps.map (·.2)) n->D.rt (.ref a) H
class SV (ts:TS) (gs:outParam GS):Prop where
 sv:∀ {C:Cv} {G:VEnds} {D:Ends},EndsOk C G D->∀ {ex env σ H n},At C ex env σ H n->gs G env n->ts D σ H
section
variable {C:Cv}{ex:List Addr}{env:List Vl}{σ:L2.St}{H H':Hp}{n m:Nat}
theorem At.step (A:At C ex env σ H n) (s:Y6 C.S m H H'):At C ex env σ H' m:=⟨A.ev.step s,A.ex0,A.al0,A.sep,A.new,A.kp.trans s.1,λ h hh=>A.ev.rep s (A.held h hh)⟩
theorem Jcn {i:Nat}{a:Addr}(E:Ev C.S ex env σ H n) (h:a∈Jv env σ i):H a≠none/\a∈ex/\a∉C.S.ch:=by
 unfold Jv at h
 split at h
 . rename_i xs b e1 e2
   obtain ⟨c,vs,e,h1,h2,h3,h4,h5⟩:=E.sl i _ e1
   rw [e2] at e
   cases e
   rw [Qu.mp h]
   exact ⟨(by rw [h1];intro z;cases z),h4,h5⟩
 . rename_i xs b e1 e2
   obtain ⟨c,vs,e,h1,h2,h4,h5⟩:=E.sl i _ e1
   rw [e2] at e
   cases e
   rw [Qu.mp h]
   exact ⟨(by rw [h1];intro z;cases z),h4,h5⟩
 . rename_i ks ps b e1 e2
   obtain ⟨c,e,q⟩:=E.sl i _ e1
   rw [e2] at e
   cases e
   rcases Qh.mp h with rfl | h
   . exact ⟨(by rw [q.h];exact Xw _),q.m,q.c⟩
   . obtain ⟨p,hp,rfl⟩:=Qo.mp h
     have w:=q.i p hp
     obtain ⟨vs,h1,_⟩:=w.h
     exact ⟨(by rw [h1];exact Xw _),w.m,w.c⟩
 . cases h
theorem Jaw {α:Type}{l:List α}{i:Nat}{a b:α}(h:(l.set i a)[i]? = some b):b=a:=by
 have hl:=(Qs.mp h).1
 rw [Qq] at hl
 rw [Q9 hl] at h
 exact (Xr h).symm
theorem Jdd {j:Nat}{w:Vl}(e:env[j]? = some w):Jv env σ j=Jv [w] [(σ[j]?).join] 0:=by
 unfold Jv
 rw [e]
 rfl
theorem At.put (A:At C ex env σ H n) {i:Nat}{d:J8j}{v:V}(r:Rep ex H d v):At C ex (env.set i (.d d)) (σ.set i (some v)) H n:=
 ⟨A.ev.put ⟨v,rfl,r⟩,A.ex0,A.al0,λ j k a h1 h2=>A.sep j k a (Jg1 j a h1) (Jg1 k a h2),λ j a h=>A.new j a (Jg1 j a h),A.kp,A.held⟩
theorem At.bind (A:At C ex env σ H n) {env':List Vl}{σ':L2.St}(E:Ev C.S ex env' σ' H n) (o:∀ i a,a∈Jv env' σ' i->a∈Jv env σ i):At C ex env' σ' H n:=
 ⟨E,A.ex0,A.al0,λ j k a h1 h2=>A.sep j k a (o j a h1) (o k a h2),λ j a h=>A.new j a (o j a h),A.kp,A.held⟩
theorem At.free (A:At C ex env σ H n) {a:Addr}(h:H a=none):C.H0 a=none:=by
 cases e:C.H0 a with
 | none=>rfl
 | some o=>
  by_cases hp:a∈C.S.ch
  . exact absurd h (C.S.dom A.ev.inv a hp)
  . rw [A.kp a o e hp] at h;cases h
theorem Vq {i j:Nat}{w:Vl}{o:Option V}(h:i≠j):Jv (env.set i w) (σ.set i o) j=Jv env σ j:=by
 unfold Jv
 rw [Q6 h,Q6 h]
theorem Joa {i:Nat}{ds:List J8j}{a b:Addr}(h:b∈Jv (env.set i (.own ds)) (σ.set i (some (.ref a))) i):b=a:=by
 unfold Jv at h
 split at h
 . rename_i c e1 e2
   have e3:(σ.set i (some (.ref a)))[i]? = some (some (.ref c)):=Jt e2
   have:=Jaw e3
   cases this
   exact Qu.mp h
 . rename_i e1 e2
   have:=Jaw e1
   cases this
 . rename_i e1 e2
   have:=Jaw e1
   cases this
 . cases h
theorem At.own (A:At C ex env σ H n) {i:Nat}{ds:List J8j}{vs:List V}{a:Addr}(s:Y6 C.S m H H') (ha:H a=none) (hl:H' a=some (.lst vs)) (hz:vs.length<=sizeLine) (r:Reps (a::ex) H' ds vs) :
 At C (a::ex) (env.set i (.own ds)) (σ.set i (some (.ref a))) H' m:=by
 have ac:a∉C.S.ch:=λ z=>C.S.dom A.ev.inv a z ha
 have hc:∀ b∈C.S.ch,b∈a::ex:=λ b h=>Ql _ (A.ev.ch b h)
 have E1:Ev C.S (a::ex) env σ H' m:=by
  refine ⟨A.ev.len,λ j w e=>(SlR.add ha (A.ev.sl j w e)).kp hc s.1,hc,λ b hb=>?_,s.2⟩
  rcases Qh.mp hb with rfl | hb
  . rw [hl];intro z;cases z
  . exact A.ev.al.step s b hb
 refine ⟨E1.put ⟨a,vs,rfl,hl,hz,r,Qn,ac⟩,λ b h=>Ql _ (A.ex0 b h),A.al0,λ j k b h1 h2=>?_,λ j b h=>?_,A.kp.trans s.1,λ h hh=>(Rep.add ha (A.held h hh)).keep (s.1.mono hc)⟩
 . by_cases hj:i=j
   . subst hj
     have e:=Joa h1
     subst e
     by_cases hk:i=k
     . exact hk
     . rw [Vq hk] at h2
       exact absurd ha (Jcn A.ev h2).1
   . rw [Vq hj] at h1
     by_cases hk:i=k
     . subst hk
       have e:=Joa h2
       subst e
       exact absurd ha (Jcn A.ev h1).1
     . rw [Vq hk] at h2
       exact A.sep j k b h1 h2
 . by_cases hj:i=j
   . subst hj
     have e:=Joa h
     subst e
     exact A.free ha
   . rw [Vq hj] at h
     exact A.new j b h
theorem Jmb {i:Nat}{xs ys:List J8j}(h:env[i]? = some (.own xs)):∀ j,Jv (env.set i (.own ys)) σ j=Jv env σ j:=λ j=>by
 unfold Jv
 by_cases hj:i=j
 . subst hj
   rw [Q9 (Qs.mp h).1,h]
   cases (σ[i]?).join with
   | none=>rfl
   | some v=>cases v<;>rfl
 . rw [Q6 hj]
theorem At.re (A:At C ex env σ H n) {i:Nat}{xs ys:List J8j}{ws:List V}{a:Addr}(h:env[i]? = some (.own xs)) (hs:(σ[i]?).join=some (.ref a)) (r:Reps ex H ys ws) (hz:ws.length<=sizeLine) :
 At C ex (env.set i (.own ys)) σ (upd H a (.lst ws)) n:=by
 have ha:a∈Jv env σ i:=by unfold Jv;rw [h,hs];exact Qu.mpr rfl
 obtain ⟨h1,h2,h3⟩:=Jcn A.ev ha
 have h0:=A.new i a ha
 have kx:Kp ex H (upd H a (.lst ws)):=Kp.at h2 _
 refine ⟨⟨by rw [Qq];exact A.ev.len,λ j w e=>?_,A.ev.ch,λ b hb=>?_,C.S.keep A.ev.inv λ b hb o e=>by rw [Jh (λ z=>h3 (by rw [<- z];exact hb))];exact e⟩,A.ex0,A.al0,λ j k b q1 q2=>?_,λ j b q=>?_,Kp.late A.kp h0 _,λ x hx=>(A.held x hx).keep kx⟩
 . by_cases hj:i=j
   . subst hj
     rw [Q9 (Qs.mp h).1] at e
     cases e
     exact ⟨a,ws,hs,Jj,hz,r.keep kx,h2,h3⟩
   . rw [Q6 hj] at e
     exact SlR.upd h2 (λ b hb z=>hj (A.sep i j a ha (by rw [Jdd e,<- z];exact hb))) (A.ev.sl j w e)
 . by_cases hb2:b=a
   . rw [hb2,Jj];intro z;cases z
   . rw [Jh hb2];exact A.ev.al b hb
 . rw [Jmb h] at q1 q2;exact A.sep j k b q1 q2
 . rw [Jmb h] at q;exact A.new j b q
inductive Fz:List Vl->List Vl->Prop
 | refl {env:List Vl}:Fz env env
 | fz {env env':List Vl} (i:Nat) (xs:List J8j) (h:env[i]? = some (.own xs)) (t:Fz (env.set i (.d (.list xs))) env'):Fz env env'
 | jnk {env env':List Vl} (i:Nat) (t:Fz (env.set i .jnk) env'):Fz env env'
 | fz2 {env env':List Vl} (i:Nat) (ps:List (Addr×List J8j)) (h:env[i]? = some (.own2 none ps)) (t:Fz (env.set i (.d (.list (ps.map λ p=>.list p.2)))) env'):Fz env env'
 | fzh {env env':List Vl} (i:Nat) (ps:List (Addr×List J8j)) (h:env[i]? = some (.own2 none ps)) (t:Fz (env.set i (.own (ps.map λ p=>.list p.2))) env'):Fz env env'
theorem At.fz1 (A:At C ex env σ H n) {i:Nat}{xs:List J8j}(h:env[i]? = some (.own xs)):∃ ex',At C ex' (env.set i (.d (.list xs))) σ H n:=by
 obtain ⟨a,vs,e,h1,h2,h3,h4,h5⟩:=A.ev.sl i _ h
 have ha:a∈Jv env σ i:=by unfold Jv;rw [h,e];exact Qu.mpr rfl
 have hsub:∀ b∈ex.filter (λ b=>decide (b≠a)),b∈ex:=λ b hb=>(X8.mp hb).1
 have hin:∀ b∈ex,b≠a->b∈ex.filter (λ b=>decide (b≠a)):=λ b hb hn=>X8.mpr ⟨hb,decide_eq_true hn⟩
 have hn:a∉ex.filter (λ b=>decide (b≠a)):=λ z=>(of_decide_eq_true (X8.mp z).2) rfl
 have oo:∀ j b,b∈Jv (env.set i (.d (.list xs))) σ j->b∈Jv env σ j/\b≠a:=λ j b hb=>by
  by_cases hj:i=j
  . subst hj
    unfold Jv at hb
    rw [Q9 (Qs.mp h).1] at hb
    cases hb
  . have:Jv (env.set i (.d (.list xs))) σ j=Jv env σ j:=by unfold Jv;rw [Q6 hj]
    rw [this] at hb
    exact ⟨hb,λ z=>hj (A.sep i j a ha (by rw [<- z];exact hb))⟩
 refine ⟨ex.filter λ b=>decide (b≠a),⟨by rw [Qq];exact A.ev.len,λ j w ew=>?_,λ b hb=>hin b (A.ev.ch b hb) λ z=>h5 (by rw [<- z];exact hb),λ b hb=>A.ev.al b (hsub b hb),A.ev.inv⟩,λ b hb=>hin b (A.ex0 b hb) λ z=>?_,A.al0,λ j k b q1 q2=>A.sep j k b (oo j b q1).1 (oo k b q2).1,λ j b q=>A.new j b (oo j b q).1,A.kp,λ x hx=>Rep.mono hsub (A.held x hx)⟩
 . by_cases hj:i=j
   . subst hj
     rw [Q9 (Qs.mp h).1] at ew
     cases ew
     exact ⟨_,e,.list h1 hn h2 (Reps.mono hsub h3)⟩
   . rw [Q6 hj] at ew
     have q:=A.ev.sl j w ew
     have ne:∀ b∈Jv [w] [(σ[j]?).join] 0,b≠a:=λ b hb z=>hj (A.sep i j a ha (by rw [Jdd ew,<- z];exact hb))
     cases w with
     | jnk=>trivial
     | jar=>exact q
     | tape=>exact q
     | d x=>obtain ⟨v,e,r⟩:=q;exact ⟨v,e,Rep.mono hsub r⟩
     | pin v x=>obtain ⟨e,r⟩:=q;exact ⟨e,Rep.mono hsub r⟩
     | own ys=>obtain ⟨b,ws,e,g1,g2,g3,g4,g5⟩:=q;exact ⟨b,ws,e,g1,g2,Reps.mono hsub g3,hin b g4 (ne b (by rw [e];exact Qn)),g5⟩
     | dct kvs=>obtain ⟨b,ws,e,g1,⟨g2,g3⟩,g4,g5⟩:=q;exact ⟨b,ws,e,g1,⟨g2,Reps.mono hsub g3⟩,hin b g4 (ne b (by rw [e];exact Qn)),g5⟩
     | own2 ks ps=>obtain ⟨b,e,q⟩:=q;exact ⟨b,e,q.h,q.z,q.k,q.nd,hin b q.m (ne b (by rw [e];exact Qn)),q.c,λ p hp=>let w:=q.i p hp;⟨hin p.1 w.m (ne p.1 (by rw [e];exact Ql _ (Qo.mpr ⟨p,hp,rfl⟩))),w.c,let ⟨vs,h1,h2,h3⟩:=w.h;⟨vs,h1,h2,Reps.mono hsub h3⟩⟩⟩
 . subst z
   exact A.al0 b hb (A.new i b ha)
theorem At.fz2 (A:At C ex env σ H n) {i:Nat}{ps:List (Addr×List J8j)}(h:env[i]? = some (.own2 none ps)):∃ ex',At C ex' (env.set i (.d (.list (ps.map λ p=>.list p.2)))) σ H n:=by
 obtain ⟨a,e,o⟩:=A.ev.sl i _ h
 have hL:∀ b∈a::ps.map (·.1),b∈Jv env σ i:=λ b hb=>by unfold Jv;rw [h,e];exact hb
 have hsub:∀ b∈ex.filter (λ b=>decide (b∉a::ps.map (·.1))),b∈ex:=λ b hb=>(X8.mp hb).1
 have hin:∀ b∈ex,b∉a::ps.map (·.1)->b∈ex.filter (λ b=>decide (b∉a::ps.map (·.1))):=λ b hb hn=>X8.mpr ⟨hb,decide_eq_true hn⟩
 have hn:∀ b∈a::ps.map (·.1),b∉ex.filter (λ b=>decide (b∉a::ps.map (·.1))):=λ b hb z=>(of_decide_eq_true (X8.mp z).2) hb
 have hc:∀ b∈a::ps.map (·.1),b∉C.S.ch:=λ b hb=>by
  rcases Qh.mp hb with rfl | hb
  . exact o.c
  . obtain ⟨p,hp,rfl⟩:=Qo.mp hb;exact (o.i p hp).c
 have oo:∀ j b,b∈Jv (env.set i (.d (.list (ps.map λ p=>.list p.2)))) σ j->b∈Jv env σ j/\b∉a::ps.map (·.1):=λ j b hb=>by
  by_cases hj:i=j
  . subst hj
    unfold Jv at hb
    rw [Q9 (Qs.mp h).1] at hb
    cases hb
  . have:Jv (env.set i (.d (.list (ps.map λ p=>.list p.2)))) σ j=Jv env σ j:=by unfold Jv;rw [Q6 hj]
    rw [this] at hb
    exact ⟨hb,λ z=>hj (A.sep i j b (hL b z) hb)⟩
 refine ⟨ex.filter λ b=>decide (b∉a::ps.map (·.1)),⟨by rw [Qq];exact A.ev.len,λ j w ew=>?_,λ b hb=>hin b (A.ev.ch b hb) λ z=>hc b z hb,λ b hb=>A.ev.al b (hsub b hb),A.ev.inv⟩,λ b hb=>hin b (A.ex0 b hb) λ z=>?_,A.al0,λ j k b q1 q2=>A.sep j k b (oo j b q1).1 (oo k b q2).1,λ j b q=>A.new j b (oo j b q).1,A.kp,λ x hx=>Rep.mono hsub (A.held x hx)⟩
 . by_cases hj:i=j
   . subst hj
     rw [Q9 (Qs.mp h).1] at ew
     cases ew
     refine ⟨_,e,.list o.h (hn a Qn) (by unfold Wg;rw [Qb,J8p];have:=o.z;omega) ?_⟩
     have:∀ qs:List (Addr×List J8j),(∀ q∈qs,q∈ps)->Reps (ex.filter λ b=>decide (b∉a::ps.map (·.1))) H (qs.map λ p=>Ur p.2) (Wg qs):=by
      intro qs
      induction qs with
      | nil=>exact λ _=>.nil
      | cons q qs ih=>
       intro hq
       have hm:=hq q Qn
       obtain ⟨vs,g1,g2,g3⟩:=(o.i q hm).h
       exact .cons (.list g1 (hn q.1 (Ql _ (Qo.mpr ⟨q,hm,rfl⟩))) g2 (Reps.mono hsub g3)) (ih λ x hx=>hq x (Ql _ hx))
     exact this ps λ _ h=>h
   . rw [Q6 hj] at ew
     have q:=A.ev.sl j w ew
     have ne:∀ b∈Jv [w] [(σ[j]?).join] 0,b∉a::ps.map (·.1):=λ b hb z=>hj (A.sep i j b (hL b z) (by rw [Jdd ew];exact hb))
     cases w with
     | jnk=>trivial
     | jar=>exact q
     | tape=>exact q
     | d x=>obtain ⟨v,e,r⟩:=q;exact ⟨v,e,Rep.mono hsub r⟩
     | pin v x=>obtain ⟨e,r⟩:=q;exact ⟨e,Rep.mono hsub r⟩
     | own ys=>obtain ⟨b,ws,e,g1,g2,g3,g4,g5⟩:=q;exact ⟨b,ws,e,g1,g2,Reps.mono hsub g3,hin b g4 (ne b (by rw [e];exact Qn)),g5⟩
     | dct kvs=>obtain ⟨b,ws,e,g1,⟨g2,g3⟩,g4,g5⟩:=q;exact ⟨b,ws,e,g1,⟨g2,Reps.mono hsub g3⟩,hin b g4 (ne b (by rw [e];exact Qn)),g5⟩
     | own2 ks qs=>obtain ⟨b,e,q⟩:=q;exact ⟨b,e,q.h,q.z,q.k,q.nd,hin b q.m (ne b (by rw [e];exact Qn)),q.c,λ p hp=>let w:=q.i p hp;⟨hin p.1 w.m (ne p.1 (by rw [e];exact Ql _ (Qo.mpr ⟨p,hp,rfl⟩))),w.c,let ⟨vs,h1,h2,h3⟩:=w.h;⟨vs,h1,h2,Reps.mono hsub h3⟩⟩⟩
 . exact A.al0 b hb (A.new i b (hL b z))
theorem At.fzh (A:At C ex env σ H n) {i:Nat}{ps:List (Addr×List J8j)}(h:env[i]? = some (.own2 none ps)):∃ ex',At C ex' (env.set i (.own (ps.map λ p=>.list p.2))) σ H n:=by
 obtain ⟨a,e,o⟩:=A.ev.sl i _ h
 have hL:∀ b∈ps.map (·.1),b∈Jv env σ i:=λ b hb=>by unfold Jv;rw [h,e];exact Ql _ hb
 have hsub:∀ b∈ex.filter (λ b=>decide (b∉ps.map (·.1))),b∈ex:=λ b hb=>(X8.mp hb).1
 have hin:∀ b∈ex,b∉ps.map (·.1)->b∈ex.filter (λ b=>decide (b∉ps.map (·.1))):=λ b hb hn=>X8.mpr ⟨hb,decide_eq_true hn⟩
 have hn:∀ b∈ps.map (·.1),b∉ex.filter (λ b=>decide (b∉ps.map (·.1))):=λ b hb z=>(of_decide_eq_true (X8.mp z).2) hb
 have hc:∀ b∈ps.map (·.1),b∉C.S.ch:=λ b hb=>by
  obtain ⟨p,hp,rfl⟩:=Qo.mp hb;exact (o.i p hp).c
 have ha:a∈Jv env σ i:=by unfold Jv;rw [h,e];exact Qn
 have hna:a∉ps.map (·.1):=(Xz.mp o.nd).1
 have oo:∀ j b,b∈Jv (env.set i (.own (ps.map λ p=>.list p.2))) σ j->b∈Jv env σ j/\b∉ps.map (·.1):=λ j b hb=>by
  by_cases hj:i=j
  . subst hj
    unfold Jv at hb
    rw [Q9 (Qs.mp h).1,e] at hb
    have hb':b=a:=Qu.mp hb
    rw [hb']
    exact ⟨ha,hna⟩
  . have:Jv (env.set i (.own (ps.map λ p=>.list p.2))) σ j=Jv env σ j:=by unfold Jv;rw [Q6 hj]
    rw [this] at hb
    exact ⟨hb,λ z=>hj (A.sep i j b (hL b z) hb)⟩
 refine ⟨ex.filter λ b=>decide (b∉ps.map (·.1)),⟨by rw [Qq];exact A.ev.len,λ j w ew=>?_,λ b hb=>hin b (A.ev.ch b hb) λ z=>hc b z hb,λ b hb=>A.ev.al b (hsub b hb),A.ev.inv⟩,λ b hb=>hin b (A.ex0 b hb) λ z=>?_,A.al0,λ j k b q1 q2=>A.sep j k b (oo j b q1).1 (oo k b q2).1,λ j b q=>A.new j b (oo j b q).1,A.kp,λ x hx=>Rep.mono hsub (A.held x hx)⟩
 . by_cases hj:i=j
   . subst hj
     rw [Q9 (Qs.mp h).1] at ew
     cases ew
     refine ⟨a,Wg ps,e,o.h,by unfold Wg;rw [Qb,J8p];have:=o.z;omega,?_,hin a o.m hna,o.c⟩
     have:∀ qs:List (Addr×List J8j),(∀ q∈qs,q∈ps)->Reps (ex.filter λ b=>decide (b∉ps.map (·.1))) H (qs.map λ p=>Ur p.2) (Wg qs):=by
      intro qs
      induction qs with
      | nil=>exact λ _=>.nil
      | cons q qs ih=>
       intro hq
       have hm:=hq q Qn
       obtain ⟨vs,g1,g2,g3⟩:=(o.i q hm).h
       exact .cons (.list g1 (hn q.1 (Qo.mpr ⟨q,hm,rfl⟩)) g2 (Reps.mono hsub g3)) (ih λ x hx=>hq x (Ql _ hx))
     exact this ps λ _ h=>h
   . rw [Q6 hj] at ew
     have q:=A.ev.sl j w ew
     have ne:∀ b∈Jv [w] [(σ[j]?).join] 0,b∉ps.map (·.1):=λ b hb z=>hj (A.sep i j b (hL b z) (by rw [Jdd ew];exact hb))
     cases w with
     | jnk=>trivial
     | jar=>exact q
     | tape=>exact q
     | d x=>obtain ⟨v,e,r⟩:=q;exact ⟨v,e,Rep.mono hsub r⟩
     | pin v x=>obtain ⟨e,r⟩:=q;exact ⟨e,Rep.mono hsub r⟩
     | own ys=>obtain ⟨b,ws,e,g1,g2,g3,g4,g5⟩:=q;exact ⟨b,ws,e,g1,g2,Reps.mono hsub g3,hin b g4 (ne b (by rw [e];exact Qn)),g5⟩
     | dct kvs=>obtain ⟨b,ws,e,g1,⟨g2,g3⟩,g4,g5⟩:=q;exact ⟨b,ws,e,g1,⟨g2,Reps.mono hsub g3⟩,hin b g4 (ne b (by rw [e];exact Qn)),g5⟩
     | own2 ks qs=>obtain ⟨b,e,q⟩:=q;exact ⟨b,e,q.h,q.z,q.k,q.nd,hin b q.m (ne b (by rw [e];exact Qn)),q.c,λ p hp=>let w:=q.i p hp;⟨hin p.1 w.m (ne p.1 (by rw [e];exact Ql _ (Qo.mpr ⟨p,hp,rfl⟩))),w.c,let ⟨vs,h1,h2,h3⟩:=w.h;⟨vs,h1,h2,Reps.mono hsub h3⟩⟩⟩
 . exact A.al0 b hb (A.new i b (hL b z))
theorem At.jnk (A:At C ex env σ H n) (i:Nat):At C ex (env.set i .jnk) σ H n:=by
 have oo:∀ j b,b∈Jv (env.set i .jnk) σ j->b∈Jv env σ j:=λ j b hb=>by
  by_cases hj:i=j
  . subst hj
    unfold Jv at hb
    by_cases hl:i<env.length
    . rw [Q9 hl] at hb;cases hb
    . rw [Qx (by rw [Qq];omega)] at hb;cases hb
  . have:Jv (env.set i .jnk) σ j=Jv env σ j:=by unfold Jv;rw [Q6 hj]
    rw [this] at hb
    exact hb
 refine A.bind ⟨by rw [Qq];exact A.ev.len,λ j w e=>?_,A.ev.ch,A.ev.al,A.ev.inv⟩ oo
 by_cases hj:i=j
 . subst hj
   have hl:i<env.length:=by
    have:=(Qs.mp e).1
    rw [Qq] at this;exact this
   rw [Q9 hl] at e
   cases e
   trivial
 . rw [Q6 hj] at e
   exact A.ev.sl j w e
theorem At.fz {env':List Vl}(f:Fz env env'):∀ {ex:List Addr},At C ex env σ H n->∃ ex',At C ex' env' σ H n:=by
 induction f with
 | refl=>exact λ A=>⟨_,A⟩
 | fz i xs h t ih=>exact λ A=>let ⟨_,B⟩:=A.fz1 h;ih B
 | jnk i t ih=>exact λ A=>ih (A.jnk i)
 | fz2 i ps h t ih=>exact λ A=>let ⟨_,B⟩:=A.fz2 h;ih B
 | fzh i ps h t ih=>exact λ A=>let ⟨_,B⟩:=A.fzh h;ih B
end
section
variable {te ta:TE}{ge ga:GE}{gn:GN}{t u tb:TS}{gt gu gb:GS}{i j:Nat}{K:Qc}
instance sv_next:SV Jo5 (λ G env n=>G.nx env n):=⟨λ {C G D} O {ex env σ H n} A h=>O.nx A h⟩
abbrev Jxz (t u:GS):GS:=λ G env n=>t { G with nx:=λ env1 n1=>∃ env2,Fz env1 env2/\u G env2 n1 } env n
instance sv_seq [T:SV t gt] [U:SV u gu]:SV (Ja5 t u) (Jxz gt gu):=⟨λ {C G D} O {ex env σ H n} A h=>by
 refine T.sv (C:=C) (G:={ G with nx:=λ env1 n1=>∃ env2,Fz env1 env2/\gu G env2 n1 }) (D:={ D with nx:=u D }) ⟨λ {ex1 env1 σ1 H1 n1} A1 h1=>?_,O.bk,O.ct,O.rt,O.rtn,O.xc,O.r2⟩ A h
 obtain ⟨env2,f,h2⟩:=h1
 obtain ⟨ex2,A2⟩:=A1.fz f
 exact U.sv O A2 h2⟩
abbrev J09 (i:Nat) (g:GE):GS:=λ G env n=>g env n λ d n1=>G.nx (env.set i (.d d)) n1
abbrev Jwl (i:Nat) (g:GN):GS:=λ G env n=>g env n λ ds n1=>G.nx (env.set i (.own ds)) n1
instance sv_setN [E:NV te gn]:SV (Jfd te (B9 i)) (Jwl i gn):=⟨λ {C G D} O {ex env σ H n} A h=>E.nv A.ev h λ ds n1 a vs H1 h1 s1 ha hl hz r=>O.nx (A.own s1 ha hl hz r) h1⟩
instance (priority:=low) sv_set [E:EV true te ge]:SV (Jfd te (B9 i)) (J09 i ge):=⟨λ {C G D} O {ex env σ H n} A h=>E.ev A.ev h λ d n1 v H1 h1 s1 r=>O.nx ((A.step s1).put r) h1⟩
instance sv_setC {wi:TI}{k:Nat}{idx:List Nat}{g:TG}{tt:TT} [E:NV (Jbe wi k idx g tt te) gn]:SV (Bo i wi k idx g tt te) (Jwl i gn):=⟨λ {C G D} O {ex env σ H n} A h=>
 show Jbe wi k idx g tt te σ H (λ v H2=>D.nx (σ.set i (some v)) H2) from E.nv A.ev h λ ds n1 a vs H1 h1 s1 ha hl hz r=>O.nx (A.own s1 ha hl hz r) h1⟩
abbrev J1a (bd:GG) (g:GE):GS:=λ G env n=>g env n λ d n1=>bd d env λ env1=>G.nx env1 n1
instance (priority:=low) sv_asg {g:TG}{bd:GG}{ks:List Nat} [E:EV true te ge] [B:GV g bd ks]:SV (Jfd te g) (J1a bd ge):=⟨λ {C G D} O {ex env σ H n} A h=>E.ev A.ev h λ d n1 v H1 h1 s1 r=>
 B.gv (A.step s1).ev r h1 λ env' σ' p E' o _ _=>O.nx ((A.step s1).bind E' o) p⟩
abbrev J1b (g:GE):GS:=λ G env n=>g env n λ d n1=>G.rt d n1
abbrev Jz0 (g:GN):GS:=λ G env n=>g env n λ ds n1=>G.rtn ds n1
abbrev Jwm (i:Nat):GS:=λ G env n=>match env[i]? with
 | some (.d x)=>G.rt x n
 | some (.own xs)=>G.rtn xs n
 | _=>False
instance (priority:=low) sv_ret [E:EV true te ge]:SV (Jt7 te) (J1b ge):=⟨λ {C G D} O {ex env σ H n} A h=>E.ev A.ev h λ d n1 v H1 h1 s1 r=>O.rt ⟨(A.step s1).kp,s1.2,Rep.mono A.ex0 r⟩ h1⟩
instance sv_retN [E:NV te gn]:SV (Jt7 te) (Jz0 gn):=⟨λ {C G D} O {ex env σ H n} A h=>E.nv A.ev h λ ds n1 a vs H1 h1 s1 ha hl hz r=>
 O.rtn ⟨(A.step s1).kp,s1.2,A.free ha,vs,hl,hz,Reps.mono (λ b hb=>(Qh.mp hb).elim (λ e=>by rw [e];exact Qn) λ h=>Ql _ (A.ex0 b h)) r⟩ h1⟩
instance (priority:=high) sv_retV:SV (Jt7 (Z8 i)) (Jwm i):=⟨λ {C G D} O {ex env σ H n} A h=>by
 unfold Jwm at h
 split at h
 . rename_i x e
   obtain ⟨v,ev,r⟩:=A.ev.sl i _ e
   exact ⟨v,Jt ev,O.rt ⟨A.kp,A.ev.inv,Rep.mono A.ex0 r⟩ h⟩
 . rename_i xs e
   obtain ⟨a,vs,ev,h1,h2,h3,h4,h5⟩:=A.ev.sl i _ e
   have ha:a∈Jv env σ i:=by unfold Jv;rw [e,ev];exact Qu.mpr rfl
   obtain ⟨ex',A'⟩:=A.fz1 e
   obtain ⟨v',ev',r'⟩:=A'.ev.sl i _ (Q9 (Qs.mp e).1)
   rw [ev] at ev'
   cases ev'
   have:=A.new i a ha
   refine ⟨_,Jt ev,O.rtn ⟨A.kp,A.ev.inv,this,vs,h1,h2,Reps.mono (λ b hb=>?_) h3⟩ h⟩
   rcases Qh.mp hb with rfl | hb
   . exact h4
   . exact A.ex0 b hb
 . exact h.elim⟩
abbrev J1c (c:GT) (t u:GS):GS:=λ G env n=>c env n λ b n1=>if b=true then t G env n1 else u G env n1
instance sv_if {c:TT}{gc:GT} [X:TV c gc] [T:SV t gt] [U:SV u gu]:SV (Jy2 c t u) (J1c gc gt gu):=⟨λ {C G D} O {ex env σ H n} A h=>X.tv A.ev h λ b n1 H1 h1 s1=>by
 cases b with
 | true=>exact T.sv O (A.step s1) h1
 | false=>exact U.sv O (A.step s1) h1⟩
abbrev J1d (gi:GN) (bd:GG) (gb:GS):GS:=λ G env n=>gi env n λ items n1=>∃ W:Nat->List Vl->Nat->Prop,W 0 env n1 /\
 (∀ i x env n,items[i]? = some x->W i env n->bd x env λ env1=>gb { G with nx:=W (i+1),ct:=W (i+1),bk:=G.nx } env1 n)/\∀ env n,W items.length env n->G.nx env n
instance sv_for {wi:TI}{gi:GN}{g:TG}{bd:GG}{ks:List Nat} [I:IV wi gi] [B:GV g bd ks] [T:SV tb gb]:SV (Jy7 wi g tb) (J1d gi bd gb):=⟨λ {C G D} O {ex env σ H n} A h=>I.iv A.ev h λ items n1 J hd H1 h1 s1 hr hit=>by
 obtain ⟨W,w0,wt,wd⟩:=h1
 have A1:=A.step s1
 have dropd:∀ {ex2 env2 σ2 H2 n2},At { C with held:=hd++C.held } ex2 env2 σ2 H2 n2->At C ex2 env2 σ2 H2 n2:=λ {_ _ _ _ _} B=>⟨B.ev,B.ex0,B.al0,B.sep,B.new,B.kp,λ h hh=>B.held h (Xf _ hh)⟩
 refine ⟨λ i m σ2 H2=>i<=items.length/\m=items.length-i/\∃ ex2 env2 n2,At { C with held:=hd++C.held } ex2 env2 σ2 H2 n2/\W i env2 n2,⟨_,Xu _,rfl,ex,env,n1,⟨A1.ev,A1.ex0,A1.al0,A1.sep,A1.new,A1.kp,λ h hh=>(Xk.mp hh).elim (hr h) (A1.held h)⟩,w0⟩,?_⟩
 rintro i m σ2 H2 ⟨hi,rfl,ex2,env2,n2,A2,w2⟩
 have IT:=hit ex2 H2 A2.ev.al λ h hh=>A2.held h (Xn _ hh)
 rcases Uq i items.length with hlt | hge
 . refine .inr ⟨(IT.2 i items[i] (Qg hlt)).1,λ σ' H'=>∃ ex3 env3 n3,At { C with held:=hd++C.held } ex3 env3 σ' H' n3/\W (i+1) env3 n3,λ σ' H' h=>⟨items.length-(i+1),by omega,hlt,rfl,h⟩,λ x H3 y=>?_⟩
   obtain ⟨kp3,rx⟩:=(IT.2 i items[i] (Qg hlt)).2 x H3 y
   have A3:=A2.step (Y6.new A2.ev.inv kp3)
   refine B.gv A3.ev rx (wt i _ env2 n2 (Qg hlt) w2) λ env' σ' p E' o _ _=>?_
   refine T.sv (C:={ C with held:=hd++C.held }) (G:={ G with nx:=W (i+1),ct:=W (i+1),bk:=G.nx }) (D:={ D with nx:=λ σ' H'=>∃ ex3 env3 n3,At { C with held:=hd++C.held } ex3 env3 σ' H' n3/\W (i+1) env3 n3,ct:=λ σ' H'=>∃ ex3 env3 n3,At { C with held:=hd++C.held } ex3 env3 σ' H' n3/\W (i+1) env3 n3,bk:=D.nx }) ⟨λ A4 w4=>⟨_,_,_,A4,w4⟩,λ A4 q4=>O.nx (dropd A4) q4,λ A4 w4=>⟨_,_,_,A4,w4⟩,λ R q=>O.rt ⟨R.kp,R.inv,R.r⟩ q,λ R q=>O.rtn ⟨R.kp,R.inv,R.fr,R.r⟩ q,O.xc,λ R q=>O.r2 ⟨R.kp,R.inv,R.fr,R.frs,R.o⟩ q⟩ (A3.bind E' o) p
 . have e:i=items.length:=by omega
   subst e
   exact .inl ⟨IT.1,O.nx (dropd A2) (wd _ _ w2)⟩⟩
abbrev Jx0 (c:GT) (gb:GS):GS:=λ G env n=>∃ W:Nat->List Vl->Nat->Prop,(∃ m,W m env n)/\∀ m env n,W m env n->c env n λ b n1=>
 if b=true then gb { G with nx:=λ env1 n2=>∃ m',m'<m/\W m' env1 n2,ct:=λ env1 n2=>∃ m',m'<m/\W m' env1 n2,bk:=G.nx } env n1 else G.nx env n1
instance sv_while {c:TT}{gc:GT} [X:TV c gc] [T:SV tb gb]:SV (Jrk c tb) (Jx0 gc gb):=⟨λ {C G D} O {ex env σ H n} A h=>by
 obtain ⟨W,⟨m0,w0⟩,wt⟩:=h
 refine ⟨λ m σ2 H2=>∃ ex2 env2 n2,At C ex2 env2 σ2 H2 n2/\W m env2 n2,⟨m0,ex,env,n,A,w0⟩,?_⟩
 rintro m σ2 H2 ⟨ex2,env2,n2,A2,w2⟩
 refine X.tv A2.ev (wt m env2 n2 w2) λ b n3 H3 h3 s3=>?_
 cases b with
 | true=>
  refine Bt ⟨λ σ' H'=>∃ m',m'<m/\∃ ex2 env2 n2,At C ex2 env2 σ' H' n2/\W m' env2 n2,λ σ' H' h=>h,?_⟩
  exact T.sv (C:=C) (G:={ G with nx:=λ env1 n2=>∃ m',m'<m/\W m' env1 n2,ct:=λ env1 n2=>∃ m',m'<m/\W m' env1 n2,bk:=G.nx }) (D:={ D with nx:=λ σ' H'=>∃ m',m'<m/\∃ ex2 env2 n2,At C ex2 env2 σ' H' n2/\W m' env2 n2,ct:=λ σ' H'=>∃ m',m'<m/\∃ ex2 env2 n2,At C ex2 env2 σ' H' n2/\W m' env2 n2,bk:=D.nx }) ⟨λ A4 ⟨m',hm,w4⟩=>⟨m',hm,_,_,_,A4,w4⟩,λ A4 q4=>O.nx A4 q4,λ A4 ⟨m',hm,w4⟩=>⟨m',hm,_,_,_,A4,w4⟩,O.rt,O.rtn,O.xc,O.r2⟩ (A2.step s3) h3
 | false=>exact We (O.nx (A2.step s3) h3)⟩
theorem At.at_own {C:Cv}{ex:List Addr}{env:List Vl}{σ:L2.St}{H:Hp}{n:Nat}(A:At C ex env σ H n) {i:Nat}{xs:List J8j}(e:env[i]? = some (.own xs)):∃ a vs,(σ[i]?).join=some (.ref a)/\H a=some (.lst vs)/\vs.length<=sizeLine/\Reps ex H xs vs:=by
 obtain ⟨a,vs,ev,h1,h2,h3,h4,h5⟩:=A.ev.sl i _ e
 exact ⟨a,vs,ev,h1,h2,h3⟩
abbrev Jz1 (i:Nat) (g:GE):GS:=λ G env n=>match env[i]? with
 | some (.own xs)=>g env n λ d n1=>xs.length<sizeLine/\G.nx (env.set i (.own (xs++[d]))) n1
 | _=>False
theorem Jmc {C:Cv}{ex:List Addr}{env:List Vl}{σ:L2.St}{H H1:Hp}{n n1:Nat}{i:Nat}{xs:List J8j}{a:Addr}{vs:List V}(A:At C ex env σ H n) (e:env[i]? = some (.own xs)) (ev:(σ[i]?).join=some (.ref a)) (h1:H a=some (.lst vs)) (r:Reps ex H xs vs) (s:Y6 C.S n1 H H1):H1 a=some (.lst vs)/\Reps ex H1 xs vs:=by
 have ha:a∈Jv env σ i:=by unfold Jv;rw [e,ev];exact Qu.mpr rfl
 exact ⟨s.1 _ _ h1 (Jcn A.ev ha).2.2,A.ev.reps s r⟩
instance sv_app [E:EV true te ge]:SV (Jv2 (tBM K "list" Jpe (Z8 i) (Yp te Jbd))) (Jz1 i ge):=⟨λ {C G D} O {ex env σ H n} A h=>by
 unfold Jz1 at h
 split at h
 . rename_i xs e
   obtain ⟨a,vs,ev,h1,h2,h3⟩:=A.at_own e
   refine ⟨_,Jt ev,.inl ⟨rfl,_,SqL.of h1⟩,E.ev A.ev h λ d n1 v H1 hd s1 r=>?_⟩
   obtain ⟨g1,g2⟩:=Jmc A e ev h1 h3 s1
   have l:=g2.length
   exact ⟨a,vs,v,rfl,rfl,g1,by rw [<- l];exact hd.1,O.nx ((A.step s1).re e ev (Reps.append g2 (.cons r .nil)) (by rw [Xp,J1y,<- l];exact hd.1)) hd.2⟩
 . exact h.elim⟩
theorem Jht {ex:List Addr}{H:Hp}{d:J8j}{v:V}(r:Rep ex H d v):∀ {ds:List J8j}{vs:List V}(k:Nat),Reps ex H ds vs->Reps ex H (ds.set k d) (vs.set k v)
 | _,_,_,.nil=>.nil
 | _,_,0,.cons _ t=>.cons r t
 | _,_,k+1,.cons q t=>.cons q (Jht r k t)
abbrev Jz2 (i:Nat) (gx ge:GE):GS:=λ G env n=>ge env n λ d n1=>match env[i]? with
 | some (.own xs)=>gx env n1 λ k n2=>(match k with
  | .int z=>∃ m,ixN xs.length z=some m/\G.nx (env.set i (.own (xs.set m d))) n2
  | _=>False)
 | _=>False
instance sv_setI {tx:TE}{gx:GE} [E:EV true te ge] [X:EV true tx gx]:SV (Jfd te (Jnm (Z8 i) tx Jhh)) (Jz2 i gx ge):=⟨λ {C G D} O {ex env σ H n} A h=>by
 refine E.ev A.ev h λ d n1 v H1 hd s1 r=>?_
 have A1:=A.step s1
 split at hd
 . rename_i xs e
   obtain ⟨a,vs,ev,h1,h2,h3⟩:=A1.at_own e
   refine ⟨_,Jt ev,X.ev A1.ev hd λ k n2 kv H2 hk s2 rk=>?_⟩
   obtain ⟨g1,g2⟩:=Jmc A1 e ev h1 h3 s2
   have l:=g2.length
   cases rk with
   | int z=>
    obtain ⟨m,hm,q⟩:=hk
    exact ⟨a,vs,z,m,rfl,rfl,g1,by rw [<- l];exact hm,O.nx ((A1.step s2).re e ev (Jht (A1.ev.rep s2 r) m g2) (by rw [Qq];exact h2)) q⟩
   | none=>exact hk.elim
   | obj=>exact hk.elim
   | dctf=>exact hk.elim
   | bool=>exact hk.elim
   | str=>exact hk.elim
   | tuple=>exact hk.elim
   | list=>exact hk.elim
 . exact hd.elim⟩
end
theorem Jav.len {S:Src}{ex:List Addr}{H:Hp}:∀ {as:List Vl}{vs:List V},Jav S ex H as vs->as.length=vs.length
 | [],[],_=>rfl
 | _::_,_::_,h=>by rw [X2,X2,Jav.len h.2]
 | [],_::_,h=>h.elim
 | _::_,[],h=>h.elim
theorem Jav.get {S:Src}{ex:List Addr}{H:Hp}:∀ {as:List Vl}{vs:List V}{i:Nat}{w:Vl},Jav S ex H as vs->as[i]? = some w->∃ v,vs[i]? = some v/\SlR S ex H w (some v)
 | [],[],_,_,_,e=>by simp at e
 | _::_,v::_,0,_,h,e=>by simp at e;subst e;exact ⟨v,rfl,h.1⟩
 | _::_,_::_,i+1,_,h,e=>by simpa using Jav.get (i:=i) h.2 (by simpa using e)
 | [],_::_,_,_,h,_=>h.elim
 | _::_,[],_,_,h,_=>h.elim
noncomputable def Jhu:Vl->Bool
 | .own _ | .dct _ | .own2 _ _=>false
 | _=>true
noncomputable def Jgh (N:List Str) (as:List Vl):List Vl:=as++Qp (N.length-as.length) .jnk
theorem Jhv {S:Src}{ex:List Addr}{H:Hp}{as:List Vl}{vs:List V}{n:Nat}{N:List Str}(r:Jav S ex H as vs) (hp:as.all Jhu=true) (hc:∀ a∈S.ch,a∈ex) (al:Alc ex H) (iv:S.inv n H):At ⟨S,ex,H,[]⟩ ex (Jgh N as) (start N vs) H n:=by
 have l:=r.len
 have no:∀ i,Jv (Jgh N as) (start N vs) i=[]:=λ i=>by
  unfold Jv Jgh
  cases e:(as++Qp (N.length-as.length) Vl.jnk)[i]? with
  | none=>rfl
  | some w=>
   have:w∈as++Qp (N.length-as.length) Vl.jnk:=Xo e
   have hw:Jhu w=true:=by
    rcases Xk.mp this with h | h
    . exact X7.mp hp w h
    . rw [(J3g.mp h).2];rfl
   cases w with
   | own _=>cases hw
   | dct _=>cases hw
   | own2 _ _=>cases hw
   | _=>rfl
 refine ⟨⟨?_,λ i w e=>?_,hc,al,iv⟩,λ a h=>h,al,λ i j a h=>?_,λ i a h=>?_,.refl,λ h hh=>by cases hh⟩
 . unfold Jgh L2.start
   rw [Xp,Xp,X3,X3,Qb,l];exact Qm _
 . unfold Jgh at e
   by_cases hi:i<as.length
   . rw [Up hi] at e
     obtain ⟨v,hv,sr⟩:=r.get e
     have:(start N vs)[i]? = some (some v):=by
      unfold L2.start
      rw [Up (by rw [Qb,<- l];exact hi),Qk,hv];rfl
     rw [this]
     exact sr
   . rw [J1p (J2e hi)] at e
     have:w = .jnk:=(J3g.mp (Xo e)).2
     subst this
     trivial
 . rw [no] at h;cases h
 . rw [no] at h;cases h
noncomputable def Jwn (P:J8j->Nat->Prop):VEnds:={ nx:=λ _ n=>P .none n,rt:=P,rtn:=λ ds n=>P (.list ds) n,rt2:=λ xss n=>P (.list (xss.map .list)) n }
noncomputable def Jwo (P:List J8j->Nat->Prop):VEnds:={ nx:=λ _ _=>False,rt:=λ _ _=>False,rtn:=P }
theorem Jsh {C:Cv}{ps:List (Addr×List J8j)}{n:Nat}{a:Addr}{H:Hp}(al:Alc C.ex0 C.H0) (R:Ret2 C ps n a H):Rep C.ex0 H (.list ((ps.map (·.2)).map .list)) (.ref a):=by
 refine .list R.o.h (al.nm R.fr) (by unfold Wg;rw [Qb,J8p];have:=R.o.z;omega) ?_
 have:∀ qs:List (Addr×List J8j),(∀ q∈qs,q∈ps)->Reps C.ex0 H ((qs.map (·.2)).map .list) (Wg qs):=by
  intro qs
  induction qs with
  | nil=>exact λ _=>.nil
  | cons q qs ih=>
   intro hq
   have hm:=hq q Qn
   obtain ⟨vs,g1,g2,g3⟩:=(R.o.i q hm).h
   exact .cons (.list g1 (al.nm (R.frs q hm)) g2 (Reps.mono (λ b hb=>Xf _ hb) g3)) (ih λ x hx=>hq x (Ql _ hx))
 exact this ps λ _ h=>h
theorem J8 {sp:GSp}{gs:GS}{ts:TS}{N:List Str}{vs:List V}{H:Hp}{Q:VK}{E:XK} [T:SV ts gs] (h:Jm sp vs H Q E) (hs:∀ as n P,sp as n P->as.all Jhu=true/\gs (Jwn P) (Jgh N as) n):ts { nx:=λ _ H'=>Q .non H',rt:=Q } (start N vs) H:=by
 obtain ⟨S,ex,as,n,P,r,hc,al,iv,p,q⟩:=h
 obtain ⟨hp,g⟩:=hs as n P p
 refine T.sv (C:=⟨S,ex,H,[]⟩) (G:=Jwn P) ⟨λ {ex' env σ H' n'} A h=>?_,λ _ h=>h.elim,λ _ h=>h.elim,λ R h=>?_,λ {ds n' a H'} R h=>?_,λ _ _ h=>h.elim,λ {ps n' a H'} R h=>?_⟩ (Jhv r hp hc al iv) g
 . exact q _ _ _ _ h ⟨A.kp,A.ev.inv⟩ .none
 . exact q _ _ _ _ h ⟨R.kp,R.inv⟩ R.r
 . obtain ⟨ws,h1,h2,h3⟩:=R.r
   exact q _ _ _ _ h ⟨R.kp,R.inv⟩ (.list h1 (al.nm R.fr) h2 (Reps.sub h3))
 . exact q _ _ _ _ h ⟨R.kp,R.inv⟩ (Jsh al R)
theorem Z9 {sp:GSn}{gs:GS}{ts:TS}{N:List Str}{vs:List V}{H:Hp}{Q:VK}{E:XK} [T:SV ts gs] (h:Y8 sp vs H Q E) (hs:∀ as n P,sp as n P->as.all Jhu=true/\gs (Jwo P) (Jgh N as) n):ts { nx:=λ _ H'=>Q .non H',rt:=Q } (start N vs) H:=by
 obtain ⟨S,ex,as,n,P,r,hc,al,iv,p,q⟩:=h
 obtain ⟨hp,g⟩:=hs as n P p
 refine T.sv (C:=⟨S,ex,H,[]⟩) (G:=Jwo P) ⟨λ _ h=>h.elim,λ _ h=>h.elim,λ _ h=>h.elim,λ _ h=>h.elim,λ {ds n' a H'} R h=>?_,λ _ _ h=>h.elim,λ _ h=>h.elim⟩ (Jhv r hp hc al iv) g
 obtain ⟨ws,h1,h2,h3⟩:=R.r
 exact q _ _ _ _ _ h ⟨R.kp,R.inv⟩ R.fr h1 h2 h3
theorem Yb {sp:GSp}{k:Nat}(h:∀ as n P,sp as n P->as.length=k):∀ vs H Q E,Jm sp vs H Q E->vs.length=k:=λ vs H Q E ⟨S,ex,as,n,P,r,_,_,_,p,_⟩=>by rw [<- r.len];exact h _ _ _ p
theorem Wz {sp:GSn}{k:Nat}(h:∀ as n P,sp as n P->as.length=k):∀ vs H Q E,Y8 sp vs H Q E->vs.length=k:=λ vs H Q E ⟨S,ex,as,n,P,r,_,_,_,p,_⟩=>by rw [<- r.len];exact h _ _ _ p
section
variable {turn:J8j->Nat->(Option J8j->Nat->Prop)->Prop}{items:List J8j}{n:Nat}{Q:List J8j->Nat->Prop}
end
theorem Fz.eq {a b:List Vl}(h:a=b):Fz a b:=h ▸ .refl
noncomputable abbrev Juw (ns:List Int):J8j:=.list (ns.map .int)
theorem Jz3 {S:Src}{ex:List Addr}{H:Hp}{a b:Vl}{vs:List V}(h:Jav S ex H [a,b] vs):∃ u v,vs=[u,v]/\SlR S ex H a (some u)/\SlR S ex H b (some v):=by
 match vs,h with
 | [u,v],h=>exact ⟨u,v,rfl,h.1,h.2.1⟩
 | [],h=>exact h.elim
 | [_],h=>exact h.2.elim
 | _::_::_::_,h=>exact h.2.2.elim
theorem Yc {α:Type}{xs:List α}{i:Int}{d:α}(h0:0<=i) (h:xs[i.toNat]? = some d):atI xs i=some d:=by
 have:=(Qs.mp h).1
 unfold atI
 rw [Jcg h0 (by omega)]
 exact h
class SQ (te:TE) (g:outParam GN):Prop where
 sq:∀ {S:Src} {ex:List Addr} {env:List Vl} {σ:L2.St} {H:Hp} {n:Nat} {Q:VK} {P:List J8j->Nat->Prop},Ev S ex env σ H n->g env n P->(∀ ds n' a vs H',P ds n'->Y6 S n' H H'->a∉S.ch->H' a=some (.lst vs)->vs.length<=sizeLine->Reps ex H' ds vs->Q (.ref a) H')->te σ H Q
abbrev gSq (i:Nat):GN:=λ env n Q=>match env[i]? with
 | some (.own xs)=>Q xs n
 | some (.d (.list xs))=>Q xs n
 | _=>False
instance (priority:=high) sq_var {i:Nat}:SQ (Z8 i) (gSq i):=⟨λ {S ex env σ H n Q P} E h k=>by
 unfold gSq at h
 split at h
 . rename_i xs e
   obtain ⟨a,vs,ev,h1,h2,h3,h4,h5⟩:=E.sl i _ e
   exact ⟨_,Jt ev,k _ _ _ _ _ h (.refl E.inv) h5 h1 h2 h3⟩
 . rename_i xs e
   obtain ⟨v,ev,r⟩:=E.sl i _ e
   cases r with
   | list e1 m z rs=>exact ⟨_,Jt ev,k _ _ _ _ _ h (.refl E.inv) (λ z=>m (E.ch _ z)) e1 z rs⟩
 . exact h.elim⟩
instance sq_nv {te:TE}{g:GN} [A:NV te g]:SQ te g:=⟨λ {S ex env σ H n Q P} E h k=>A.nv E h λ ds n1 a vs H1 h1 s1 ha hl hz r=>k _ _ _ _ _ h1 s1 (λ z=>S.dom E.inv a z ha) hl hz (Reps.sub r)⟩
abbrev Jz4 (ga gb:GN):GN:=λ env n Q=>ga env n λ xs n1=>gb env n1 λ ys n2=>xs.length+ys.length<=sizeLine/\Q (xs++ys) n2
instance (priority:=high) nv_catS {ta tb:TE}{ga gb:GN} [A:SQ ta ga] [B:SQ tb gb]:NV (tOp Jza ta tb) (Jz4 ga gb):=⟨λ {S ex env σ H n Q P} E h k=>
 A.sq E h λ xs n1 a vs H1 h1 s1 na ha hz r1=>B.sq (E.step s1) h1 λ ys n2 b us H2 h2 s2 nb hb hz2 r2=>by
  have r1':=(E.step s1).reps s2 r1
  have l1:=r1'.length
  have l2:=r2.length
  refine ⟨a,b,vs,us,rfl,rfl,s2.1 _ _ ha na,hb,by rw [<- l1,<- l2];exact h2.1,λ p hp=>?_⟩
  obtain ⟨c1,c2,c3⟩:=Jaf E (s1.trans s2) hp (Reps.append r1' r2)
  exact k _ _ _ _ _ h2.2 c1 c2 Jj (by rw [Xp,<- l1,<- l2];exact h2.1) c3⟩
abbrev J1e (g:GN) (gl gh:List Vl->Nat->(Option Int->Nat->Prop)->Prop):GN:=λ env n Q=>g env n λ xs n1=>gl env n1 λ lo n2=>gh env n2 λ hi n3=>Q (Jei xs lo hi) n3
instance (priority:=high) nv_slS {K:Qc}{te:TE}{g:GN}{tl th:TO}{gl gh:List Vl->Nat->(Option Int->Nat->Prop)->Prop} [A:SQ te g] [B:OPV tl gl] [C:OPV th gh]:NV (tSl (Jy9 K) te tl th) (J1e g gl gh):=⟨λ {S ex env σ H n Q P} E h k=>
 A.sq E h λ xs n1 a vs H1 h1 s1 na ha hz r1=>B.op (E.step s1) h1 λ lo n2 H2 h2 s2=>C.op (E.step (s1.trans s2)) h2 λ hi n3 H3 h3 s3=>by
  have r3:=(E.step s1).reps (s2.trans s3) r1
  refine ⟨a,vs,rfl,SqL.of ((s2.trans s3).1 _ _ ha na),λ p hp=>?_⟩
  obtain ⟨c1,c2,c3⟩:=Jaf E ((s1.trans s2).trans s3) hp (Jsf r3 lo hi)
  exact k _ _ _ _ _ h3 c1 c2 Jj (Xc (Jgb _ _ _) hz) c3⟩
section
variable {X:Cx}
end
section
variable {K:Qc}{H:Hp}{ex:List Addr}
end
noncomputable def fl (u:Nat) (f:Nat->Int):List J8j:=(Qf u).map λ i=>.int (f i)
theorem Bv (u:Nat) (f:Nat->Int):(fl u f).length=u:=by unfold fl;rw [Qb,Qw]
theorem Ja9 {u:Nat}{f:Nat->Int}{i:Nat}(h:i<u):(fl u f)[i]? = some (.int (f i)):=by
 unfold fl;rw [Qk,Xi h];rfl
theorem Jdy {u:Nat}{f g:Nat->Int}(h:∀ i,i<u->f i=g i):fl u f=fl u g:=by
 unfold fl
 exact U0 λ i hi=>by rw [h i (Q5.mp hi)]
theorem Y1 {a b:Int}(ha:a.natAbs<2^9000) (hb:b.natAbs<2^9000):J9k a b:=by
 have la:a.natAbs.log2<9000:=by
  by_cases h:a.natAbs=0
  . rw [h];decide
  . exact (J3x h).mpr ha
 have lb:b.natAbs.log2<9000:=by
  by_cases h:b.natAbs=0
  . rw [h];decide
  . exact (J3x h).mpr hb
 unfold J9k
 intro h
 rw [Ua,Ua] at h
 have h3:=h.2
 have e1:J38 a<=9001:=by unfold J38;split<;>omega
 have e2:J38 b<=9001:=by unfold J38;split<;>omega
 have hbl:20000<=bitsLine:=by decide +kernel
 unfold Builtin.Int.intTooBig at h3
 simp at h3
 omega
theorem Yx {ws:List Way}{k:Int}(h0:0<=k) (h1:k<ws.length):Jg ws k∈ws:=by
 unfold Jg
 rw [Qd,Qg (by omega)]
 exact Q8 _
theorem Jz5 {s:Str}{Q:J8j->Prop}(h:Q (.bool true)):fEq false (.str s) (.str s) Q:=by
 unfold fEq
 simp only [eqS,decide_true]
 exact h
noncomputable abbrev Jfo (U:Int) (f:Nat->Int):J8j:=.tuple (fl U.toNat f)
theorem Jbw {ws:List Way}{k:Int}(h0:0<=k) (h1:k<ws.length):atI (ws.map Ym) k=some (Ym (Jg ws k)):=by
 refine Yc h0 ?_
 rw [Qk,Qg (by omega)]
 unfold Jg
 rw [Qd,Qg (by omega)]
 rfl
theorem Jux {α:Type}{xs:List α}{x:α}(h:xs≠[]) (e:xs.getLast? = some x):atI xs (-1)=some x:=by
 have hl:0<xs.length:=J3d.mpr h
 unfold atI ixN
 rw [if_neg (by omega),if_pos (by omega)]
 show xs[(-1+(xs.length:Int)).toNat]? = some x
 rw [show (-1+(xs.length:Int)).toNat=xs.length-1 by omega,<- J68]
 exact e
theorem Vv (xs ys:List J8j):(Ba xs ys).length=min xs.length ys.length:=by unfold Ba;exact J37
theorem Jpk (U:Int):(Qp U.toNat [Qi 0]).flatten=fl U.toNat λ _=>0:=by
 unfold fl
 induction U.toNat with
 | zero=>rfl
 | succ n ih=>rw [List.replicate_succ',J13,Xg,List.flatten_append,ih];rfl
theorem Bb {turn:J8j->Nat->(Option J8j->Nat->Prop)->Prop}{u n:Nat}{Q:List J8j->Nat->Prop}{e:Nat->J8j}(f:Nat->J8j) (h:∀ i,i<u->∀ n K,K (some (f i)) n->turn (e i) n K) (q:Q ((Qf u).map f) n):Jhq turn ((Qf u).map e) n Q:=by
 have key:∀ (l:List Nat) (n:Nat) (Q:List J8j->Nat->Prop),(∀ i∈l,i<u)->Q (l.map f) n->Jhq turn (l.map e) n Q:=by
  intro l
  induction l with
  | nil=>intro n Q _ q;exact q
  | cons x xs ih=>intro n Q hl q;exact h x (hl x Qn) _ _ (ih _ _ (λ i hi=>hl i (Ql _ hi)) q)
 exact key _ _ _ (λ i hi=>Q5.mp hi) q
theorem Jjw {c:Bool}{A B:Prop}(h:c=true) (a:A):if c=true then A else B:=by rw [if_pos h];exact a
theorem Vc {c:Bool}{A B:Prop}(h:c=false) (b:B):if c=true then A else B:=by rw [if_neg (by rw [h];exact Q7)];exact b
theorem Jgi {i j:Int}{Q:J8j->Prop}(h:Q (.bool (decide (i=j)))):fEq false (.int i) (.int j) Q:=h
theorem Jhw {i j:Int}{Q:J8j->Prop}(h:Q (.bool (!decide (i=j)))):fEq true (.int i) (.int j) Q:=h
noncomputable def Jsi:VEnds:={ nx:=λ _ _=>False,rt:=λ d _=>d = .bool true,rtn:=λ _ _=>False }
end My
namespace L2
structure FunD (K:Qc) (x qual:Str) (st:Stmt) (f:Addr) (fd:J8t):Prop where
 ex:∃ (oc:J8i) (od:Option Addr) (dV kV doc pm:J8i) (an:Option Addr) (cdv ct:J8i) (osl:Array (Option J8i)),
  fd=X0 x qual (Wk st) (Zz st) (Je st) dV kV doc pm an cdv ct/\K.lookup f=some ⟨oc,od,.func fd,osl⟩/\J1q K cdv qual=true
 kp:Uf K (.ref f)=true
theorem FunD.ok {P:J8n}{w:J8m}{K:Qc}{mg:Str->Option J8i}{base:Heap}{x qual:Str}{st:Stmt}{f:Addr}{fd:J8t}{N ps:List Str}{k:Nat}{sp:Sp}(F:FunD K x qual st f fd) (S:FnScope N ps (Je st)) (len:∀ vs H Q E,sp vs H Q E->vs.length=ps.length)
 (hbody:∀ (cdv:J8i) (A:J8o) (outer:List Env) (s:J8k) (H:Hp) (vs:List V) (Q:VK) (E:XK),Room k (A.deeper (envOfC qual (Je st) s.heap.objs.size f cdv))->sp vs H Q E ->
  ∃ t,PSs (Jnw CX0 P w K mg base N qual (Je st) f cdv A outer s H E).nox (Zz st) t/\t { nx:=λ _ H'=>Q .non H',rt:=Q } (start N vs) H):FnOk P w K mg base CX0 (k+1) f fd ps sp:=by
 obtain ⟨oc,od,dV,kV,doc,pm,an,cdv,ct,osl,rfl,lk,hcd⟩:=F.ex
 refine Jv7 lk hcd S len λ A outer s H vs Q E hr hsp=>?_
 obtain ⟨t,h,q⟩:=hbody cdv A outer s H vs Q E hr hsp
 exact ⟨t,h.nox,q⟩
section
variable {X:Cx}{x:Str}{e:Expr}{es:List Expr}{p pos:Pos}{t:TA}{k:Nat}{ps:List Str}{sp:Sp}{i:Int}
end
end L2
namespace My
open L2
theorem Jsj {t u:GS}{G:VEnds}{env:List Vl}{n:Nat}(Mid:List Vl->Nat->Prop) (h1:∀ N:List Vl->Nat->Prop,(∀ e k,Mid e k->N e k)->t { G with nx:=N } env n) (h2:∀ e k,Mid e k->∃ e2,Fz e e2/\u G e2 k):Jxz t u G env n:=h1 _ h2
abbrev Jwp:G1:=λ ds Q=>match ds with
 | [d]=>Jr7 d/\Q (.str d.shown)
 | _=>False
instance cs_repr:CS (λ xs H Q=>∃ ex d v,xs=[v]/\Rep ex H d v/\Jr7 d/\Q (.str d.shown) H) Jwp:=⟨λ {H xs ds Q P} r h k=>by
 unfold Jwp at h
 split at h
 . cases r with
   | cons r1 t=>cases t;exact ⟨_,_,_,rfl,r1,h.1,k _ _ h.2 λ _=>.str _⟩
 . exact h.elim⟩
noncomputable abbrev GSx:=List Vl->Nat->(J8j->Nat->Prop)->(Addr->Nat->Prop)->Prop
theorem Jz6 (xs:List J8j) (u:Nat) (hl:xs.length=u) (h:∀ x∈xs,∃ i:Int,x = .int i):∃ f:Nat->Int,xs=fl u f:=by
 subst hl
 induction xs with
 | nil=>exact ⟨λ _=>0,rfl⟩
 | cons x xs ih=>
  obtain ⟨i,rfl⟩:=h x Qn
  obtain ⟨f,hf⟩:=ih λ y hy=>h y (Ql _ hy)
  refine ⟨λ k=>match k with | 0=>i | k+1=>f k,?_⟩
  unfold fl at hf ⊢
  rw [X2,J69,Xa,Q0]
  exact congrArg (Qi i :: ·) hf
noncomputable def putF (f:Nat->Int) (k:Nat) (v:Int):Nat->Int:=λ i=>if i=k then v else f i
theorem Jba (u:Nat) (f:Nat->Int) (k:Nat) (v:Int):(fl u f).set k (.int v)=fl u (putF f k v):=by
 apply Xv
 intro i
 unfold fl putF
 rw [J16,Qk,Qk]
 by_cases hk:k=i
 . subst hk
   rw [if_pos rfl,Qb,Qw]
   by_cases hu:k<u
   . rw [if_pos hu,Xi hu]
     simp
   . rw [if_neg hu,Qx (by simp;omega)]
     rfl
 . rw [if_neg hk]
   by_cases hu:i<u
   . rw [Xi hu]
     simp [show ¬ i=k from λ e=>hk e.symm]
   . rw [Qx (by simp;omega)]
     rfl
theorem Jbx {turn:J8j->Nat->(Option J8j->Nat->Prop)->Prop}{u n:Nat}{Q:List J8j->Nat->Prop}{e:Nat->J8j}(p:Nat->Bool) (f:Nat->J8j) (h:∀ i,i<u->∀ n K,(p i=true->K (some (f i)) n)->(p i=false->K none n)->turn (e i) n K) (q:Q (((Qf u).filter p).map f) n):Jhq turn ((Qf u).map e) n Q:=by
 have key:∀ (l:List Nat) (n:Nat) (Q:List J8j->Nat->Prop),(∀ i∈l,i<u)->Q ((l.filter p).map f) n->Jhq turn (l.map e) n Q:=by
  intro l
  induction l with
  | nil=>intro n Q _ q;exact q
  | cons x xs ih=>
   intro n Q hl q
   refine h x (hl x Qn) _ _ (λ hp=>?_) (λ hp=>?_)
   . rw [J7a hp] at q
     exact ih _ _ (λ i hi=>hl i (Ql _ hi)) q
   . rw [J7b (by rw [hp];exact Q7)] at q
     exact ih _ _ (λ i hi=>hl i (Ql _ hi)) q
 exact key _ _ _ (λ i hi=>Q5.mp hi) q
def Jhx:GSp:=λ as n Q=>∃ (R U:Int) (ws:List Way) (k:Int),as=[.d (J2 R U ws),.d (.int k)]/\(0<=k/\k<ws.length)/\Q (.bool true) n
def Jfp:GSp:=λ as n Q=>∃ (x a b:Int),as=[.d (.int x),.d (.int a),.d (.int b)]/\Q (.bool (decide (a<=x)&&decide (x<=b))) n
def Jax:GSp:=λ as n Q=>∃ (x:Int),as=[.d (.int x)]/\Q (.bool true) n
theorem Jx1 {x:J8j}{Q:J8j->Prop}(h:x.canLay0=true) (hd:x.depth<=50) (q:Q (.bool false)):Jus true x x Q:=⟨⟨h,h,Xc (J5j _ _) hd⟩,by rw [J7c _ h];exact q⟩
theorem Jqy (u:Nat) (f:Nat->Int):fl u f=((Qf u).map f).map .int:=by unfold fl;rw [Q0];rfl
theorem Jay {k i:Nat}{y:J8j}(h:(Ji5 0 k)[i]? = some y):i<k/\y = .int i:=by
 have hi:=(Qs.mp h).1
 rw [Yn] at hi
 refine ⟨hi,?_⟩
 unfold Ji5 at h
 rw [Qk,Xi hi] at h
 cases h
 simp
def Jdz:GSp:=λ as n Q=>∃ many:Int,as=[.tape,.d (.int many)]/\n<2^40/\0<many/\many<2^9000/\∀ r:Int,0<=r->r<many->Q (.int r) (n+1)
instance scal_draw:Scal Jdz:=⟨λ {as n P} h=>by
 obtain ⟨many,e,hn,h0,h1,q⟩:=h
 exact ⟨many,e,hn,h0,h1,λ r r0 r1=>⟨rfl,q r r0 r1⟩⟩⟩
theorem Jsk:∀ (vs:List V) (H:Hp) (Q:VK) (E:XK),Jm Jdz vs H Q E->Jn5 vs H Q E:=λ vs H Q E h=>by
 obtain ⟨S,ex,as,n,P,r,hc,al,iv,⟨many,rfl,hn,h0,h1,q⟩,k⟩:=h
 obtain ⟨u,v,rfl,⟨p,c,rfl,eu⟩,⟨w,ew,rw'⟩⟩:=Jz3 r
 cases eu
 cases ew
 cases rw'
 exact ⟨p,c,n,many,rfl,iv,hn,h0,h1,λ r H' r0 r1 J' kp=>k _ _ _ _ (q r r0 r1) ⟨kp,J'⟩ (.int r)⟩
theorem Job {K:Qc}{N:List Str}{vs:List V}{H:Hp}{Q:VK}{E E':XK}{rest:TS}{gs:GS} [T:SV rest gs] (hN:2<=N.length) (h:Jl0 K vs H Q E) (hs:gs Jsi (.jnk :: .tape::Qp (N.length-2) .jnk) 0) :
 Ja5 (Jfd (Jjk (Jko K) [] E' (Yp (Z8 0) Jbd)) (B9 1)) rest { nx:=λ _ H'=>Q .non H',rt:=Q } (L2.start N vs) H:=by
 obtain ⟨a,ns,rfl,hS,hlen,q⟩:=h
 have est:L2.start N [V.ref a]=some (V.ref a)::none::Qp (N.length-2) none:=by
  unfold L2.start
  rw [show N.length-[V.ref a].length=(N.length-2)+1 by simp;omega]
  rfl
 rw [est]
 refine ⟨_,rfl,a,ns,rfl,hS,hlen,λ p c H1 k1 _ _ J=>?_⟩
 have al:Alc [p,c] H1:=λ b hb z=>J.fresh z hb
 have no:∀ i,Jv (.jnk :: .tape::Qp (N.length-2) .jnk) (some (V.ref a)::some (V.ref p)::Qp (N.length-2) none) i=[]:=λ i=>by
  unfold Jv
  cases e:((.jnk :: .tape::Qp (N.length-2) .jnk:List Vl))[i]? with
  | none=>rfl
  | some w=>
   have hm:=Xo e
   have:w = .jnk\/w = .tape:=by
    rcases Qh.mp hm with h | h
    . exact .inl h
    . rcases Qh.mp h with h | h
      . exact .inr h
      . exact .inl (J3g.mp h).2
   rcases this with rfl | rfl<;>rfl
 refine T.sv (C:=⟨Src.tape p c,[p,c],H1,[]⟩) (G:=Jsi) ⟨λ _ h=>h.elim,λ _ h=>h.elim,λ _ h=>h.elim,λ {d n v H'} R h=>?_,λ _ h=>h.elim,λ _ _ h=>h.elim,λ _ h=>h.elim⟩ (ex:=[p,c]) (env:=.jnk :: .tape::Qp (N.length-2) .jnk) (σ:=some (V.ref a)::some (V.ref p)::Qp (N.length-2) none) ⟨⟨?_,λ i w e=>?_,λ b h=>h,al,J⟩,λ b h=>h,al,λ i j b h=>?_,λ i b h=>?_,.refl,λ x hx=>by cases hx⟩ hs
 . cases h
   have r:=R.r
   cases r
   exact q _
 . simp
 . match i with
   | 0=>cases e;trivial
   | 1=>cases e;exact ⟨p,c,rfl,rfl⟩
   | i+2=>
    have:w = .jnk:=(J3g.mp (Xo (by simpa using e))).2
    subst this
    trivial
 . rw [no] at h;cases h
 . rw [no] at h;cases h
def Jku:GSp:=λ as n Q=>∃ mr mu mw:Int,as=[.tape,.d (.tuple [.int mr,.int mu,.int mw])]/\n<2^30/\(1<=mr/\mr<=12)/\(1<=mu/\mu<=6)/\(0<=mw/\mw<=36)/\∀ (R U:Int) (ws:List Way) (m:Nat),BookOk R U ws->R<=mr->U<=mu->m<=n+2000->Q (J2 R U ws) m
theorem Jmd {turn:J8j->Nat->(Option J8j->Nat->Prop)->Prop}{items:List J8j}{n:Nat}{Q:List J8j->Nat->Prop}(c B:Nat) (R:J8j->Prop) (h:∀ x∈items,∀ n K,n<=B->(∀ y n',R y->n'<=n+c->K (some y) n')->turn x n K) (hB:n+c*items.length<=B) (q:∀ ys n',ys.length=items.length->(∀ y∈ys,R y)->n'<=n+c*items.length->Q ys n'):Jhq turn items n Q:=by
 induction items generalizing n Q with
 | nil=>exact q [] n rfl (λ y hy=>by cases hy) (J3c _ _)
 | cons x xs ih=>
  rw [X2,Nat.mul_add] at hB
  refine h x Qn _ _ (by omega) λ y n' hy hn=>ih (λ z hz=>h z (Ql _ hz)) (by omega) λ ys n2 hl hr hn2=>q _ _ (by simp [hl]) (λ z hz=>?_) (by rw [X2,Nat.mul_add];omega)
  rcases Qh.mp hz with rfl | hz
  . exact hy
  . exact hr z hz
noncomputable def Jgj (a b U:Int) (f:Nat->Int):Way:=⟨a,b,(Qf U.toNat).map f⟩
theorem Jhy (a b U:Int) (f:Nat->Int):Us [.int a,.int b,Jfo U f]=Ym (Jgj a b U f):=by
 unfold Ym Jgj Jfo
 rw [Jqy]
theorem Jhz {R a b U:Int}{f:Nat->Int}(ha:0<=a/\a<R) (hb:0<=b/\b<R) (hU:0<=U) (hf:∀ i,i<U.toNat->-99<=f i/\f i<=99):WayOk R U (Jgj a b U f):=by
 refine ⟨ha.1,ha.2,hb.1,hb.2,?_,λ x hx=>?_⟩
 . show (((Qf U.toNat).map f).length:Int)=U
   rw [Qb,Qw];omega
 . obtain ⟨i,hi,rfl⟩:=Qo.mp hx
   exact hf i (Q5.mp hi)
theorem Jx2 (ys:List J8j) (u:Nat) {lo hi:Int}(hl:ys.length=u) (h:∀ y∈ys,∃ i:Int,y = .int i/\lo<=i/\i<=hi):∃ f:Nat->Int,ys=fl u f/\∀ i,i<u->lo<=f i/\f i<=hi:=by
 obtain ⟨f,rfl⟩:=Jz6 ys u hl λ y hy=>(h y hy).imp λ i hi=>hi.1
 refine ⟨f,rfl,λ i hi=>?_⟩
 have hm:Qi (f i)∈fl u f:=by unfold fl;exact Qo.mpr ⟨i,Q5.mpr hi,rfl⟩
 obtain ⟨j,e,h1⟩:=h _ hm
 cases e
 exact h1
theorem Jkv {u:Nat}{f:Nat->Int}{k:Nat}{v lo hi:Int}(h:∀ i,i<u->lo<=f i/\f i<=hi) (hv:lo<=v/\v<=hi):∀ i,i<u->lo<=putF f k v i/\putF f k v i<=hi:=λ i hi'=>by
 unfold putF
 split
 . exact hv
 . exact h i hi'
abbrev J1f (g:GE):GT:=λ env n Q=>g env n λ d n1=>match d with
 | .list xs=>Q (!xs.isEmpty) n1
 | .tuple xs=>Q (!xs.isEmpty) n1
 | _=>False
theorem Jh0 {ex:List Addr}{H:Hp}{ds:List J8j}{vs:List V}(r:Reps ex H ds vs):ds.isEmpty=vs.isEmpty:=by
 cases r<;>rfl
def Jz7 (K:Qc) (te:TE):TT:=λ σ H Q=>te σ H λ x H'=>∃ k,Jxc K x H' k/\Q k H'
theorem Jx3 {X:Cx}{a:Expr}{ta:TE}(ha:PE X a ta) (he:∀ whole,isTrue a X.env whole=(do let v <- whole;J8y a.pos;holding [v] (truthy v))):PT X a (Jz7 X.K ta):=Jrr ha he
instance tv_tru {K:Qc}{te:TE}{g:GE} [A:EV false te g]:TV (Jz7 K te) (J1f g):=⟨λ {S ex env σ H n Q P} E h k=>A.ev E h λ d n1 v H1 h1 s1 r1=>by
 cases r1 with
 | list e m z rs=>exact ⟨_,.inl ⟨_,SqL.of e,rfl⟩,by rw [<- Jh0 rs];exact k _ _ _ h1 s1⟩
 | tuple e m z rs=>exact ⟨_,.inr (.inl ⟨_,SqT.of e,rfl⟩),by rw [<- Jh0 rs];exact k _ _ _ h1 s1⟩
 | none=>exact h1.elim
 | obj=>exact h1.elim
 | dctf=>exact h1.elim
 | bool=>exact h1.elim
 | str=>exact h1.elim
 | int=>exact h1.elim⟩
noncomputable abbrev MT:Int:=10^100-1
theorem Jco (n:Nat) (d:J8j):(Qp n [d]).flatten=Qp n d:=by
 induction n with
 | zero=>rfl
 | succ n ih=>rw [U6,J1x,ih,U6];rfl
mutual
noncomputable def nd:J8j->Nat
 | .tuple ds=>1+nds ds
 | _=>0
noncomputable def nds:List J8j->Nat
 | []=>0
 | d::r=>nd d+nds r
end
mutual
noncomputable def smI:J8j->Bool
 | .int i=>decide (i<=MT)
 | .tuple ds=>Jx4 ds
 | .list ds=>Jx4 ds
 | _=>true
noncomputable def Jx4:List J8j->Bool
 | []=>true
 | d::r=>smI d&&Jx4 r
end
end My
namespace HT
section
variable {prog:J8n}{w:J8m}{A:J8o}{E:J8i->J8k->Prop}{s:J8k}
end
end HT
namespace L2
section
variable {X:Cx}{e st:Expr}{te:TE}{ts:TO}{pos p2:Pos}
end
end L2
namespace My
open L2
section
variable {b:Bool}{te:TE}{g:GE}
end
noncomputable def gdB (d:J8j):Bool:=d.canLay0&&(d.intsShort 101&&(d.showable&&smI d))
theorem Jsl {s t:Str}{Q:J8j->Prop}(h:Q (.bool (decide (s=t)))):fEq false (.str s) (.str t) Q:=h
section
variable {d:J8j}{k n g:Int}(hg:gdB d=true) (gk:gdB (.int k)=true) (wk:(Qi k).weight<=10) (gn:gdB (.int n)=true) (wn:(Qi n).weight<=10) (gg:gdB (.int g)=true) (wg:(Qi g).weight<=333)
include hg gk wk gn wn gg wg
end
end My
namespace L2
section
variable {X:Cx}
end
end L2
namespace My
open L2
section
variable {S:Src}{ex L:List Addr}{H H1 H2:Hp}{w:Vl}{o:Option V}
theorem SlR.adds:∀ {L:List Addr},(∀ b∈L,H b=none)->SlR S ex H w o->SlR S (L++ex) H w o
 | [],_,r=>r
 | l::L,h,r=>SlR.add (h l Qn) (SlR.adds (λ b hb=>h b (Ql _ hb)) r)
theorem Jme {je:List Vl}{σ0 σ':L2.St}{n1 n2 k:Nat}(E:Ev S ex je σ0 H1 n1) (hL:∀ b∈L,H1 b=none) (kp:Kp (L++S.ch) H1 H2) (h2:∀ b∈L,H2 b≠none) (iv:S.inv n2 H2) (hj:∀ j:Nat,j<k->je[j]? = none\/je[j]? = some .jnk) (hs:∀ j:Nat,k<=j->σ'[j]? = σ0[j]?) (hz:σ'.length = σ0.length):Ev S (L++ex) je σ' H2 n2:=by
 have hc:∀ a∈S.ch,a∈L++ex:=λ a h=>Xf _ (E.ch a h)
 have kx:Kp (L++ex) H1 H2:=kp.mono λ b hb=>(Xk.mp hb).elim (λ h=>Xn _ h) λ h=>hc b h
 have st:∀ {a:Addr} {u:HO},H1 a=some u->a∉S.ch->H2 a=some u:=λ {a u} e nc=>kp _ _ e λ z=>(Xk.mp z).elim (λ h=>by rw [hL a h] at e;cases e) nc
 refine ⟨by rw [hz];exact E.len,λ j w e=>?_,hc,λ a ha=>?_,iv⟩
 . by_cases hjk:j<k
   . rcases hj j hjk with h | h
     . rw [h] at e;cases e
     . rw [h] at e;cases e;trivial
   . rw [hs j (J2e hjk)]
     have h:=SlR.adds hL (E.sl j w e)
     cases w with
     | jnk=>trivial
     | jar=>exact h
     | tape=>exact h
     | d x=>obtain ⟨v,e,r⟩:=h;exact ⟨v,e,r.keep kx⟩
     | pin v x=>obtain ⟨e,r⟩:=h;exact ⟨e,r.keep kx⟩
     | own xs=>obtain ⟨a,vs,e,h1,h2,h3,h4,h5⟩:=h;exact ⟨a,vs,e,st h1 h5,h2,h3.keep kx,h4,h5⟩
     | dct kvs=>obtain ⟨a,kws,e,h1,⟨h2,h3⟩,h4,h5⟩:=h;exact ⟨a,kws,e,st h1 h5,⟨h2,h3.keep kx⟩,h4,h5⟩
     | own2 ks ps=>obtain ⟨a,e,q⟩:=h;exact ⟨a,e,st q.h q.c,q.z,q.k,q.nd,q.m,q.c,λ p hp=>let w:=q.i p hp;⟨w.m,w.c,let ⟨vs,h1,h2,h3⟩:=w.h;⟨vs,st h1 w.c,h2,h3.keep kx⟩⟩⟩
 . rcases Xk.mp ha with ha | ha
   . exact h2 a ha
   . by_cases hac:a∈S.ch
     . exact S.dom iv a hac
     . intro z
       cases e:H1 a with
       | none=>exact E.al a ha e
       | some u=>rw [st e hac] at z;cases z
end
abbrev GN2:=List Vl->Nat->(List (List J8j)->Nat->Prop)->Prop
class N2 (te:TE) (g:outParam GN2):Prop where
 n2:∀ {S:Src} {ex:List Addr} {env:List Vl} {σ:L2.St} {H:Hp} {n:Nat} {Q:VK} {P:List (List J8j)->Nat->Prop},Ev S ex env σ H n->g env n P ->
  (∀ (ps:List (Addr×List J8j)) (n':Nat) (a:Addr) (H':Hp),P (ps.map (·.2)) n'->Y6 S n' H H'->H a=none->(∀ p∈ps,H p.1=none)->Own2 S (a::ps.map (·.1)++ex) H' none ps a->Q (.ref a) H')->te σ H Q
def Jkw (f:J8j->Nat->(List J8j->Nat->Prop)->Prop):List J8j->Nat->(List (List J8j)->Nat->Prop)->Prop
 | [],n,Q=>Q [] n
 | x::xs,n,Q=>f x n λ d n1=>Jkw f xs n1 λ ys n2=>Q (d::ys) n2
abbrev Jkx (bd:GG) (gn:GN) (env:List Vl):J8j->Nat->(List J8j->Nat->Prop)->Prop:=λ x n Q=>bd x env λ env'=>gn env' n Q
abbrev Jx5 (gi:GN) (k:Nat) (idx ks:List Nat) (bd:GG) (gn:GN):GN2:=λ env n Q=>gi env n λ items n1=>(ks.all (λ i=>decide (i<k))=true/\items.length<=1000000/\items.all W6=true)/\Jkw (Jkx bd gn (Jdx k idx env)) items n1 Q
instance n2_comp {wi:TI}{gi:GN}{k:Nat}{idx ks:List Nat}{g:TG}{bd:GG}{te:TE}{gn:GN} [I:IC wi gi] [G:GV g bd ks] [A:NV te gn]:N2 (Jbe wi k idx g Jgx te) (Jx5 gi k idx ks bd gn):=⟨λ {S ex env σ H n Q P} E h kk=>by
 refine I.ic E h λ items n1 J H1 hc s1 hit l hl=>?_
 obtain ⟨⟨hk,hz,hsc⟩,hc⟩:=hc
 have hs:sizeLine=16777216:=J8p
 have E1:=Jhr (E.step s1) k idx
 have lch:l∉S.ch:=λ z=>S.dom s1.2 l z hl
 have hkk:∀ i∈ks,i<k:=λ i hi=>of_decide_eq_true (X7.mp hk i hi)
 refine ⟨λ i m σ' H2=>i<=items.length/\m=items.length-i/\∃ (n2:Nat) (ps:List (Addr×List J8j)),Jkw (Jkx bd gn (Jdx k idx env)) (items.drop i) n2 (λ ys n'=>P (ps.map (·.2)++ys) n')/\Kp (l::S.ch) H1 H2/\H2 l=some (.lst (Wg ps))/\ps.length<=i/\(∀ p∈ps,H1 p.1=none)/\(l::ps.map (·.1)).Nodup/\(∀ p∈ps,In2 S (l::ps.map (·.1)++ex) H2 p)/\S.inv n2 H2/\(∀ j:Nat,k<=j->σ'[j]? = (Yv k idx σ)[j]?)/\σ'.length=(Yv k idx σ).length,
  ⟨items.length,Xu _,rfl,n1,[],by simpa using hc,Kp.new hl _,Jj,Qm _,(λ p hp=>by cases hp),by simp,(λ p hp=>by cases hp),S.keep s1.2 λ b _ o' e=>Kp.new (ex:=[]) hl _ _ _ e (by simp),λ _ _=>rfl,rfl⟩,?_⟩
 rintro i m σ' H2 ⟨hi,rfl,n2,ps,hcm,kp,h2l,hvl,hno,hnd,hin,iv2,hsl,hln⟩
 have hL:∀ b∈l::ps.map (·.1),H1 b=none:=λ b hb=>by
  rcases Qh.mp hb with rfl | hb
  . exact hl
  . obtain ⟨p,hp,rfl⟩:=Qo.mp hb
    exact hno p hp
 have hL2:∀ b∈l::ps.map (·.1),H2 b≠none:=λ b hb=>by
  rcases Qh.mp hb with rfl | hb
  . rw [h2l];exact Xw _
  . obtain ⟨p,hp,rfl⟩:=Qo.mp hb
    obtain ⟨vs,h1,_⟩:=(hin p hp).h
    rw [h1];exact Xw _
 have E2:Ev S (l::ps.map (·.1)++ex) (Jdx k idx env) σ' H2 n2:=Jme E1 hL (kp.mono λ b hb=>(Qh.mp hb).elim (λ e=>by rw [e];exact Xn _ Qn) λ h=>Xf _ h) hL2 iv2 Jhs hsl hln
 have IT:=hit l H2 hl kp λ a ha=>(Qh.mp ha).elim (λ e=>by rw [e,h2l];exact Xw _) λ h=>E2.al a (Xf _ h)
 rcases Uq i items.length with hlt | hge
 . refine .inr ⟨(IT.2 i items[i] (Qg hlt)).1,λ x H3 y=>?_⟩
   obtain ⟨kp3,rx⟩:=(IT.2 i items[i] (Qg hlt)).2 x H3 y
   have rx':=Jho (X7.mp hsc items[i] (Q8 hlt)) rx (l::ps.map (·.1)++ex)
   rw [J5h hlt] at hcm
   have st3:Y6 S n2 H2 H3:=Y6.new E2.inv kp3
   have E3:=E2.step st3
   refine G.gv E3 rx' hcm λ env' σ2 ht E4 _ hs2' hl2=>tv_noTest.tv E4 (P:=λ c n'=>c=true/\n'=n2) ⟨rfl,rfl⟩ λ c n4 H4 h4 s4=>?_
   obtain ⟨rfl,rfl⟩:=h4
   have hs2:∀ j:Nat,k<=j->σ2[j]? = (Yv k idx σ)[j]?:=λ j hj=>by
    rw [hs2' j λ z=>by have:=hkk j z;omega];exact hsl j hj
   refine A.nv (E4.step s4) ht λ ds n5 a vs H5 h5 s5 ha hla hzv r5=>?_
   have s24:=st3.trans s4
   have s25:=s24.trans s5
   have k5:Kp S.ch H2 H5:=s25.1
   have h5l:H5 l=some (.lst (Wg ps)):=k5 _ _ h2l lch
   have an:a∉l::ps.map (·.1)++ex:=λ z=>(E4.step s4).al a z ha
   have ac:a∉S.ch:=λ z=>an (E4.ch a z)
   have ha1:H1 a=none:=by
    cases e:H1 a with
    | none=>rfl
    | some u=>
     have e2:=kp a u e λ z=>(Qh.mp z).elim (λ q=>an (by rw [q];exact Xn _ Qn)) ac
     rw [s24.1 a u e2 ac] at ha;cases ha
   have al:a≠l:=λ e=>an (by rw [e];exact Xn _ Qn)
   have msub:∀ b∈l::(ps++[(a,ds)]).map (·.1)++ex,b∈a::(l::ps.map (·.1)++ex):=λ b hb=>by
    simp only [Xg,Xa,J2c,J2j,Qh,Xk,X4,or_false] at hb ⊢
    rcases hb with h | (h | h) | h
    . exact .inr (.inl h)
    . exact .inr (.inr (.inl h))
    . exact .inl h
    . exact .inr (.inr (.inr h))
   have mup:∀ b∈l::ps.map (·.1)++ex,b∈l::(ps++[(a,ds)]).map (·.1)++ex:=λ b hb=>by
    simp only [Xg,Xa,J2c,J2j,Qh,Xk,X4,or_false] at hb ⊢
    rcases hb with h | h | h
    . exact .inl h
    . exact .inr (.inl (.inl h))
    . exact .inr (.inr h)
   have lin:l∈l::(ps++[(a,ds)]).map (·.1)++ex:=Xn _ Qn
   refine ⟨Wg ps,h5l,by unfold Wg;rw [Qb];omega,_,(?_:items.length-(i+1)<_),hlt,rfl,n5,ps++[(a,ds)],?_,?_,?_,?_,?_,?_,?_,?_,hs2,hl2.trans hln⟩
   . omega
   . simpa using h5
   . exact (kp.trans (k5.mono λ b hb=>Ql _ hb)).trans (Kp.at Qn _)
   . rw [Jj];unfold Wg;rw [Xg];rfl
   . rw [Xp,J1y];omega
   . intro p hp
     rcases Xk.mp hp with hp | hp
     . exact hno p hp
     . rw [Qu.mp hp];exact ha1
   . rw [Xg,<- J2j]
     refine J5k.mpr ⟨hnd,by simp,?_⟩
     intro b hb c hc e
     have e':b=a:=e.trans (Qu.mp hc)
     exact an (Xn _ (e'▸hb))
   . intro p hp
     rcases Xk.mp hp with hp | hp
     . have w:=hin p hp
       obtain ⟨us,g1,g2,g3⟩:=w.h
       have pl:p.1≠l:=λ e=>(Xz.mp hnd).1 (by rw [<- e];exact Qo.mpr ⟨p,hp,rfl⟩)
       refine ⟨mup p.1 w.m,w.c,us,by rw [Jh pl];exact k5 _ _ g1 w.c,g2,?_⟩
       have q4:Reps (l::ps.map (·.1)++ex) H4 p.2 us:=g3.keep (s24.1.mono E2.ch)
       have q5:Reps (a::(l::ps.map (·.1)++ex)) H5 p.2 us:=(Reps.add ha q4).keep (s5.1.mono λ b hb=>Ql _ (E2.ch b hb))
       exact (Reps.mono msub q5).keep (Kp.at lin _)
     . rw [Qu.mp hp]
       refine ⟨?_,ac,vs,by rw [Jh al];exact hla,hzv,(Reps.mono msub r5).keep (Kp.at lin _)⟩
       simp
   . exact S.keep s25.2 λ b hb o e=>by rw [Jh (λ z=>lch (by rw [<- z];exact hb))];exact e
 . have e:i=items.length:=by omega
   subst e
   rw [J5i] at hcm
   have hcm':P (ps.map (·.2)) n2:=by simpa [Jkw] using hcm
   refine .inl ⟨IT.1,kk ps n2 l H2 hcm' ⟨λ b o e nb=>kp b o (s1.1 b o e nb) λ z=>(Qh.mp z).elim (λ e2=>by rw [e2,s1.free hl] at e;cases e) nb,iv2⟩ (s1.free hl) (λ p hp=>s1.free (hno p hp)) ⟨h2l,by omega,(λ _ h=>by cases h),hnd,Xn _ Qn,lch,hin⟩⟩⟩
theorem Rep.adds {ex:List Addr}{H:Hp}{d:J8j}{v:V}:∀ {L:List Addr},(∀ b∈L,H b=none)->Rep ex H d v->Rep (L++ex) H d v
 | [],_,r=>r
 | l::L,h,r=>Rep.add (h l Qn) (Rep.adds (λ b hb=>h b (Ql _ hb)) r)
section
variable {C:Cv}{ex:List Addr}{env:List Vl}{σ:L2.St}{H H':Hp}{n m:Nat}
theorem Jky {i:Nat}{ks:Option (List Key)}{ps:List (Addr×List J8j)}{a b:Addr}(h:b∈Jv (env.set i (.own2 ks ps)) (σ.set i (some (.ref a))) i):b∈a::ps.map (·.1):=by
 unfold Jv at h
 split at h
 . rename_i e1 e2
   have:=Jaw e1
   cases this
 . rename_i e1 e2
   have:=Jaw e1
   cases this
 . rename_i c e1 e2
   have e3:(σ.set i (some (.ref a)))[i]? = some (some (.ref c)):=Jt e2
   have h3:=Jaw e3
   cases h3
   have h4:=Jaw e1
   cases h4
   exact h
 . cases h
theorem At.own2 (A:At C ex env σ H n) {i:Nat}{ks:Option (List Key)}{ps:List (Addr×List J8j)}{a:Addr}(s:Y6 C.S m H H') (ha:H a=none) (hp:∀ p∈ps,H p.1=none) (q:Own2 C.S (a::ps.map (·.1)++ex) H' ks ps a) :
 At C (a::ps.map (·.1)++ex) (env.set i (.own2 ks ps)) (σ.set i (some (.ref a))) H' m:=by
 have hL:∀ b∈a::ps.map (·.1),H b=none:=λ b hb=>by
  rcases Qh.mp hb with rfl | hb
  . exact ha
  . obtain ⟨p,h,rfl⟩:=Qo.mp hb
    exact hp p h
 have hL2:∀ b∈a::ps.map (·.1),H' b≠none:=λ b hb=>by
  rcases Qh.mp hb with rfl | hb
  . rw [q.h];exact Xw _
  . obtain ⟨p,h,rfl⟩:=Qo.mp hb
    obtain ⟨vs,h1,_⟩:=(q.i p h).h
    rw [h1];exact Xw _
 have hc:∀ b∈C.S.ch,b∈a::ps.map (·.1)++ex:=λ b h=>Xf _ (A.ev.ch b h)
 have E1:Ev C.S (a::ps.map (·.1)++ex) env σ H' m:=by
  refine ⟨A.ev.len,λ j w e=>(SlR.adds hL (A.ev.sl j w e)).kp hc s.1,hc,λ b hb=>?_,s.2⟩
  rcases Xk.mp hb with hb | hb
  . exact hL2 b hb
  . exact A.ev.al.step s b hb
 refine ⟨E1.put ⟨a,rfl,q⟩,λ b h=>Xf _ (A.ex0 b h),A.al0,λ j k b h1 h2=>?_,λ j b h=>?_,A.kp.trans s.1,λ h hh=>(Rep.adds hL (A.held h hh)).keep (s.1.mono hc)⟩
 . by_cases hj:i=j
   . subst hj
     have e:=hL b (Jky h1)
     by_cases hk:i=k
     . exact hk
     . rw [Vq hk] at h2
       exact absurd e (Jcn A.ev h2).1
   . rw [Vq hj] at h1
     by_cases hk:i=k
     . subst hk
       exact absurd (hL b (Jky h2)) (Jcn A.ev h1).1
     . rw [Vq hk] at h2
       exact A.sep j k b h1 h2
 . by_cases hj:i=j
   . subst hj
     exact A.free (hL b (Jky h))
   . rw [Vq hj] at h
     exact A.new j b h
theorem Jjx {i:Nat}{ks:Option (List Key)}{ps qs:List (Addr×List J8j)}(h:env[i]? = some (.own2 ks ps)) (e:qs.map (·.1)=ps.map (·.1)):∀ j,Jv (env.set i (.own2 ks qs)) σ j=Jv env σ j:=λ j=>by
 unfold Jv
 by_cases hj:i=j
 . subst hj
   rw [Q9 (Qs.mp h).1,h]
   cases (σ[i]?).join with
   | none=>rfl
   | some v=>cases v<;>first | rfl | (show _::_=_::_;rw [e])
 . rw [Q6 hj]
theorem Jel {α:Type}{l:List α}{m:Nat}{a b:α}(h:b∈l.set m a):b=a\/∃ k,k≠m/\l[k]? = some b:=by
 obtain ⟨k,hk⟩:=Uj.mp h
 by_cases e:m=k
 . subst e
   exact .inl (Jaw hk)
 . rw [Q6 e] at hk
   exact .inr ⟨k,λ z=>e z.symm,hk⟩
theorem Jz8 {l:List Addr}(hn:l.Nodup) {k m:Nat}{a b:Addr}(h:l[k]? = some a) (g:l[m]? = some b) (e:k≠m):a≠b:=by
 intro z
 subst z
 obtain ⟨h1,h2⟩:=Qs.mp h
 obtain ⟨g1,g2⟩:=Qs.mp g
 have pw:=J5l.mp hn
 rcases Nat.lt_or_gt_of_ne e with lt | gt
 . exact pw k m h1 g1 lt (h2.trans g2.symm)
 . exact pw m k g1 h1 gt (g2.trans h2.symm)
theorem At.re2 (A:At C ex env σ H n) {i j:Nat}{ks:Option (List Key)}{ps:List (Addr×List J8j)}{p:Addr×List J8j}{ys:List J8j}{ws:List V}{a:Addr}(h:env[i]? = some (.own2 ks ps)) (hs:(σ[i]?).join=some (.ref a)) (hp:ps[j]? = some p) (r:Reps ex H ys ws) (hz:ws.length<=sizeLine) :
 At C ex (env.set i (.own2 ks (ps.set j (p.1,ys)))) σ (upd H p.1 (.lst ws)) n:=by
 obtain ⟨a',e',q⟩:=A.ev.sl i _ h
 rw [hs] at e'
 cases e'
 have hpm:=Xo hp
 have hmap:(ps.set j (p.1,ys)).map (·.1)=ps.map (·.1):=by
  rw [X5]
  refine Xv λ k=>?_
  by_cases e:j=k
  . subst e
    rw [Q9 (by rw [Qb];exact (Qs.mp hp).1),Qk,hp];rfl
  . rw [Q6 e]
 have hrefs:Wg (ps.set j (p.1,ys))=Wg ps:=by
  have e1:∀ l:List (Addr×List J8j),Wg l=(l.map (·.1)).map V.ref:=λ l=>by unfold Wg;rw [Q0];rfl
  rw [e1,e1,hmap]
 have ha:p.1∈Jv env σ i:=by unfold Jv;rw [h,hs];exact Ql _ (Qo.mpr ⟨p,hpm,rfl⟩)
 obtain ⟨h1,h2,h3⟩:=Jcn A.ev ha
 have h0:=A.new i p.1 ha
 have kx:Kp ex H (upd H p.1 (.lst ws)):=Kp.at h2 _
 have pa:a≠p.1:=λ z=>(Xz.mp q.nd).1 (by rw [z];exact Qo.mpr ⟨p,hpm,rfl⟩)
 have hn2:=(Xz.mp q.nd).2
 refine ⟨⟨by rw [Qq];exact A.ev.len,λ k w e=>?_,A.ev.ch,λ b hb=>?_,C.S.keep A.ev.inv λ b hb o e=>by rw [Jh (λ z=>h3 (by rw [<- z];exact hb))];exact e⟩,A.ex0,A.al0,λ k l b q1 q2=>?_,λ k b q=>?_,Kp.late A.kp h0 _,λ x hx=>(A.held x hx).keep kx⟩
 . by_cases hk:i=k
   . subst hk
     rw [Q9 (Qs.mp h).1] at e
     cases e
     refine ⟨a,hs,⟨by rw [Jh pa,hrefs];exact q.h,by rw [Qq];exact q.z,λ l hl=>by rw [Qq];exact q.k l hl,by rw [hmap];exact q.nd,q.m,q.c,λ t ht=>?_⟩⟩
     rcases Jel ht with rfl | ⟨k,hkj,hk⟩
     . exact ⟨h2,h3,ws,Jj,hz,r.keep kx⟩
     . have w:=q.i t (Xo hk)
       have tp:t.1≠p.1:=Jz8 hn2 (k:=k) (m:=j) (by rw [Qk,hk];rfl) (by rw [Qk,hp];rfl) hkj
       obtain ⟨us,g1,g2,g3⟩:=w.h
       exact ⟨w.m,w.c,us,by rw [Jh tp];exact g1,g2,g3.keep kx⟩
   . rw [Q6 hk] at e
     exact SlR.upd h2 (λ b hb z=>hk (A.sep i k p.1 ha (by rw [Jdd e,<- z];exact hb))) (A.ev.sl k w e)
 . by_cases hb2:b=p.1
   . rw [hb2,Jj];intro z;cases z
   . rw [Jh hb2];exact A.ev.al b hb
 . rw [Jjx h hmap] at q1 q2;exact A.sep k l b q1 q2
 . rw [Jjx h hmap] at q;exact A.new k b q
end
def Jjy (i:Nat) (wi:TI) (k:Nat) (idx:List Nat) (g:TG) (tt:TT) (te:TE):TS:=Bo i wi k idx g tt te
theorem Juy {X:Cx}{st:Stmt}{i:Nat}{wi:TI}{k:Nat}{idx:List Nat}{g:TG}{tt:TT}{te:TE}(h:PS X st (Bo i wi k idx g tt te)):PS X st (Jjy i wi k idx g tt te):=h
abbrev Jwq (i:Nat) (g:GN2):GS:=λ G env n=>g env n λ xss n1=>∀ ps:List (Addr×List J8j),ps.map (·.2)=xss->G.nx (env.set i (.own2 none ps)) n1
instance sv_set2 {i:Nat}{wi:TI}{k:Nat}{idx:List Nat}{g:TG}{tt:TT}{te:TE}{gn:GN2} [E:N2 (Jbe wi k idx g tt te) gn]:SV (Jjy i wi k idx g tt te) (Jwq i gn):=⟨λ {C G D} O {ex env σ H n} A h=>
 show Jbe wi k idx g tt te σ H (λ v H2=>D.nx (σ.set i (some v)) H2) from E.n2 A.ev h λ ps n1 a H1 h1 s1 ha hp q=>O.nx (A.own2 s1 ha hp q) (h1 ps rfl)⟩
abbrev Jx6 (i:Nat) (gx gy ge:GE):GS:=λ G env n=>ge env n λ d n1=>match env[i]? with
 | some (.own2 none ps)=>gx env n1 λ x n2=>(match x with
  | .int x=>∃ m p,ixN ps.length x=some m/\ps[m]? = some p/\gy env n2 λ y n3=>(match y with
   | .int y=>∃ m',ixN p.2.length y=some m'/\G.nx (env.set i (.own2 none (ps.set m (p.1,p.2.set m' d)))) n3
   | _=>False)
  | _=>False)
 | _=>False
theorem Juz {ps:List (Addr×List J8j)}{x:Int}{m:Nat}{p:Addr×List J8j}(h:ixN ps.length x=some m) (hp:ps[m]? = some p):atI (Wg ps) x=some (V.ref p.1):=by
 unfold atI Wg
 rw [Qb,h]
 show (ps.map λ p=>V.ref p.1)[m]? = _
 rw [Qk,hp];rfl
instance sv_set2I {K:Qc}{i:Nat}{te tx ty:TE}{ge gx gy:GE} [E:EV true te ge] [X:EV false tx gx] [Y:EV false ty gy]:SV (Jfd te (Jnm (tOp (Jlw K) (Z8 i) tx) ty Jhh)) (Jx6 i gx gy ge):=⟨λ {C G D} O {ex env σ H n} A h=>by
 refine E.ev A.ev h λ d n1 v H1 hd s1 r=>?_
 have A1:=A.step s1
 split at hd
 . rename_i ps e
   obtain ⟨a,ev,q⟩:=A1.ev.sl i _ e
   refine ⟨_,Jt ev,X.ev A1.ev hd λ x n2 xv H2 hx s2 rx=>?_⟩
   have A2:=A1.step s2
   cases rx with
   | int x=>
    obtain ⟨m,p,hm,hp,hy⟩:=hx
    obtain ⟨a2,ev2,q2⟩:=A2.ev.sl i _ e
    rw [ev] at ev2
    cases ev2
    refine ⟨a,Wg ps,x,_,rfl,rfl,SqL.of q2.h,Juz hm hp,Y.ev A2.ev hy λ y n3 yv H3 hy' s3 ry=>?_⟩
    have A3:=A2.step s3
    obtain ⟨a3,ev3,q3⟩:=A3.ev.sl i _ e
    rw [ev] at ev3
    cases ev3
    cases ry with
    | int y=>
     obtain ⟨m',hm',hq⟩:=hy'
     obtain ⟨vs,g1,g2,g3⟩:=(q3.i p (Xo hp)).h
     have l:=g3.length
     have r3:Rep ex H3 d v:=A2.ev.rep s3 (A1.ev.rep s2 r)
     exact ⟨p.1,vs,y,m',rfl,rfl,g1,by rw [<- l];exact hm',O.nx (A3.re2 e ev hp (Jht r3 m' g3) (by rw [Qq];exact g2)) hq⟩
    | none=>exact hy'.elim
    | obj=>exact hy'.elim
    | dctf=>exact hy'.elim
    | bool=>exact hy'.elim
    | str=>exact hy'.elim
    | tuple=>exact hy'.elim
    | list=>exact hy'.elim
   | none=>exact hx.elim
   | obj=>exact hx.elim
   | dctf=>exact hx.elim
   | bool=>exact hx.elim
   | str=>exact hx.elim
   | tuple=>exact hx.elim
   | list=>exact hx.elim
 . exact hd.elim⟩
section
variable {C:Cv}{ex:List Addr}{env:List Vl}{σ:L2.St}{H H':Hp}{n m:Nat}
theorem At.more (A:At C ex env σ H n) {b:Addr}(s:Y6 C.S m H H') (hb:H b=none) (h2:H' b≠none):At C (b::ex) env σ H' m:=by
 have hc:∀ c∈C.S.ch,c∈b::ex:=λ c h=>Ql _ (A.ev.ch c h)
 refine ⟨⟨A.ev.len,λ j w e=>(SlR.add hb (A.ev.sl j w e)).kp hc s.1,hc,λ c hc=>?_,s.2⟩,λ c h=>Ql _ (A.ex0 c h),A.al0,A.sep,A.new,A.kp.trans s.1,λ h hh=>(Rep.add hb (A.held h hh)).keep (s.1.mono hc)⟩
 rcases Qh.mp hc with rfl | hc
 . exact h2
 . exact A.ev.al.step s c hc
theorem Jsm {ps:List (Addr×List J8j)}{j:Nat}{b:Addr}{ds:List J8j}:Wg (ps.set j (b,ds))=(Wg ps).set j (.ref b):=by unfold Wg;rw [X5]
theorem Jqz {l:List Addr}(h:l.Nodup) {b:Addr}(hb:b∉l) (j:Nat):(l.set j b).Nodup:=by
 induction l generalizing j with
 | nil=>simp
 | cons x xs ih=>
  have h1:=Xz.mp h
  cases j with
  | zero=>exact Xz.mpr ⟨λ z=>hb (Ql _ z),h1.2⟩
  | succ j=>
   refine Xz.mpr ⟨λ z=>?_,ih h1.2 (λ z=>hb (Ql _ z)) j⟩
   rcases Jel z with e | ⟨k,_,hk⟩
   . exact hb (by rw [<- e];exact Qn)
   . exact h1.1 (Xo hk)
theorem At.row2 (A:At C ex env σ H n) {i j:Nat}{ps:List (Addr×List J8j)}{ds:List J8j}{vs:List V}{a b:Addr}(h:env[i]? = some (.own2 none ps)) (hs:(σ[i]?).join=some (.ref a)) (bm:b∈ex) (bc:b∉C.S.ch) (hb:H b=some (.lst vs)) (hz:vs.length<=sizeLine) (r:Reps ex H ds vs) (bo:∀ k,b∉Jv env σ k) (b0:C.H0 b=none) :
 At C ex (env.set i (.own2 none (ps.set j (b,ds)))) σ (upd H a (.lst ((Wg ps).set j (.ref b)))) n:=by
 obtain ⟨a',e',q⟩:=A.ev.sl i _ h
 rw [hs] at e'
 cases e'
 have oi:Jv env σ i=a::ps.map (·.1):=by unfold Jv;rw [h,hs]
 have ha:a∈Jv env σ i:=by rw [oi];exact Qn
 have bi:=bo i
 rw [oi] at bi
 have ba:b≠a:=λ z=>bi (by rw [z];exact Qn)
 have bp:b∉ps.map (·.1):=λ z=>bi (Ql _ z)
 have h0:=A.new i a ha
 have kx:Kp ex H (upd H a (.lst ((Wg ps).set j (.ref b)))):=Kp.at q.m _
 have hmap:(ps.set j (b,ds)).map (·.1)=(ps.map (·.1)).set j b:=by rw [X5]
 have nd2:=Xz.mp q.nd
 have oo:∀ k c,c∈Jv (env.set i (.own2 none (ps.set j (b,ds)))) σ k->c∈Jv env σ k\/(c=b/\k=i):=λ k c hc=>by
  by_cases hk:i=k
  . subst hk
    have e2:Jv (env.set i (.own2 none (ps.set j (b,ds)))) σ i=a::(ps.set j (b,ds)).map (·.1):=by unfold Jv;rw [Q9 (Qs.mp h).1,hs]
    rw [e2,hmap] at hc
    rw [oi]
    rcases Qh.mp hc with e | hc
    . exact .inl (by rw [e];exact Qn)
    . rcases Jel hc with e | ⟨t,_,ht⟩
      . exact .inr ⟨e,rfl⟩
      . exact .inl (Ql _ (Xo ht))
  . have e2:Jv (env.set i (.own2 none (ps.set j (b,ds)))) σ k=Jv env σ k:=by unfold Jv;rw [Q6 hk]
    rw [e2] at hc
    exact .inl hc
 refine ⟨⟨by rw [Qq];exact A.ev.len,λ k w e=>?_,A.ev.ch,λ c hc=>?_,C.S.keep A.ev.inv λ c hc o e=>by rw [Jh (λ z=>q.c (by rw [<- z];exact hc))];exact e⟩,A.ex0,A.al0,λ k l c q1 q2=>?_,λ k c q=>?_,Kp.late A.kp h0 _,λ x hx=>(A.held x hx).keep kx⟩
 . by_cases hk:i=k
   . subst hk
     rw [Q9 (Qs.mp h).1] at e
     cases e
     refine ⟨a,hs,⟨by rw [Jj,Jsm];rfl,by rw [Qq];exact q.z,(λ l hl=>by cases hl),?_,q.m,q.c,λ t ht=>?_⟩⟩
     . rw [hmap]
       refine Xz.mpr ⟨λ z=>?_,Jqz nd2.2 bp j⟩
       rcases Jel z with e | ⟨t,_,ht⟩
       . exact ba e.symm
       . exact nd2.1 (Xo ht)
     . rcases Jel ht with rfl | ⟨k,_,hk⟩
       . exact ⟨bm,bc,vs,by rw [Jh ba];exact hb,hz,r.keep kx⟩
       . have w:=q.i t (Xo hk)
         have ta:t.1≠a:=λ z=>nd2.1 (by rw [<- z];exact Qo.mpr ⟨t,Xo hk,rfl⟩)
         obtain ⟨us,g1,g2,g3⟩:=w.h
         exact ⟨w.m,w.c,us,by rw [Jh ta];exact g1,g2,g3.keep kx⟩
   . rw [Q6 hk] at e
     exact SlR.upd q.m (λ c hc z=>hk (A.sep i k a ha (by rw [Jdd e,<- z];exact hc))) (A.ev.sl k w e)
 . by_cases hc2:c=a
   . rw [hc2,Jj];intro z;cases z
   . rw [Jh hc2];exact A.ev.al c hc
 . rcases oo k c q1 with h1 | ⟨rfl,rfl⟩
   . rcases oo l c q2 with h2 | ⟨rfl,rfl⟩
     . exact A.sep k l c h1 h2
     . exact absurd h1 (bo k)
   . rcases oo l c q2 with h2 | ⟨_,rfl⟩
     . exact absurd h2 (bo l)
     . rfl
 . rcases oo k c q with h1 | ⟨rfl,_⟩
   . exact A.new k c h1
   . exact b0
end
def Jsn (te:TE) (i:Nat) (tx:TE):TS:=Jfd te (Jnm (Z8 i) tx Jhh)
theorem Jpl {X:Cx}{st:Stmt}{te tx:TE}{i:Nat}(h:PS X st (Jfd te (Jnm (Z8 i) tx Jhh))):PS X st (Jsn te i tx):=h
abbrev Jx7 (i:Nat) (gx:GE) (gn:GN):GS:=λ G env n=>gn env n λ ds n1=>match env[i]? with
 | some (.own2 none ps)=>gx env n1 λ x n2=>(match x with
  | .int x=>∃ j,ixN ps.length x=some j/\∀ b:Addr,G.nx (env.set i (.own2 none (ps.set j (b,ds)))) n2
  | _=>False)
 | _=>False
instance sv_set2R {i:Nat}{te tx:TE}{gn:GN}{gx:GE} [E:NV te gn] [X:EV false tx gx]:SV (Jsn te i tx) (Jx7 i gx gn):=⟨λ {C G D} O {ex env σ H n} A h=>by
 refine E.nv A.ev h λ ds n1 b vs H1 hd s1 hb hl hz r=>?_
 have A1:=A.more s1 hb (by rw [hl];exact Xw _)
 split at hd
 . rename_i ps e
   obtain ⟨a,ev,q⟩:=A1.ev.sl i _ e
   refine ⟨_,Jt ev,X.ev A1.ev hd λ x n2 xv H2 hx s2 rx=>?_⟩
   have A2:=A1.step s2
   have bc:b∉C.S.ch:=λ z=>C.S.dom A.ev.inv b z hb
   cases rx with
   | int x=>
    obtain ⟨j,hj,hq⟩:=hx
    obtain ⟨a2,ev2,q2⟩:=A2.ev.sl i _ e
    rw [ev] at ev2
    cases ev2
    refine ⟨a,Wg ps,x,j,rfl,rfl,q2.h,by unfold Wg;rw [Qb];exact hj,?_⟩
    exact O.nx (A2.row2 e ev Qn bc (s2.1 _ _ hl bc) hz (A1.ev.reps s2 r) (λ k z=>(Jcn A.ev z).1 hb) (A.free hb)) (hq b)
   | none=>exact hx.elim
   | obj=>exact hx.elim
   | dctf=>exact hx.elim
   | bool=>exact hx.elim
   | str=>exact hx.elim
   | tuple=>exact hx.elim
   | list=>exact hx.elim
 . exact hd.elim⟩
theorem Jfq {ex:List Addr}{H:Hp}:∀ {ds:List J8j}{vs:List V},ds.all W6=true->Reps ex H ds vs->∀ ex',Reps ex' H ds vs
 | _,_,_,.nil,_=>.nil
 | d::ds,_,h,.cons r rs,ex'=>by
  rw [J2d,Ua] at h
  exact .cons (Jho h.1 r ex') (Jfq h.2 rs ex')
def Jwr (K:Qc) (ta:TA):TI:=Jn4 K ta
theorem Ju0 {X:Cx}{tg e:Expr}{K:Qc}{ta:TA}(h:PI X tg e (Jn4 K ta)):PI X tg e (Jwr K ta):=h
abbrev Jz9 (t:GN):GN:=λ env n Q=>t env n λ ds n1=>∃ d e xs ys,ds=[d,e]/\Jn8 d=some xs/\Jn8 e=some ys/\(xs.all W6=true/\ys.all W6=true)/\Q (Ba xs ys) n1
instance ic_zip2 {K:Qc}{t:TA}{gt:GN} [A:DV false t gt]:IC (Jwr K t) (Jz9 gt):=⟨λ {S ex env σ H n R P} E h k=>A.dv E h λ ds n1 vs H1 h1 s1 r1=>by
 obtain ⟨d,e,xs,ys,rfl,hs,hs',⟨c1,c2⟩,q⟩:=h1
 cases r1 with
 | cons r1 t=>
  cases t with
  | cons r2 t=>
   cases t
   obtain ⟨c,a,ws,rfl,hq,rs,hc,na⟩:=Jek r1 hs
   obtain ⟨c',a',ws',rfl,hq',rs',hc',na'⟩:=Jek r2 hs'
   refine ⟨c,c',a,a',ws,ws',rfl,hq K,hq' K,k _ _ _ _ q s1 λ l H2 hl kp al=>?_⟩
   have w1:=(Rep.add hl r1).keep kp
   have w2:=(Rep.add hl r2).keep kp
   obtain ⟨v1,h3,h4⟩:=Jcm hs hc r1 _ H2 w1
   obtain ⟨v2,h5,h6⟩:=Jcm hs' hc' r2 _ H2 w2
   exact Jn9 al (h3 K) (Jfq c1 h4 _) (h5 K) (Jfq c2 h6 _)⟩
noncomputable def Jag (R:Nat) (f:Nat->Nat->Bool) (a:Nat):List J8j:=(Qf R).map λ b=>.bool (f a b)
noncomputable def Bw (R:Nat) (f:Nat->Nat->Bool):List (List J8j):=(Qf R).map (Jag R f)
section
variable {R a x y:Nat}{f g:Nat->Nat->Bool}
theorem Jcp:(Jag R f a).length=R:=by unfold Jag;rw [Qb,Qw]
theorem Jah:(Bw R f).length=R:=by unfold Bw;rw [Qb,Qw]
theorem Jem (h:y<R):(Jag R f a)[y]? = some (.bool (f a y)):=by
 unfold Jag;rw [Qk,Xi h];rfl
theorem Jbi (h:x<R):(Bw R f)[x]? = some (Jag R f x):=by
 unfold Bw;rw [Qk,Xi h];rfl
theorem Jh1 (h:∀ b,b<R->f a b=g x b):Jag R f a=Jag R g x:=by
 unfold Jag
 exact U0 λ b hb=>by rw [h b (Q5.mp hb)]
theorem Jh2 (h:∀ a,a<R->∀ b,b<R->f a b=g a b):Bw R f=Bw R g:=by
 unfold Bw
 exact U0 λ a ha=>Jh1 (h a (Q5.mp ha))
theorem Jmf (hx:x<R) (h2:∀ a,a<R->a≠x->∀ b,b<R->g a b=f a b) {r:List J8j}(hr:r=Jag R g x):(Bw R f).set x r=Bw R g:=by
 apply Xv
 intro i
 by_cases hi:x=i
 . subst hi
   rw [Q9 (by rw [Jah];exact hx),Jbi hx,hr]
 . rw [Q6 hi]
   by_cases hl:i<R
   . rw [Jbi hl,Jbi hl,Jh1 λ b hb=>(h2 i hl (λ z=>hi z.symm) b hb).symm]
   . rw [Qx (by rw [Jah];omega),Qx (by rw [Jah];omega)]
theorem Jso (hy:y<R) {v:Bool}(h1:g a y=v) (h2:∀ b,b<R->b≠y->g a b=f a b):(Jag R f a).set y (.bool v)=Jag R g a:=by
 apply Xv
 intro i
 by_cases hi:y=i
 . subst hi
   rw [Q9 (by rw [Jcp];exact hy),Jem hy,h1]
 . rw [Q6 hi]
   by_cases hl:i<R
   . rw [Jem hl,Jem hl,h2 i hl λ z=>hi z.symm]
   . rw [Qx (by rw [Jcp];omega),Qx (by rw [Jcp];omega)]
theorem Jjz:(Jag R f a).all W6=true:=by
 unfold Jag
 rw [X7]
 intro x hx
 obtain ⟨b,_,rfl⟩:=Qo.mp hx
 rfl
theorem Jpm:(Ba (Jag R f a) (Jag R f x))=(Qf R).map λ b=>.tuple [.bool (f a b),.bool (f x b)]:=by
 unfold Ba Jag
 rw [List.zipWith_map_left,List.zipWith_map_right,List.zipWith_self]
end
theorem Jmg {ps:List (Addr×List J8j)}{m:List (List J8j)}(h:ps.map (·.2)=m) {x:Nat}{r:List J8j}(hr:m[x]? = some r):∃ p,ps[x]? = some p/\p.2=r:=by
 subst h
 rw [Qk] at hr
 exact U7.mp hr
theorem Jh3 {ps:List (Addr×List J8j)}{m:List (List J8j)}(h:ps.map (·.2)=m):ps.length=m.length:=by rw [<- h,Qb]
theorem Jmh {ps:List (Addr×List J8j)}{m m':List (List J8j)}(h:ps.map (·.2)=m) {x:Nat}{b:Addr}{r:List J8j}(hr:m.set x r=m'):(ps.set x (b,r)).map (·.2)=m':=by rw [X5,h];exact hr
theorem Jkz {ps:List (Addr×List J8j)}{R:Nat}{f:Nat->Nat->Bool}(h:ps.map (·.2)=Bw R f) {x:Int}(h0:0<=x) (h1:x<R):atI (ps.map λ p=>Ur p.2) x=some (.list (Jag R f x.toNat)):=by
 have hx:x.toNat<R:=by omega
 obtain ⟨p,hp,e⟩:=Jmg h (Jbi (f:=f) hx)
 unfold atI
 rw [Qb,Jcg h0 (by rw [Jh3 h,Jah];exact h1)]
 show (ps.map λ p=>Ur p.2)[x.toNat]? = _
 rw [Qk,hp,<- e];rfl
theorem Jsp {R a:Nat}{f:Nat->Nat->Bool}{y:Int}(h0:0<=y) (h1:y<R):atI (Jag R f a) y=some (.bool (f a y.toNat)):=by
 unfold atI
 rw [Jcp,Jcg h0 h1]
 exact Jem (by omega)
theorem Jmi {turn:J8j->Nat->(List J8j->Nat->Prop)->Prop}{n:Nat}(f:Nat->List J8j) {e:Nat->J8j}:∀ (l:List Nat) {Q:List (List J8j)->Nat->Prop},(∀ i∈l,∀ K:List J8j->Nat->Prop,K (f i) n->turn (e i) n K)->Q (l.map f) n->Jkw turn (l.map e) n Q
 | [],_,_,q=>q
 | i::l,Q,h,q=>by
  show turn (e i) n _
  exact h i Qn _ (Jmi f l (λ j hj=>h j (Ql _ hj)) q)
noncomputable def Jai (ws:List Way) (ks:List Int):List (Nat×Nat):=ks.map λ k=>((Jg ws k).a.toNat,(Jg ws k).b.toNat)
noncomputable def pw0 (es:List (Nat×Nat)) (a b:Nat):Bool:=decide (a=b)||decide ((a,b)∈es)
noncomputable def pwR (es:List (Nat×Nat)) (m r a b:Nat):Bool:=if a<r then Pw es (m+1) a b else Pw es m a b
theorem Ju1 {es:List (Nat×Nat)}{m r b:Nat}:pwR es m r m b=Pw es m m b:=by
 unfold pwR
 split
 . rw [Pw]
   cases Pw es m m b<;>simp
 . rfl
theorem Jk0 {es:List (Nat×Nat)}{a b x y:Nat}:pw0 (es++[(a,b)]) x y=(pw0 es x y||decide (x=a/\y=b)):=by
 unfold pw0
 rw [Bool.or_assoc]
 congr 1
 rw [<- Bool.decide_or]
 exact decide_eq_decide.mpr (by rw [Xk,Qu,Prod.mk.injEq])
theorem Ju2 {R a b:Nat}{es:List (Nat×Nat)}(ha:a<R) (hb:b<R):(Bw R (pw0 es)).set a ((Jag R (pw0 es) a).set b (.bool true))=Bw R (pw0 (es++[(a,b)])):=by
 refine Jmf ha (λ x _ hx y _=>?_) (Jso hb ?_ λ y _ hy=>?_)
 . rw [Jk0,decide_eq_false λ z=>hx z.1,J39]
 . rw [Jk0,decide_eq_true ⟨rfl,rfl⟩,J66]
 . rw [Jk0,decide_eq_false λ z=>hy z.2,J39]
theorem Jh4 {es:List (Nat×Nat)}{m r b:Nat}:pwR es m r r b=Pw es m r b:=if_neg (Q4 r)
theorem Ju3 {R m r:Nat}{es:List (Nat×Nat)}(hr:r<R) (h:Pw es m r m=true):(Bw R (pwR es m r)).set r ((Qf R).map λ b=>.bool (pwR es m r r b||pwR es m r m b))=Bw R (pwR es m (r+1)):=by
 refine Jmf hr (λ x _ hx y _=>?_) ?_
 . unfold pwR
   by_cases c:x<r
   . rw [if_pos c,if_pos (by omega)]
   . rw [if_neg c,if_neg (by omega)]
 . unfold Jag
   refine U0 λ b _=>?_
   rw [Jh4,Ju1,pwR,if_pos (by omega),Pw,h,J5m]
theorem Jx8 {R m r:Nat}{es:List (Nat×Nat)}(h:Pw es m r m=false):Bw R (pwR es m r)=Bw R (pwR es m (r+1)):=by
 refine Jh2 λ x _ y _=>?_
 unfold pwR
 by_cases c:x<r
 . rw [if_pos c,if_pos (by omega)]
 . rw [if_neg c]
   by_cases e:x=r
   . subst e
     rw [if_pos (by omega),Pw,h,J3l,J39]
   . rw [if_neg (by omega)]
theorem J0a {es:List (Nat×Nat)}{m:Nat}:pwR es m 0=Pw es m:=by
 funext a b
 exact if_neg (J2i a)
theorem Ju4 {R m:Nat}{es:List (Nat×Nat)}:Bw R (pwR es m R)=Bw R (Pw es (m+1)):=Jh2 λ _ hx _ _=>if_pos hx
theorem Jx9 {es:List (Nat×Nat)}:pw0 es=Pw es 0:=by
 funext a b
 rw [Pw];rfl
theorem Jpn {k i:Nat}{x:J8j}(h:(Ji5 0 k)[i]? = some x):i<k/\x = .int (i:Int):=by
 unfold Ji5 at h
 rw [Qk] at h
 obtain ⟨j,hj,rfl⟩:=U7.mp h
 obtain ⟨hi,e⟩:=Qs.mp hj
 rw [List.getElem_range] at e
 subst e
 rw [Qw] at hi
 exact ⟨hi,by rw [J2k]⟩
noncomputable def Joc (R:Nat) (es:List (Nat×Nat)):J8j:=.list ((Bw R (Pw es R)).map .list)
def Jk1:GSp:=λ as n Q=>∃ (R U:Int) (ws:List Way) (ks:List Int),as=[.d (J2 R U ws),.d (.list (ks.map .int))]/\BookOk R U ws/\(∀ k∈ks,0<=k/\k<ws.length)/\Q (Joc R.toNat (Jai ws ks)) n
theorem Jsq {ps:List (Addr×List J8j)}{R:Nat}{es:List (Nat×Nat)}(h:ps.map (·.2)=Bw R (Pw es R)):Ur (ps.map λ p=>.list p.2)=Joc R es:=by
 unfold Joc
 rw [<- h,Q0];rfl
theorem Jq0 {ws:List Way}{ks:List Int}{i:Nat}{k:Int}(h:ks[i]? = some k):Jai ws (ks.take (i+1))=Jai ws (ks.take i)++[((Jg ws k).a.toNat,(Jg ws k).b.toNat)]:=by
 unfold Jai
 rw [J5n,h,Xg];rfl
section
variable {X:Cx}{pins:List (Addr×Obj)}{σ:L2.St}{H:Hp}{s:J8k}{a:Addr}{kvs:List (Key×V)}{k:Key}{u:J8i}{A:J8o}{E:J8i->J8k->Prop}
end
section
variable {X:Cx}{o e f:Expr}{apos cpos p pos:Pos}{td ty tx:TE}
end
section
variable {C:Cv}{ex:List Addr}{env:List Vl}{σ:L2.St}{H H':Hp}{n m:Nat}
end
theorem Jsr {R:Nat}{f:Nat->Nat->Bool}{x:Int}(h0:0<=x) (h1:x<R):atI ((Bw R f).map Ur) x=some (.list (Jag R f x.toNat)):=by
 unfold atI
 rw [Qb,Jah,Jcg h0 h1]
 show ((Bw R f).map Ur)[x.toNat]? = _
 rw [Qk,Jbi (by omega)];rfl
theorem Ju5 {ws:List Way}{i:Nat}(h:i<ws.length):(ws.map Ym)[i]? = some (Ym (Jg ws (i:Int))):=Jl5 (Jbw (Xj i) (by omega))
theorem Vw {cs:List Int}{i:Nat}(h:i<cs.length):(cs.map Qi)[i]? = some (.int (cs.getD i 0)):=by
 rw [Qk,Qg h,Qd,Qg h];rfl
noncomputable def Jss (x r:Int):Int:=if x=r then 1 else 0
theorem Jh5 {ws:List Way}{cs:List Int}{r:Int}:∀ i,Yy ws cs i r=((Qf i).map λ j=>cs.getD j 0*(Jss (Jg ws (j:Nat)).b r-Jss (Jg ws (j:Nat)).a r)).sum
 | 0=>rfl
 | i+1=>by
  rw [Yy,Jh5 i,J13,Xg,J35,J2l,J5o]
  unfold Jss
  by_cases h1:(Jg ws (i:Nat)).a=r
  . by_cases h2:(Jg ws (i:Nat)).b=r
    . rw [if_pos h1,if_pos h2,if_pos h1,if_pos h2];simp
    . rw [if_pos h1,if_neg h2,if_pos h1,if_neg h2];omega
  . by_cases h2:(Jg ws (i:Nat)).b=r
    . rw [if_neg h1,if_pos h2,if_neg h1,if_pos h2];omega
    . rw [if_neg h1,if_neg h2,if_neg h1,if_neg h2];omega
theorem Jj0 {ex:List Addr}{H:Hp}:∀ (ns:List Int),Reps ex H (ns.map Qi) (ns.map V.int)
 | []=>.nil
 | n::ns=>.cons (.int n) (Jj0 ns)
theorem Jh6 {X:Cx}{K':Qc}(hK:X.K=K'):OpR X (compareOp .In) (rIn K' false):=hK▸Jfi
theorem Jh7:∀ ns:List Int,Ui (ns.map Qi)=true
 | []=>rfl
 | n::ns=>by rw [Xa,Ui,Jh7 ns];rfl
theorem Jk2:∀ ns:List Int,J11 (ns.map Qi)=0
 | []=>rfl
 | n::ns=>by rw [Xa,J11,Jk2 ns];rfl
theorem neL {ns:List Int}{Q:J8j->Prop}(q:Q (.bool false)):Jus true (Juw ns) (Juw ns) Q:=Jx1 (by unfold Juw;rw [Ub];exact Jh7 ns) (by unfold Juw;rw [J32,Jk2];decide) q
theorem Jpo:∀ ns:List Int,(ns.map Qi).all W6=true
 | []=>rfl
 | n::ns=>by rw [Xa,J2d,Jpo ns];rfl
theorem Jmj {k:Int}{ns:List Int}:inD (.int k) (ns.map .int)=decide (k∈ns):=by
 unfold inD
 induction ns with
 | nil=>rfl
 | cons n ns ih=>
  rw [Xa,J23,ih]
  have:X6 (.int n) (.int k)=decide (n=k):=rfl
  rw [this,U1,J3f,decide_eq_true_iff,decide_eq_true_iff,decide_eq_true_iff,Qh]
  constructor
  . rintro (h | h)
    . exact .inl h.symm
    . exact .inr h
  . rintro (h | h)
    . exact .inl h.symm
    . exact .inr h
noncomputable abbrev J1g:=List Vl->Nat->(List (List J8j)->Nat->Prop)->Prop
section
variable {b:Bool}{i:Nat}{sp:J1g}{E':XK}{t:TA}{gt:GA}
end
theorem Jj1:∀ xs ys:List Int,J7d (xs.map Qi) (ys.map Qi)=decide (xs=ys)
 | [],[]=>rfl
 | [],_::_=>rfl
 | _::_,[]=>rfl
 | x::xs,y::ys=>by
  rw [Xa,Xa,J7d,Jj1 xs ys]
  have:X6 (.int x) (.int y)=decide (x=y):=rfl
  rw [this,U1,Ua,decide_eq_true_iff,decide_eq_true_iff,decide_eq_true_iff,List.cons.injEq]
end My
namespace L2
open My
section
variable {X:Cx}
theorem Jq1 (hc:X.calm=true):V3 X (.builtin "max") (λ xs H Q=>∃ (p:Addr) (ns:List Int),xs=[.ref p]/\SqL X.K H p (ns.map V.int)/\ns≠[]/\∀ m∈ns,(∀ n∈ns,n<=m)->Q (.int m) H):=by
 intro pins s σ H xs us Q I r h
 obtain ⟨p,ns,rfl,hq,hne,q⟩:=h
 obtain ⟨u,rfl,ru⟩:=Jap r
 cases ru
 obtain ⟨its,rv,pl,hz⟩:=I.list hq
 have hl:=pl.isList
 have hi:=Jbr rv
 obtain ⟨xs,e⟩:=hi.allInts.items
 have h1:=hi.numsOf
 have h2:numsOf its.toArray.toList=(xs.toList.map (·.1)):=by rw [e,J9p]
 have h2':(xs.toList.map (·.1))=ns:=by rw [<- h2];simpa using h1
 have hlen:xs.size=ns.length:=by rw [<- h2'];simp
 have hpos:0<ns.length:=J3d.mpr hne
 rw [e] at hl
 refine max_intList (I.ok.hd hc) hl (by omega) λ v h' tk hv hk=>?_
 obtain ⟨b1,b2⟩:=argBest_gt (numAt xs) (xs.size-1)
 generalize argBest (λ i j=>decide (numAt xs i>numAt xs j)) (xs.size-1)=m at hv b1 b2
 obtain ⟨t,rfl⟩:=J9r hv
 have num:∀ i (hi:i<ns.length),numAt xs i=ns[i]:=λ i hi=>by
  have hix:i<xs.size:=by omega
  have e1:numAt xs i=xs[i].1:=by unfold numAt;rw [J5a hix];rfl
  rw [e1]
  have e2:(xs.toList.map (·.1))[i]'(by simpa using hix)=xs[i].1:=by simp
  rw [<- e2]
  congr 1
 refine ⟨.int (numAt xs m),H,I.kept (t':=tk) hk,⟨t,rfl⟩,q _ ?_ λ n hn=>?_⟩
 . rw [num m (by omega)];exact Q8 _
 . obtain ⟨i,hi,rfl⟩:=J3v.mp hn
   rw [<- num i hi]
   exact b2 i (by omega)
end
end L2
namespace My
open L2
def J1h:G1:=λ ds Q=>∃ ns:List Int,ds=[.list (ns.map .int)]/\ns≠[]/\∀ m∈ns,(∀ n∈ns,n<=m)->Q (.int m)
instance cs_maxL {K:Qc}:CS (λ xs H Q=>∃ (p:Addr) (ns:List Int),xs=[.ref p]/\SqL K H p (ns.map V.int)/\ns≠[]/\∀ m∈ns,(∀ n∈ns,n<=m)->Q (.int m) H) J1h:=⟨λ {H xs ds Q P} r h k=>by
 obtain ⟨ns,rfl,hne,q⟩:=h
 cases r with
 | cons r1 t=>
  cases t
  cases r1 with
  | list e _ _ rs=>
   cases rs.ints_inv
   exact ⟨_,ns,rfl,SqL.of e,hne,λ m h1 h2=>k _ _ (q m h1 h2) λ _=>.int _⟩⟩
end My
namespace L2
open My
section
variable {X:Cx}{x y:Str}{e:Expr}{es:List Expr}{p p' pos apos:Pos}{t:TA}{k:Nat}{ps:List Str}{sp:Sp}{i:Int}
end
end L2
namespace My
open L2
noncomputable abbrev J1i:=List Vl->Nat->(List J8j->Nat->Prop)->(Addr->Nat->Prop)->Prop
section
variable {i:Nat}{sp:J1i}{t:TA}{gt:GA}{tv:TE}{gv:GE}{d:Int}
end
end My
namespace L2
open My
section
variable {X:Cx}{tg iter kx vx:Expr}{ifs:List Expr}{scope sc:J8q}{N N':List Str}{k:Nat}{idx:List Nat}{wi:TI}{g:TG}{tt:TT}{tk tv:TE}{pos:Pos}
end
section
variable {X:Cx}
end
end L2
namespace My
open L2
section
variable {C:Cv}{ex:List Addr}{env:List Vl}{σ:L2.St}{H H':Hp}{n m:Nat}
end
theorem Jst {cs:List Int}(h:∀ c∈cs,0<=c) (i:Nat):0<=cs.getD i 0:=by
 rw [Qd]
 cases e:cs[i]? with
 | none=>exact Uk _
 | some c=>exact h c (Xo e)
structure RoundOk (R:Int) (ws:List Way) (cs:List Int):Prop where
 len:cs.length=ws.length
 nn:∀ c∈cs,0<=c
 bal:∀ r:Nat,r<R.toNat->Yy ws cs ws.length (r:Nat)=0
theorem Jh8 {R:Int}{rs:List Int}(nd:rs.Nodup) (h:∀ x∈rs,0<=x/\x<R):rs.length<=R.toNat:=by
 have:=nodup_le R.toNat (rs.map J5p) (by
  unfold List.Nodup at nd ⊢
  rw [J5q]
  refine J7e (λ {a b} ha hb hab z=>hab ?_) nd
  have:=h a ha
  have:=h b hb
  omega) λ x hx=>by
   obtain ⟨y,hy,rfl⟩:=Qo.mp hx
   have:=h y hy
   omega
 rw [Qb] at this
 exact this
theorem J0b {ls:List Int}{k:Int}(h0:0<=k) (h1:k<ls.length):atI (ls.map Qi) k=some (.int (ls.getD k.toNat 0)):=by
 unfold atI
 rw [Qb,Jcg h0 h1]
 exact Vw (by omega)
end My
namespace L2
section
variable {X:Cx}{pos p2:Pos}
end
end L2
namespace My
open L2
end My
namespace L2
open PySem.SeqAt
section
variable {X:Cx}
end
end L2
namespace My
open L2
abbrev Jws (i:Nat):GE:=λ env n Q=>match env[i]? with
 | some (.own xs)=>Q (.tuple xs) n
 | some (.d (.list xs))=>Q (.tuple xs) n
 | some (.d (.tuple xs))=>Q (.tuple xs) n
 | _=>False
instance (priority:=high) ev_tupO {K:Qc}{i:Nat}:EV true (tCB (λ xs H Q=>∃ p ys,xs=[.ref p]/\((SqL K H p ys/\∀ l,H l=none->Q (.ref l) (upd H l (.tup ys)))\/(SqT K H p ys/\Q (.ref p) H))) (Yp (Z8 i) Jbd)) (Jws i):=⟨λ {S ex env σ H n Q P} E h k=>by
 unfold Jws at h
 split at h
 . rename_i xs e
   obtain ⟨a,vs,ev,h1,h2,h3,h4,h5⟩:=E.sl i _ e
   exact ⟨_,Jt ev,_,_,rfl,.inl ⟨SqL.of h1,λ l hl=>k _ _ _ _ h (Y6.new E.inv (Kp.new hl _)) (.tuple Jj (E.al.nm hl) h2 (h3.keep (Kp.new hl _)))⟩⟩
 . rename_i xs e
   obtain ⟨v,ev,r⟩:=E.sl i _ e
   cases r with
   | list h1 _ h2 h3=>exact ⟨_,Jt ev,_,_,rfl,.inl ⟨SqL.of h1,λ l hl=>k _ _ _ _ h (Y6.new E.inv (Kp.new hl _)) (.tuple Jj (E.al.nm hl) h2 (h3.keep (Kp.new hl _)))⟩⟩
 . rename_i xs e
   obtain ⟨v,ev,r⟩:=E.sl i _ e
   cases r with
   | tuple h1 hn h2 h3=>exact ⟨_,Jt ev,_,_,rfl,.inr ⟨SqT.of h1,k _ _ _ _ h (.refl E.inv) (.tuple h1 hn h2 h3)⟩⟩
 . exact h.elim⟩
def Jwt:G1:=λ ds Q=>match ds with
 | [.int i]=>Q (.int i)
 | [.bool b]=>Q (.int (if b=true then 1 else 0))
 | _=>False
instance cs_intB:CS (λ xs H Q=>(∃ i,xs=[V.int i]/\Q (V.int i) H)\/∃ k,xs=[V.bl k]/\Q (V.int (if k=true then 1 else 0)) H) Jwt:=⟨λ {H xs ds Q P} r h k=>by
 unfold Jwt at h
 split at h
 . cases r with
   | cons r1 t=>
    cases t
    cases r1
    exact .inl ⟨_,rfl,k _ _ h λ ex=>.int _⟩
 . cases r with
   | cons r1 t=>
    cases t
    cases r1
    exact .inr ⟨_,rfl,k _ _ h λ ex=>.int _⟩
 . exact h.elim⟩
noncomputable def inN (rs:List (List Int)) (k:Int):Int:=((rs.countP λ r=>decide (k∈r):Nat):Int)
end My
namespace L2
section
variable {X:Cx}
end
end L2
namespace My
open L2
section
variable {n:Nat}{key:Nat->Int}
structure PA (n:Nat) (p:Array Nat):Prop where
 size:p.size=n
 perm:p.toList.Perm (Qf n)
noncomputable def kv (key:Nat->Int) (p:Array Nat) (i:Nat):Int:=key (p.getD i 0)
end
end My
namespace L2
open PySem.SeqAt
open AutoSeq1 (wpAny_loadPart')
section
variable {prog:J8n}{w:J8m}{A:J8o}{E:J8i->J8k->Prop}{s:J8k}
end
section
variable {prog:J8n}{w:J8m}{A:J8o}{E:J8i->J8k->Prop}{s:J8k}
end
theorem Jq2:∀ {as:List Addr}{us:List J8i},Yg (as.map V.ref) us->us=as.map Q2:=by
 intro as
 induction as with
 | nil=>intro us r;cases r;rfl
 | cons a as ih=>
  intro us r
  cases r with
  | cons r t=>
   cases r
   rw [ih t];rfl
section
variable {X:Cx}
end
section
variable {X:Cx}
end
end L2
namespace My
open L2
noncomputable abbrev rt (ws:List Way) (ks:List Int) (i j:Int):Prop:=Rt (Jai ws ks) (Jg ws i).b.toNat (Jg ws j).a.toNat
theorem Jdp {X:Cx}{K':Qc}(hK:X.K=K'):OpR X (compareOp .NotIn) (rIn K' true):=hK▸Jbs
end My
namespace L2
open PySem.SeqAt
section
variable {X:Cx}
end
section
variable {X:Cx}{v:Expr}{te:TE}{a:Str}{ja:Nat}{pa pf pos:Pos}
end
end L2
namespace My
open L2
end My
namespace L2
open PySem.SeqAt
section
open AutoSeq1 (wpAny_loadPart')
end
section
variable {prog:J8n}{w:J8m}{A:J8o}{E:J8i->J8k->Prop}{s:J8k}
end
section
variable {X:Cx}{es:List Expr}{kk:Nat}{tp:Pos}
end
end L2
namespace My
open L2
section
variable {K:Qc}{ex:List Addr}{H:Hp}
end
open PySem.StrLaws PySem.Builtin.Str
end My
namespace L2
open PySem.SeqAt
end L2
namespace My
open L2
theorem W0 {α:Type}{turn:J8j->Nat->(Option J8j->Nat->Prop)->Prop}{n:Nat}{Q:List J8j->Nat->Prop}{f:α->J8j}(g:α->J8j) {xs:List α}(h:∀ x∈xs,∀ n K,K (some (g x)) n->turn (f x) n K) (q:Q (xs.map g) n):Jhq turn (xs.map f) n Q:=by
 induction xs generalizing n Q with
 | nil=>exact q
 | cons x xs ih=>exact h x Qn _ _ (ih (λ y hy=>h y (Ql _ hy)) q)
theorem Jya {s t:Str}{Q:J8j->Prop}(h:Q (.bool (!decide (s=t)))):fEq true (.str s) (.str t) Q:=h
end My
namespace PySem
open PySem.Sem (wp)
section
variable {prog:J8n}{w:J8m}{A:J8o}{E:J8i->J8k->Prop}{h:Heap}{g:Array GenState}{d:Drawn}{t:Nat}{os:OsState}
variable {nm q:Str}{C N:Addr}{bs bm bmB:List J8i}{hdct:Bool}{sn:List Str}{sub:List J8i}{ab:Bool}{col:Option Bool}{dd:Option Addr}{k0 k1 k2 k3 k5:Option J8i}{B newId initId:String}
end
end PySem
namespace L2
section
variable {prog:J8n}{w:J8m}{A:J8o}{E:J8i->J8k->Prop}{s:J8k}{l:Addr}{xs:Array (Int×Tok)}
end
section
variable {X:Cx}
end
end L2
namespace My
open L2
structure MetOk (ws:List Way) (ks:List Int) (x:Int) (l:List Int):Prop where
 nd:l.Nodup
 me:x∈l
 rt:∀ y∈l,0<=y/\Rt (Jai ws ks) x.toNat y.toNat
 all:∀ k∈ks,(Jg ws k).a∈l->(Jg ws k).b∈l
def Jsu:GSp:=λ as n Q=>∃ (R U:Int) (ws:List Way) (ks:List Int) (x:Int),as=[.d (J2 R U ws),.d (.list (ks.map .int)),.d (.int x)]/\BookOk R U ws/\(∀ k∈ks,0<=k/\k<ws.length)/\ks.length<=60/\(0<=x/\x<R)/\∀ l:List Int,MetOk ws ks x l->(∀ y∈l,0<=y/\y<R)->Q (.list (l.map .int)) n
structure MI (R:Int) (ws:List Way) (ks:List Int) (x:Int) (l:List Int) (i j:Nat):Prop where
 nd:l.Nodup
 me:x∈l
 bd:∀ y∈l,(0<=y/\y<R)/\Rt (Jai ws ks) x.toNat y.toNat
 dn:∀ p<i,∀ k∈ks,l[p]? = some (Jg ws k).a->(Jg ws k).b∈l
 hf:∀ p<j,∀ k,ks[p]? = some k->l[i]? = some (Jg ws k).a->(Jg ws k).b∈l
section
variable {R:Int}{ws:List Way}{ks:List Int}{x:Int}{l:List Int}{i j:Nat}
theorem MI.keep {k:Int}(h:MI R ws ks x l i j) (hk:ks[j]? = some k) (hn:l[i]? = some (Jg ws k).a->(Jg ws k).b∈l):MI R ws ks x l i (j+1):=
 ⟨h.nd,h.me,h.bd,h.dn,λ p hp k' hk' e=>by
  rcases J5r.mp hp with hp | rfl
  . exact h.hf p hp k' hk' e
  . rw [hk] at hk';cases hk';exact hn e⟩
theorem MI.add {k:Int}(h:MI R ws ks x l i j) (hk:ks[j]? = some k) (hi:l[i]? = some (Jg ws k).a) (hb:(Jg ws k).b∉l) (b0:0<=(Jg ws k).b/\(Jg ws k).b<R):MI R ws ks x (l++[(Jg ws k).b]) i (j+1):=by
 have hlt:=(Qs.mp hi).1
 have old:∀ p,p<l.length->(l++[(Jg ws k).b])[p]? = l[p]?:=λ p hp=>Up hp
 refine ⟨?_,Xn _ h.me,λ y hy=>?_,λ p hp k' hk' e=>?_,λ p hp k' hk' e=>?_⟩
 . rw [J5k]
   refine ⟨h.nd,by simp,λ a ha b hb' e=>?_⟩
   rw [Qu.mp hb'] at e
   exact hb (e▸ha)
 . rcases Xk.mp hy with hy | hy
   . exact h.bd y hy
   . rw [Qu.mp hy]
     exact ⟨b0,((h.bd _ (Xo hi)).2).step (Qo.mpr ⟨k,Xo hk,rfl⟩)⟩
 . rw [old p (by omega)] at e
   exact Xn _ (h.dn p hp k' hk' e)
 . rw [old i hlt] at e
   rcases J5r.mp hp with hp | rfl
   . exact Xn _ (h.hf p hp k' hk' e)
   . rw [hk] at hk';cases hk'
     exact Xf _ (Qu.mpr rfl)
theorem MI.next (h:MI R ws ks x l i ks.length):MI R ws ks x l (i+1) 0:=
 ⟨h.nd,h.me,h.bd,λ p hp k hk e=>by
  rcases J5r.mp hp with hp | rfl
  . exact h.dn p hp k hk e
  . obtain ⟨q,hq⟩:=J7f hk
    exact h.hf q (Qs.mp hq).1 k hq e,λ p hp=>absurd hp (J2i _)⟩
theorem MI.fin (h:MI R ws ks x l l.length 0):MetOk ws ks x l:=
 ⟨h.nd,h.me,λ y hy=>⟨(h.bd y hy).1.1,(h.bd y hy).2⟩,λ k hk ha=>by
  obtain ⟨p,hp⟩:=J7f ha
  exact h.dn p (Qs.mp hp).1 k hk hp⟩
end
end My
namespace L2
open PySem.SeqAt
section
variable {X:Cx}{pins:List (Addr×Obj)}{σ:St}{A:J8o}{R:J81->J8k->Prop}{it l d:Addr}{ps:List (Key×V×Addr)}
end
section
variable {prog:J8n}{w:J8m}{A:J8o}{E:J8i->J8k->Prop}{s:J8k}
end
section
variable {X:Cx}
end
end L2
namespace My
open L2 PySem.SeqAt PySem.MeetsSeq
section
variable {X:Cx}
end
abbrev Jsv (i:Nat):GN:=λ env n Q=>match env[i]? with
 | some (.own xs)=>Q xs n
 | some (.d x)=>Jks [x] λ d=>Q d n
 | _=>False
instance (priority:=high) nv_listO {K:Qc}{i:Nat}:NV (tCB (λ xs H Q=>∃ p ys,xs=[.ref p]/\(SqL K H p ys\/SqT K H p ys)/\∀ l,H l=none->Q (.ref l) (upd H l (.lst ys))) (Yp (Z8 i) Jbd)) (Jsv i):=⟨λ {S ex env σ H n Q P} E h k=>by
 unfold Jsv at h
 split at h
 . rename_i xs e
   obtain ⟨a,vs,ev,h1,h2,h3,h4,h5⟩:=E.sl i _ e
   refine ⟨_,Jt ev,_,_,rfl,.inl (SqL.of h1),λ p hp=>?_⟩
   obtain ⟨c1,c2,c3⟩:=Jaf E (.refl E.inv) hp h3
   exact k _ _ _ _ _ h c1 c2 Jj h2 c3
 . rename_i x e
   refine (nv_cn (r:=λ xs H Q=>∃ p ys,xs=[.ref p]/\(SqL K H p ys\/SqT K H p ys)/\∀ l,H l=none->Q (.ref l) (upd H l (.lst ys))) (t:=Yp (Z8 i) Jbd)).nv E ?_ k
   show Jur i env n _
   unfold Jur
   rw [e]
   exact h
 . exact h.elim⟩
open L2
section
variable {R U:Int}{ws:List Way}{ks:List Int}
end
end My
namespace L2
def DefM (K:Qc) (C:Addr) (m qual:Str) (st:Stmt) (ps:List Str):Prop:=∃ f fd,Meth K C m f/\Fun K m qual st f fd/\Bm K fd ps []
def Wh (P:J8n) (w:J8m) (K:Qc) (mg:Str->Option J8i) (base:Heap) (C:Addr) (m:Str) (k:Nat) (ps:List Str) (sp:Sp):Prop:=
 ∃ f fd,Cls K C/\Meth K C m f/\Bm K fd ps []/\FnOk P w K mg base CX0 k f fd ps sp
section
variable {P:J8n}{w:J8m}{K:Qc}{mg:Str->Option J8i}{base:Heap}{C:Addr}{x m qual:Str}{st:Stmt}{ps:List Str}{k:Nat}{sp:Sp}
theorem DefM.cal (d:DefM K C m qual st ps) (c:Cls K C) (h:∀ f fd,Fun K m qual st f fd->FnOk P w K mg base CX0 k f fd ps sp):Wh P w K mg base C m k ps sp:=by
 obtain ⟨f,fd,hm,F,b⟩:=d
 exact ⟨f,fd,c,hm,b,h f fd F⟩
theorem defM_mk {f:Addr}{oc:J8i}{od an:Option Addr}{osl:Array (Option J8i)}{kV doc pm cdv ct:J8i}
 (a:Ue K (.ref C) m=some (some (.ref f))) (i:J2y K (.ref f)=true) (l:K.lookup f=some ⟨oc,od,.func (X0 m qual (Wk st) (Zz st) (Je st) .none kV doc pm an cdv ct),osl⟩) (c:J1q K cdv qual=true) (kp:Uf K (.ref f)=true)
 (hb:∀ (kV doc pm:J8i) (an:Option Addr) (cdv ct:J8i) (us:List J8i),us.length=ps.length->J9b (X0 m qual (Wk st) (Zz st) (Je st) .none kV doc pm an cdv ct) ⟨us,[]⟩=pure (ps.zip us)):DefM K C m qual st ps:=
 ⟨f,_,⟨a,i,kp⟩,Jhi (st:=st) l c kp,(Jhi (st:=st) l c kp).binds hb⟩
end
section
variable {X:Cx}{x m:Str}{C:Addr}{o e:Expr}{es:List Expr}{p pos apos:Pos}{ta:TE}{t:TA}{k:Nat}{ps:List Str}{sp:Sp}
theorem J0c {pl:Sem Bool}(c:Wh X.prog X.w X.K X.mg X.base C m k ps sp) (hr:Room k X.A) (he:PE X o ta)
 (ht:eval (.Call (.Attribute o m apos) [] [] pos) X.env=(do
  let ov <- eval o X.env
  J8y apos.atName
  let (f,first) <- holding [ov] (getMethod ov m pl)
  callWith pos f first (backTo pos (starEach [] X.env)) (backToKw pos (keywordEach [] X.env))):=by rfl):PE X (.Call (.Attribute o m apos) [] [] pos) (Jga C m sp [] E0 ta Jbd):=by
 obtain ⟨f,fd,hc,hm,b,F⟩:=c
 exact Jrv he hc hm F hr b .nil Jpf ht
theorem J7 {K':Qc}{f:Str}(hK:X.K=K') (he:PE X e ta) (hb:J9o e f X.env (eval e X.env)=eval e X.env:=by rfl):PE X (.Attribute e f pos) (Jns K' ta f):=hK▸Jxe he hb
theorem Jgo {pl:Sem Bool}(c:Wh X.prog X.w X.K X.mg X.base C m k ps sp) (hr:Room k X.A) (he:PE X o ta) (ha:PA X (e::es) t)
 (hst:starEach (e::es) X.env=(false,eval e X.env)::starEach es X.env:=by rfl) (hpl:(backTo pos (starEach es X.env)).any (·.1)=false:=by rfl)
 (ht:eval (.Call (.Attribute o m apos) (e::es) [] pos) X.env=(do
  let ov <- eval o X.env
  J8y apos.atName
  let (f,first) <- holding [ov] (getMethod ov m pl)
  callWith pos f first (backTo pos (starEach (e::es) X.env)) (backToKw pos (keywordEach [] X.env))):=by rfl):PE X (.Call (.Attribute o m apos) (e::es) [] pos) (Jga C m sp [] E0 ta t):=by
 obtain ⟨f,fd,hc,hm,b,F⟩:=c
 exact Juh he hc hm F hr b .nil Jpf ha hst hpl ht
end
end L2
namespace My
open L2
theorem Jmk {C C':Addr}{ns ns':List Str}{ds ds':List J8j}(hl:ns.length=ds.length) (hl':ns'.length=ds'.length) (h:Ja6 C ns ds=Ja6 C' ns' ds'):C=C'/\ns=ns'/\ds=ds':=by
 unfold Ja6 at h
 injection h with h1 h2
 injection h1 with h1 _
 injection h1 with h1
 refine ⟨by exact_mod_cast h1,?_⟩
 clear h1
 induction ns generalizing ds ns' ds' with
 | nil=>
  cases ds with
  | cons _ _=>cases hl
  | nil=>
   cases ns' with
   | nil=>
    cases ds' with
    | nil=>exact ⟨rfl,rfl⟩
    | cons _ _=>cases hl'
   | cons _ _=>
    cases ds' with
    | nil=>cases hl'
    | cons _ _=>cases h2
 | cons n ns ih=>
  cases ds with
  | nil=>cases hl
  | cons d ds=>
   cases ns' with
   | nil=>
    cases ds' with
    | nil=>cases h2
    | cons _ _=>cases hl'
   | cons n' ns'=>
    cases ds' with
    | nil=>cases hl'
    | cons d' ds'=>
     rw [J7g,J7g] at h2
     injection h2 with h3 h4
     injection h3 with h5 h6
     injection h5 with h5
     obtain ⟨e1,e2⟩:=ih (by simpa using hl) (by simpa using hl') h4
     exact ⟨by rw [h5,e1],by rw [h6,e2]⟩
noncomputable def Ji6 (ns:List Str) (ds:List J8j) (f:Str):Option J8j:=(ns.zip ds).lookup f
theorem Jpp {ex:List Addr}{H:Hp}{f:Str}{x:J8j}:∀ {fs:List (Str×V)}{ds:List J8j},Reps ex H ds (fs.map (·.2))->Ji6 (fs.map (·.1)) ds f=some x->∃ v,fs.lookup f=some v/\Rep ex H x v
 | [],ds,r,h=>by cases h
 | p::fs,ds,r,h=>by
  cases r with
  | cons r1 t=>
   unfold Ji6 at h
   rw [Xa,J5s] at h
   by_cases e:f=p.1
   . subst e
     rw [J7h] at h
     cases h
     exact ⟨p.2,J7h,r1⟩
   . have hb:(f==p.1)=false:=beq_eq_false_iff_ne.mpr e
     rw [Uw,hb] at h
     obtain ⟨v,hv,rv⟩:=Jpp t h
     exact ⟨v,by rw [Uw,hb];exact hv,rv⟩
theorem Jsw {f:Str}:∀ {fs:List (Str×V)},f∉fs.map (·.1)->fs.lookup f=none
 | [],_=>rfl
 | p::fs,h=>by
  rw [Xa,Qh,not_or] at h
  rw [Uw,beq_eq_false_iff_ne.mpr h.1]
  exact Jsw h.2
section
variable {b:Bool}{te ta:TE}{g:GE}
theorem Jpq {C:Addr}{ns:List Str}{ds es:List J8j}{ep:Nat}{ks:List Key}(h:Ja6 C ns ds=fzK ep ks es):False:=by
 unfold Ja6 fzK at h
 injection h with h _
 injection h with h _
 cases h
abbrev J1j (K:Qc) (f:Str) (g:GE):GE:=λ env n Q=>g env n λ d n1=>∃ (C:Addr) (ns:List Str) (ds:List J8j) (x:J8j),d = .dict (Ja6 C ns ds)/\Cls K C/\NoAttr K C f/\ns.length=ds.length/\Ji6 ns ds f=some x/\Q x n1
instance ev_fld {K:Qc}{f:Str} [A:EV b te g]:EV b (Jns K te f) (J1j K f g):=⟨λ {S ex env σ H n Q P} E h k=>A.ev E h λ d n1 v H1 h1 s1 r1=>by
 obtain ⟨C,ns,ds,x,rfl,hc,hn,hl,hx,q⟩:=h1
 cases r1 with
 | obj e m ek r=>
  have hr:=r.length
  rw [Qb] at hr
  obtain ⟨rfl,rfl,rfl⟩:=Jmk hl (by rw [Qb,hr]) ek
  obtain ⟨v',hv,rv⟩:=Jpp r hx
  exact ⟨_,_,_,_,v',rfl,e,hc,hn,hv,k _ _ _ _ q s1 rv⟩
 | dctf e m ek r=>exact (Jpq ek).elim⟩
abbrev J0d (C:Addr) (m:Str) (sp:GSp) (g:GE) (ga:GA):GE:=λ env n Q=>g env n λ d n1=>(∃ (ns:List Str) (ds:List J8j),d = .dict (Ja6 C ns ds)/\ns.length=ds.length/\m∉ns)/\ga env n1 λ as n2=>sp (.d d::as) n2 Q
abbrev Jyb (C:Addr) (m:Str) (sp:GSn) (g:GE) (ga:GA):GN:=λ env n Q=>g env n λ d n1=>(∃ (ns:List Str) (ds:List J8j),d = .dict (Ja6 C ns ds)/\ns.length=ds.length/\m∉ns)/\ga env n1 λ as n2=>sp (.d d::as) n2 Q
theorem Jsx {ex:List Addr}{H:Hp}{C:Addr}{m:Str}{ns:List Str}{ds:List J8j}{v:V}(hl:ns.length=ds.length) (hm:m∉ns) (r:Rep ex H (.dict (Ja6 C ns ds)) v):∃ a dx fs,v = .ref a/\H a=some (.ins C dx fs)/\fs.lookup m=none:=by
 cases r with
 | obj e n ek r=>
  have hr:=r.length
  rw [Qb] at hr
  obtain ⟨rfl,rfl,rfl⟩:=Jmk hl (by rw [Qb,hr]) ek
  exact ⟨_,_,_,rfl,e,Jsw hm⟩
 | dctf e n ek r=>exact (Jpq ek).elim
instance ev_meth {C:Addr}{m:Str}{sp:GSp}{E':XK}{t:TA}{gt:GA} [A:EV b ta g] [B:AV b t gt]:EV b (Jga C m (Jm sp) [] E' ta t) (J0d C m sp g gt):=⟨λ {S ex env σ H n Q P} E h k=>A.ev E h λ d n1 v H1 h1 s1 r1=>by
 obtain ⟨⟨ns,ds,rfl,hl,hm⟩,h2⟩:=h1
 obtain ⟨a,dx,fs,rfl,e,hf⟩:=Jsx hl hm r1
 refine ⟨a,dx,fs,rfl,e,hf,B.av (E.step s1) h2 λ as n2 vs H2 h3 s2 r2=>?_⟩
 rw [U3]
 exact ⟨S,exm b S ex,.d (.dict (Ja6 C ns ds))::as,n2,_,⟨⟨_,rfl,(E.step s1).repm b s2 r1⟩,r2⟩,E.sup b,(E.step (s1.trans s2)).alm b,s2.2,h3,λ d n' v H' p s3 r=>k _ _ _ _ p ((s1.trans s2).trans s3) r⟩⟩
instance nv_meth {C:Addr}{m:Str}{sp:GSn}{E':XK}{t:TA}{gt:GA} [A:EV true ta g] [B:AV true t gt]:NV (Jga C m (Y8 sp) [] E' ta t) (Jyb C m sp g gt):=⟨λ {S ex env σ H n Q P} E h k=>A.ev E h λ d n1 v H1 h1 s1 r1=>by
 obtain ⟨⟨ns,ds,rfl,hl,hm⟩,h2⟩:=h1
 obtain ⟨a,dx,fs,rfl,e,hf⟩:=Jsx hl hm r1
 refine ⟨a,dx,fs,rfl,e,hf,B.av (E.step s1) h2 λ as n2 vs H2 h3 s2 r2=>?_⟩
 rw [U3]
 exact ⟨S,ex,.d (.dict (Ja6 C ns ds))::as,n2,_,⟨⟨_,rfl,(E.step s1).repm true s2 r1⟩,r2⟩,E.ch,(E.step (s1.trans s2)).al,s2.2,h3,λ ds n' a ws H' p s3 ha hl hz r=>k _ _ _ _ _ p ((s1.trans s2).trans s3) ((s1.trans s2).free ha) hl hz r⟩⟩
end
noncomputable def Ju6:Stmt->List Stmt
 | .ClassDef (body:=b) ..=>b
 | _=>[]
noncomputable abbrev St':=Int×List Int
noncomputable abbrev Kn:=List (Int×St')
end My
namespace L2
open My
section
variable {X:Cx}{x:Str}{e:Expr}{es:List Expr}{p pos:Pos}{t:TA}{k:Nat}{ps:List Str}{sp:Sp}{i:Int}{E:XK}
end
end L2
namespace My
open L2
section
variable {i:Nat}{sp:GSx}{t:TA}{gt:GA}{tv:TE}{gv:GE}{d:Int}{b:Bool}{E':XK}
end
theorem Jbj:∀ xs gs:List Int,Ba (xs.map Qi) (gs.map Qi)=(xs.zip gs).map λ p=>.tuple [.int p.1,.int p.2]
 | [],_=>by simp [Ba]
 | _::_,[]=>by simp [Ba]
 | x::xs,g::gs=>by
  rw [Xa,Xa,J5s,Xa,<- Jbj xs gs]
  simp [Ba]
theorem Jod (ws:List Way):Jck (ws.map Ym)=(Qf ws.length).map λ i=>.tuple [.int ((i:Nat):Int),Ym (Jg ws ((i:Nat):Int))]:=by
 apply Xv
 intro i
 unfold Jck
 rw [J36,Qk,Qk]
 by_cases h:i<ws.length
 . rw [Xi h,Qg h]
   have:Jg ws ((i:Nat):Int)=ws[i]:=by
    have h2:=Jbw (ws:=ws) (k:=((i:Nat):Int)) (by omega) (by omega)
    unfold Jg
    simp [h]
   show some (Us [.int ((i:Nat):Int),Ym ws[i]])=some (Us [.int ((i:Nat):Int),Ym (Jg ws ((i:Nat):Int))])
   rw [this]
 . rw [Qx (by omega),Qx (by rw [Qw];omega)];rfl
theorem Jen {β:Type}{turn:J8j->Nat->(Option J8j->Nat->Prop)->Prop}{n:Nat}{g h:β->J8j}{p:β->Bool}:∀ {ks:List β}{Q:List J8j->Nat->Prop},(∀ k∈ks,∀ K:Option J8j->Nat->Prop,(p k=true->K (some (h k)) n)->(p k=false->K none n)->turn (g k) n K)->Q ((ks.filter p).map h) n->Jhq turn (ks.map g) n Q
 | [],_,_,q=>q
 | k::ks,Q,ht,q=>by
  refine ht k Qn _ (λ c=>?_) (λ c=>?_)
  . rw [J7a c] at q
    exact Jen (λ k hk=>ht k (Ql _ hk)) q
  . rw [J7b (by rw [c];exact Q7)] at q
    exact Jen (λ k hk=>ht k (Ql _ hk)) q
section
variable {K:Qc}{C:Addr}{s0:St'}{p:Kn}{Q:J8j->Prop}
end
section
variable {x t:Int}{xr gr:List Int}{N:Nat}
end
theorem Jaj {k:Int}:(Qp k.toNat [Qi 0]).flatten=(Qp k.toNat (0:Int)).map .int:=by
 rw [Jco,J17]
end My
namespace Tb
abbrev Vec:=Nat->Int
noncomputable def Jq:Nat->(Nat->Int)->Int
 | 0,_=>0
 | n+1,f=>Jq n f+f n
theorem Jk {n:Nat}{f g:Nat->Int}(h:∀ i,i<n->f i=g i):Jq n f=Jq n g:=by
 induction n with
 | zero=>rfl
 | succ n ih=>rw [Jq,Jq,ih λ i hi=>h i (by omega),h n (by omega)]
theorem Wd (n:Nat):Jq n (λ _=>0)=0:=by
 induction n with
 | zero=>rfl
 | succ n ih=>rw [Jq,ih];rfl
theorem Wa (n:Nat) (f g:Nat->Int):Jq n (λ i=>f i+g i)=Jq n f+Jq n g:=by
 induction n with
 | zero=>rfl
 | succ n ih=>rw [Jq,Jq,Jq,ih];omega
theorem Ze (n:Nat) (c:Int) (f:Nat->Int):Jq n (λ i=>c*f i)=c*Jq n f:=by
 induction n with
 | zero=>simp [Jq]
 | succ n ih=>rw [Jq,Jq,ih,J2m]
theorem Jfr (n:Nat) (c:Int) (f:Nat->Int):Jq n (λ i=>f i*c)=Jq n f*c:=by
 rw [Xb,<- Ze];exact Jk λ i _=>Xb _ _
theorem Wb (n:Nat) (f:Nat->Int):Jq n (λ i=>-f i) = -Jq n f:=by
 induction n with
 | zero=>rfl
 | succ n ih=>rw [Jq,Jq,ih];omega
theorem Yd {n a:Nat}{f:Nat->Int}(ha:a<n) (h:∀ i,i<n->i≠a->f i=0):Jq n f=f a:=by
 induction n with
 | zero=>omega
 | succ n ih=>
  rw [Jq]
  by_cases e:a=n
  . subst e
    have:Jq a f=0:=by rw [Jk (g:=λ _=>0) λ i hi=>h i (by omega) (by omega),Wd]
    rw [this];omega
  . rw [ih (by omega) λ i hi hne=>h i (by omega) hne,h n (by omega) λ z=>e z.symm];omega
theorem Jml {n a b:Nat}{f:Nat->Int}(ha:a<n) (hb:b<n) (hab:a≠b) (h:∀ i,i<n->i≠a->i≠b->f i=0):Jq n f=f a+f b:=by
 have e:Jq n f=Jq n (λ i=>(if i=a then f a else 0)+(if i=b then f b else 0)):=Jk λ i hi=>by
  by_cases h1:i=a
  . subst h1;rw [if_pos rfl,if_neg hab];omega
  . by_cases h2:i=b
    . subst h2;rw [if_neg h1,if_pos rfl];omega
    . rw [if_neg h1,if_neg h2,h i hi h1 h2];rfl
 rw [e,Wa,Yd (a:=a) ha (λ i _ hi=>if_neg hi),Yd (a:=b) hb (λ i _ hi=>if_neg hi),if_pos rfl,if_pos rfl]
theorem Jfs (n m:Nat) (f:Nat->Nat->Int):Jq n (λ i=>Jq m (λ j=>f i j))=Jq m (λ j=>Jq n (λ i=>f i j)):=by
 induction n with
 | zero=>show 0=Jq m (λ _=>0);rw [Wd]
 | succ n ih=>
  show Jq n _+Jq m (λ j=>f n j)=Jq m (λ j=>Jq n (λ i=>f i j)+f n j)
  rw [ih,Wa]
noncomputable def sg (j:Nat):Int:=if j%2=0 then 1 else -1
theorem Ju7 (j:Nat):sg (j+1) = -sg j:=by unfold sg;split<;>split<;>omega
noncomputable def atV (vs:List Vec) (j:Nat):Vec:=vs.getD j (λ _=>0)
noncomputable def D:Nat->List Vec->Int
 | 0,_=>1
 | k+1,vs=>Jq vs.length λ j=>sg (j+k)*atV vs j k*D k (vs.eraseIdx j)
theorem Yz {vs:List Vec}{a:Nat}{v:Vec}(h:a<vs.length):atV (vs.set a v) a=v:=by
 unfold atV;rw [Qd,Q9 h];rfl
theorem Ys {vs:List Vec}{a b:Nat}{v:Vec}(h:a≠b):atV (vs.set a v) b=atV vs b:=by
 unfold atV;rw [Qd,Q6 h,<- Qd]
theorem Jak (vs:List Vec) (a:Nat) (v:Vec):(vs.set a v).eraseIdx a=vs.eraseIdx a:=by
 induction vs generalizing a with
 | nil=>rfl
 | cons x vs ih=>cases a with
  | zero=>rfl
  | succ a=>show x::(vs.set a v).eraseIdx a=_;rw [ih];rfl
theorem Jby (vs:List Vec) {a j:Nat}(v:Vec) (h:j<a):(vs.set a v).eraseIdx j=(vs.eraseIdx j).set (a-1) v:=by
 induction vs generalizing a j with
 | nil=>rfl
 | cons x vs ih=>
  cases a with
  | zero=>omega
  | succ a=>
   cases j with
   | zero=>rfl
   | succ j=>
    show x::(vs.set a v).eraseIdx j=(x::vs.eraseIdx j).set (a+1-1) v
    rw [ih (by omega)]
    obtain ⟨b,rfl⟩:∃ b,a=b+1:=⟨a-1,by omega⟩
    rfl
theorem Jbz (vs:List Vec) {a j:Nat}(v:Vec) (h:a<j):(vs.set a v).eraseIdx j=(vs.eraseIdx j).set a v:=by
 induction vs generalizing a j with
 | nil=>rfl
 | cons x vs ih=>
  cases j with
  | zero=>omega
  | succ j=>
   cases a with
   | zero=>rfl
   | succ a=>show x::(vs.set a v).eraseIdx j=x::(vs.eraseIdx j).set a v;rw [ih (by omega)]
theorem Jk3:∀ (k:Nat) (vs us:List Vec),vs.length=us.length->(∀ j,j<vs.length->∀ r,r<k->atV vs j r=atV us j r)->D k vs=D k us
 | 0,_,_,_,_=>rfl
 | k+1,vs,us,hl,h=>by
  rw [D,D,hl]
  refine Jk λ j hj=>?_
  rw [h j (by omega) k (by omega)]
  congr 1
  refine Jk3 k _ _ (by rw [Uc (by omega),Uc hj,hl]) λ i hi r hr=>?_
  rw [Uc (by omega)] at hi
  have e:∀ ws:List Vec,atV (ws.eraseIdx j) i=if i<j then atV ws i else atV ws (i+1):=λ ws=>by
   unfold atV
   rw [Qd,J3h]
   split<;>rw [<- Qd]
  rw [e,e]
  split
  . exact h i (by omega) r (by omega)
  . exact h (i+1) (by omega) r (by omega)
theorem Jh9:∀ (k:Nat) (vs:List Vec) (a:Nat) (c d:Int) (u w:Vec),a<vs.length->vs.length=k->D k (vs.set a λ r=>c*u r+d*w r)=c*D k (vs.set a u)+d*D k (vs.set a w)
 | 0,vs,a,_,_,_,_,h,hk=>by omega
 | k+1,vs,a,c,d,u,w,h,hk=>by
  rw [D,D,D,Qq,Qq,Qq,<- Ze,<- Ze,<- Wa]
  refine Jk λ j hj=>?_
  rcases J5t j a with z | z | z
  . rw [Ys (by omega),Ys (by omega),Ys (by omega),Jby vs _ z,Jby vs _ z,Jby vs _ z,Jh9 k _ (a-1) c d u w (by rw [Uc hj];omega) (by rw [Uc hj];omega)]
    rw [J2m,Ut _ c,Ut _ d]
  . subst z
    rw [Yz h,Yz h,Yz h,Jak,Jak,Jak]
    rw [J2m,Int.add_mul,Ut (sg (j+k)) c,Ut (sg (j+k)) d,Xq c,Xq d]
  . rw [Ys (by omega),Ys (by omega),Ys (by omega),Jbz vs _ z,Jbz vs _ z,Jbz vs _ z,Jh9 k _ a c d u w (by rw [Uc hj];omega) (by rw [Uc hj];omega)]
    rw [J2m,Ut _ c,Ut _ d]
theorem Jpr:∀ (k:Nat) (vs:List Vec) (a:Nat),a+1<vs.length->vs.length=k->atV vs a=atV vs (a+1)->D k vs=0
 | 0,vs,a,h,hk,_=>by omega
 | k+1,vs,a,h,hk,e=>by
  have er:vs.eraseIdx a=vs.eraseIdx (a+1):=by
   apply Xv
   intro i
   rw [J3h,J3h]
   by_cases c1:i<a
   . rw [if_pos c1,if_pos (by omega)]
   . rw [if_neg c1]
     by_cases c2:i=a
     . subst c2
       rw [if_pos (by omega),Qg h,Qg (show i<vs.length by omega)]
       unfold atV at e
       rw [Qd,Qd,Qg h,Qg (show i<vs.length by omega)] at e
       exact congrArg some e.symm
     . rw [if_neg (by omega)]
  rw [D,Jml (a:=a) (b:=a+1) (by omega) h (by omega) λ j hj h1 h2=>?_]
  . rw [show a+1+k=a+k+1 by omega,Ju7,<- er,e,J4a,J4a];omega
  . have:D k (vs.eraseIdx j)=0:=by
     have el:∀ i,atV (vs.eraseIdx j) i=if i<j then atV vs i else atV vs (i+1):=λ i=>by
      unfold atV
      rw [Qd,J3h]
      split<;>rw [<- Qd]
     rcases Uq j a with z | z
     . refine Jpr k _ (a-1) (by rw [Uc hj];omega) (by rw [Uc hj];omega) ?_
       rw [el,el,if_neg (by omega),if_neg (by omega),show a-1+1=a by omega];exact e
     . refine Jpr k _ a (by rw [Uc hj];omega) (by rw [Uc hj];omega) ?_
       rw [el,el,if_pos (by omega),if_pos (by omega)];exact e
    rw [this,Xl]
theorem Jk4 (vs:List Vec) {a:Nat}(h:a<vs.length):vs.set a (atV vs a)=vs:=by
 unfold atV
 rw [Qd,Qg h]
 exact List.set_getElem_self h
theorem Jsy {k:Nat}{vs:List Vec}{a:Nat}(u w:Vec) (h:a<vs.length) (hk:vs.length=k):D k (vs.set a λ r=>u r+w r)=D k (vs.set a u)+D k (vs.set a w):=by
 have:=Jh9 k vs a 1 1 u w h hk
 rw [Uu,Uu] at this
 rw [<- this]
 congr 1;congr 1;funext r
 rw [Uu,Uu]
theorem Jps {k:Nat}{vs:List Vec}{a b:Nat}(ha:a<vs.length) (hb:b<vs.length) (hab:a≠b) (hk:vs.length=k) (zero:∀ us:List Vec,us.length=k->atV us a=atV us b->D k us=0) (u w:Vec):D k ((vs.set a u).set b w) = -D k ((vs.set a w).set b u):=by
 have la:∀ (x:Vec),a<(vs.set b x).length:=λ x=>by rw [Qq];exact ha
 have lb:∀ (x:Vec),b<(vs.set a x).length:=λ x=>by rw [Qq];exact hb
 have z:∀ x:Vec,D k ((vs.set a x).set b x)=0:=λ x=>zero _ (by rw [Qq,Qq];exact hk) (by rw [Ys (Qj hab),Yz ha,Yz (lb x)])
 have h1:=z (λ r=>u r+w r)
 rw [Jsy u w (lb _) (by rw [Qq];exact hk)] at h1
 have c:∀ x y:Vec,(vs.set a x).set b y=(vs.set b y).set a x:=λ x y=>J6d _ _ hab
 rw [c,c,Jsy u w (la _) (by rw [Qq];exact hk),Jsy u w (la _) (by rw [Qq];exact hk),<- c,<- c,<- c,<- c,z u,z w] at h1
 omega
theorem Jsz {k:Nat}:∀ (d a:Nat) (vs:List Vec),a+d+1<vs.length->vs.length=k->atV vs a=atV vs (a+d+1)->D k vs=0
 | 0,a,vs,h,hk,e=>Jpr k vs a h hk e
 | d+1,a,vs,h,hk,e=>by
  have hz:∀ us:List Vec,us.length=k->atV us (a+d+1)=atV us (a+d+2)->D k us=0:=λ us hu he=>Jpr k us (a+d+1) (by omega) hu he
  have p:=Jps (vs:=vs) (a:=a+d+1) (b:=a+d+2) (by omega) (by omega) (by omega) hk hz (atV vs (a+d+1)) (atV vs (a+d+2))
  rw [Jk4 vs (by omega),Jk4 vs (by omega)] at p
  rw [p,Jsz d a _ (by rw [Qq,Qq];omega) (by rw [Qq,Qq];exact hk) ?_]
  . rfl
  . rw [Ys (by omega),Ys (by omega),Ys (by omega),Yz (by omega)]
    exact e
theorem Js0 {k:Nat}{vs:List Vec}{a b:Nat}(ha:a<vs.length) (hb:b<vs.length) (hab:a≠b) (hk:vs.length=k) (e:atV vs a=atV vs b):D k vs=0:=by
 rcases J5t a b with z | z | z
 . exact Jsz (b-a-1) a vs (by omega) hk (by rw [show a+(b-a-1)+1=b by omega];exact e)
 . exact absurd z hab
 . exact Jsz (a-b-1) b vs (by omega) hk (by rw [show b+(a-b-1)+1=a by omega];exact e.symm)
theorem Jyc {k:Nat}{vs:List Vec}{a b:Nat}(ha:a<vs.length) (hb:b<vs.length) (hab:a≠b) (hk:vs.length=k) (u w:Vec):D k ((vs.set a u).set b w) = -D k ((vs.set a w).set b u):=
 Jps ha hb hab hk (λ us hu he=>Js0 (by omega) (by omega) hab hu he) u w
theorem Jwu {k:Nat}{vs:List Vec}{a:Nat}(ha:a<vs.length) (hk:vs.length=k) (c:Nat->Int) (u:Nat->Vec):∀ n,D k (vs.set a λ r=>Jq n λ i=>c i*u i r)=Jq n λ i=>c i*D k (vs.set a (u i))
 | 0=>by
  have:=Jh9 k vs a 0 0 (λ _=>0) (λ _=>0) ha hk
  simp only [Xs,J2n] at this
  exact this
 | n+1=>by
  have:=Jh9 k vs a 1 (c n) (λ r=>Jq n λ i=>c i*u i r) (u n) ha hk
  rw [Uu,Jwu ha hk c u n] at this
  show D k (vs.set a λ r=>Jq n (λ i=>c i*u i r)+c n*u n r)=Jq n (λ i=>c i*D k (vs.set a (u i)))+c n*D k (vs.set a (u n))
  rw [<- this]
  congr 1;congr 1;funext r
  rw [Uu]
theorem Jpt {k:Nat}{vs:List Vec}{a:Nat}(ha:a<vs.length) (hk:vs.length=k) (c:Int) (u:Vec):D k (vs.set a λ r=>c*u r)=c*D k (vs.set a u):=by
 have:=Jh9 k vs a c 0 u (λ _=>0) ha hk
 simp only [Xs,J2n] at this
 exact this
theorem Jyd {k:Nat}{vs:List Vec}{a:Nat}(ha:a<vs.length) (hk:vs.length=k) (h:∀ r,r<k->atV vs a r=0):D k vs=0:=by
 have:=Jpt ha hk 0 (atV vs a)
 rw [Xs] at this
 rw [<- this]
 refine Jk3 k _ _ (by rw [Qq]) λ j hj r hr=>?_
 by_cases e:a=j
 . subst e;rw [Yz ha,h r hr,Xs]
 . rw [Ys e]
theorem Js1 (k:Nat):sg (k+k)=1:=by unfold sg;rw [if_pos (by omega)]
noncomputable def cr (m:Nat) (B:List Vec) (i:Nat) (v:Vec):Int:=D m (B.set i v)
structure Base (m:Nat) (B:List Vec):Prop where
 len:B.length=m
 pos:0<D m B
 cra:∀ (v:Vec) (r:Nat),r<m->D m B*v r=Jq m λ i=>cr m B i v*atV B i r
section
variable {m:Nat}{B:List Vec}
theorem Jeo (hB:B.length=m) {i:Nat}(hi:i<m):cr m B i (atV B i)=D m B:=by unfold cr;rw [Jk4 B (by omega)]
theorem Jep (hB:B.length=m) {i r:Nat}(hi:i<m) (hr:r<m) (h:i≠r):cr m B i (atV B r)=0:=by
 unfold cr
 refine Js0 (a:=i) (b:=r) (by rw [Qq];omega) (by rw [Qq];omega) h (by rw [Qq];exact hB) ?_
 rw [Yz (by omega),Ys h]
theorem Jcq (hB:B.length=m) {i:Nat}(hi:i<m) {v w:Vec}(h:∀ r,r<m->v r=w r):cr m B i v=cr m B i w:=by
 unfold cr
 refine Jk3 m _ _ (by rw [Qq,Qq]) λ j hj r hr=>?_
 by_cases e:i=j
 . subst e;rw [Yz (by omega),Yz (by omega)];exact h r hr
 . rw [Ys e,Ys e]
theorem Jye (hB:B.length=m) {i:Nat}(hi:i<m) (c d:Int) (v w:Vec):cr m B i (λ r=>c*v r+d*w r)=c*cr m B i v+d*cr m B i w:=Jh9 m B i c d v w (by omega) hB
theorem Jia (hB:B.length=m) {i:Nat}(hi:i<m) (c:Int) (v:Vec):cr m B i (λ r=>c*v r)=c*cr m B i v:=Jpt (by omega) hB c v
theorem Jib (hB:B.length=m) {i:Nat}(hi:i<m) (c:Nat->Int) (u:Nat->Vec) (n:Nat):cr m B i (λ r=>Jq n λ j=>c j*u j r)=Jq n λ j=>c j*cr m B i (u j):=Jwu (by omega) hB c u n
theorem Jcr (hb:Base m B) {l i:Nat}(hl:l<m) (hi:i<m) (hil:i≠l) (c v:Vec):D m B*cr m (B.set l c) i v=cr m B l c*cr m B i v-cr m B i c*cr m B l v:=by
 have hB:=hb.len
 have hB':(B.set l c).length=m:=by rw [Qq];exact hB
 rw [<- Jia hB' hi,Jcq hB' hi (hb.cra v)]
 rw [Jib hB' hi]
 rw [Jml (a:=i) (b:=l) hi hl hil λ r hr h1 h2=>?_]
 . have e1:cr m (B.set l c) i (atV B i)=cr m B l c:=by
    have:atV B i=atV (B.set l c) i:=(Ys (Qj hil)).symm
    rw [this,Jeo hB' hi];rfl
   have e2:cr m (B.set l c) i (atV B l) = -cr m B i c:=by
    unfold cr
    rw [Jyc (a:=l) (b:=i) (by omega) (by omega) (Qj hil) hB c (atV B l)]
    rw [Jk4 B (by omega)]
   rw [e1,e2,Xb (cr m B i v),J2o,Xb (cr m B l v)];omega
 . have:atV B r=atV (B.set l c) r:=(Ys (Qj h2)).symm
   rw [this,Jep hB' hi hr (Qj h1),Xl]
theorem Jk5 (hB:B.length=m) {l:Nat}(hl:l<m) (c v:Vec):cr m (B.set l c) l v=cr m B l v:=by
 unfold cr
 rw [J7i]
theorem Base.swap (hb:Base m B) {l:Nat}(hl:l<m) {c:Vec}(hp:0<cr m B l c):Base m (B.set l c):=by
 have hB:=hb.len
 have hq:=hb.pos
 refine ⟨by rw [Qq];exact hB,hp,λ v r hr=>?_⟩
 refine J5u (J4b hq) ?_
 rw [<- Ze]
 have e0:D m (B.set l c)=cr m B l c:=rfl
 rw [e0,Ut,hb.cra v r hr]
 have step:∀ i,i<m->D m B*(cr m (B.set l c) i v*atV (B.set l c) i r)=cr m B l c*(cr m B i v*atV B i r)+(if i=l then cr m B l v*(D m B*c r)-cr m B l v*(cr m B l c*atV B l r) else -(cr m B l v*(cr m B i c*atV B i r))):=λ i hi=>by
  by_cases e:i=l
  . subst e
    rw [if_pos rfl,Jk5 hB hi,Yz (by omega),Ut,Ut (cr m B i c)]
    omega
  . rw [if_neg e,Ys (Qj e),<- Xq,Jcr hb hl hi e,J4c,Xq,Xb (cr m B i c),Xq]
    omega
 rw [Jk step,Wa,Ze]
 have key:Jq m (λ i=>if i=l then cr m B l v*(D m B*c r)-cr m B l v*(cr m B l c*atV B l r) else -(cr m B l v*(cr m B i c*atV B i r)))=0:=by
  have e2:∀ i,i<m->(if i=l then cr m B l v*(D m B*c r)-cr m B l v*(cr m B l c*atV B l r) else -(cr m B l v*(cr m B i c*atV B i r)))=(if i=l then cr m B l v*(D m B*c r) else 0) + -(cr m B l v*(cr m B i c*atV B i r)):=λ i _=>by
   by_cases e:i=l
   . subst e;rw [if_pos rfl,if_pos rfl];omega
   . rw [if_neg e,if_neg e];omega
  rw [Jk e2,Wa,Yd (a:=l) hl (λ i _ hi=>if_neg hi),if_pos rfl,Wb,Ze,<- hb.cra c r hr]
  omega
 rw [key];omega
noncomputable def Z6 (i:Nat):Vec:=λ r=>if r=i then 1 else 0
end
theorem Jbk (vs:List Vec) (j i:Nat):atV (vs.eraseIdx j) i=if i<j then atV vs i else atV vs (i+1):=by
 unfold atV
 rw [Qd,J3h]
 split<;>rw [<- Qd]
theorem Jb0:∀ (k:Nat) (vs:List Vec) (i:Nat),vs.length=k->i<k->(∀ j,j<k->j≠i->atV vs j=Z6 j)->D k vs=atV vs i i
 | 0,_,_,_,h,_=>by omega
 | k+1,vs,i,hl,hi,hu=>by
  rw [D,hl]
  have le:∀ j,j<k+1->(vs.eraseIdx j).length=k:=λ j hj=>by rw [Uc (by omega)];omega
  by_cases e:i=k
  . subst e
    have one:D i (vs.eraseIdx i)=1:=by
     cases i with
     | zero=>rfl
     | succ i=>
      rw [Jb0 (i+1) _ 0 (le _ (by omega)) (by omega) λ j hj _=>?_,Jbk,if_pos (by omega),hu 0 (by omega) (by omega)]
      . rfl
      . rw [Jbk,if_pos hj,hu j (by omega) (by omega)]
    rw [Yd (a:=i) (by omega) λ j hj hne=>?_,Js1,one]
    . omega
    . rw [hu j hj hne]
      have:Z6 j i=0:=if_neg (by omega)
      rw [this,Xl,Xs]
  . have hik:i<k:=by omega
    rw [Yd (a:=k) (by omega) λ j hj hne=>?_,Js1,hu k (by omega) (λ z=>e z.symm),Jb0 k _ i (le k (by omega)) hik λ j hj hne=>?_,Jbk,if_pos hik]
    . have:Z6 k k=1:=if_pos rfl
      rw [this];omega
    . rw [Jbk,if_pos hj,hu j (by omega) hne]
    . by_cases ej:j=i
      . subst ej
        rw [Jyd (a:=k-1) (by rw [le j hj];omega) (le j hj) λ r hr=>?_,Xl]
        rw [Jbk,if_neg (by omega),show k-1+1=k by omega,hu k (by omega) (by omega)]
        exact if_neg (by omega)
      . rw [hu j hj ej]
        have:Z6 j k=0:=if_neg (by omega)
        rw [this,Xl,Xs]
noncomputable def Jcs (m:Nat):List Vec:=(Qf m).map Z6
theorem Jeq {m i:Nat}(h:i<m):atV (Jcs m) i=Z6 i:=by
 unfold atV Jcs
 rw [Qd,Qk,Xi h];rfl
theorem Jk6 {m i:Nat}(h:i<m) (v:Vec):cr m (Jcs m) i v=v i:=by
 have hl:(Jcs m).length=m:=by unfold Jcs;rw [Qb,Qw]
 unfold cr
 rw [Jb0 m _ i (by rw [Qq];exact hl) h λ j hj hne=>by rw [Ys (Qj hne),Jeq hj]]
 rw [Yz (by omega)]
theorem Joe (m:Nat):D m (Jcs m)=1:=by
 cases m with
 | zero=>rfl
 | succ m=>
  have hl:(Jcs (m+1)).length=m+1:=by unfold Jcs;rw [Qb,Qw]
  rw [Jb0 (m+1) _ 0 hl (by omega) λ j hj _=>Jeq hj,Jeq (by omega)];rfl
theorem Jq3 (m:Nat):Base m (Jcs m):=by
 refine ⟨by unfold Jcs;rw [Qb,Qw],by rw [Joe];decide,λ v r hr=>?_⟩
 rw [Joe,Uu,Yd (a:=r) hr λ i hi hne=>?_]
 . rw [Jk6 hr,Jeq hr]
   have:Z6 r r=1:=if_pos rfl
   rw [this,J2x]
 . rw [Jeq hi]
   have:Z6 i r=0:=if_neg (Qj hne)
   rw [this,Xl]
noncomputable def Jer (b:Nat):Nat->Nat
 | 0=>1
 | k+1=>(k+1)*b*Jer b k
theorem Jic {n:Nat}{f:Nat->Int}{b:Nat}(h:∀ i,i<n->(f i).natAbs<=b):(Jq n f).natAbs<=n*b:=by
 induction n with
 | zero=>simp [Jq]
 | succ n ih=>
  rw [Jq,Nat.succ_mul]
  have h1:=ih λ i hi=>h i (by omega)
  have h2:=h n (by omega)
  have:=Int.natAbs_add_le (Jq n f) (f n)
  omega
theorem Jmm {b:Nat}:∀ (k:Nat) (vs:List Vec),vs.length=k->(∀ j,j<k->∀ r,r<k->(atV vs j r).natAbs<=b)->(D k vs).natAbs<=Jer b k
 | 0,_,_,_=>Qm _
 | k+1,vs,hl,h=>by
  rw [D,hl,Jer,Nat.mul_assoc]
  refine Jic λ j hj=>?_
  rw [J2p,J2p]
  have s1:(sg (j+k)).natAbs=1:=by unfold sg;split<;>rfl
  rw [s1,Nat.one_mul]
  refine J4d (h j hj k (by omega)) (Jmm k _ (by rw [Uc (by omega)];omega) λ i hi r hr=>?_)
  rw [Jbk]
  split
  . exact h i (by omega) r (by omega)
  . exact h (i+1) (by omega) r (by omega)
structure Tab where
 fr:List Nat
 bd:List Nat
 rows:List (List Int)
 q:Int
noncomputable def Tab.f (T:Tab) (j:Nat):Nat:=T.fr.getD j 0
noncomputable def Tab.b (T:Tab) (i:Nat):Nat:=T.bd.getD i 0
noncomputable def Tab.row (T:Tab) (i:Nat):List Int:=T.rows.getD i []
noncomputable def Tab.e (T:Tab) (i j:Nat):Int:=(T.row i).getD j 0
noncomputable def Jct (q:Int) (row other:List Int) (k:Nat):List Int:=(J28 (λ x y=>(row.getD k 0*x-other.getD k 0*y)/q) other row).set k (-(other.getD k 0))
noncomputable def Tab.ex (T:Tab) (l k:Nat):Tab:=⟨T.fr.set k (T.b l),T.bd.set l (T.f k),(T.rows.map λ o=>Jct T.q (T.row l) o k).set l ((T.row l).set k T.q),T.e l k⟩
structure TabOk (m n:Nat) (c:Nat->Vec) (rhs:Vec) (T:Tab):Prop where
 lb:T.bd.length=m
 lf:T.fr.length=n
 lr:T.rows.length=m
 lw:∀ i,i<m->(T.row i).length=n+1
 base:Base m (T.bd.map c)
 qq:T.q=D m (T.bd.map c)
 en:∀ i,i<m->∀ j,j<n->T.e i j=cr m (T.bd.map c) i (c (T.f j))
 el:∀ i,i<m->T.e i n=cr m (T.bd.map c) i rhs
 bi:∀ i i',i<m->i'<m->T.b i=T.b i'->i=i'
 fi:∀ j j',j<n->j'<n->T.f j=T.f j'->j=j'
 ne:∀ i j,i<m->j<n->T.b i≠T.f j
section
variable {m n:Nat}{c:Nat->Vec}{rhs:Vec}{T:Tab}
theorem Zv {α:Type}{l:List α}{i:Nat}{x d:α}(h:i<l.length):(l.set i x).getD i d=x:=by rw [Qd,Q9 h];rfl
theorem Z7 {α:Type}{l:List α}{i j:Nat}{x d:α}(h:i≠j):(l.set i x).getD j d=l.getD j d:=by rw [Qd,Q6 h,<- Qd]
theorem at_map {l:List Nat}{c:Nat->Vec}{i:Nat}(h:i<l.length):atV (l.map c) i=c (l.getD i 0):=by
 unfold atV
 rw [Qd,Qk,Qg h,Qd,Qg h];rfl
theorem Js2 {f:Int->Int->Int}{xs ys:List Int}{j:Nat}(hx:j<xs.length) (hy:j<ys.length):(J28 f xs ys).getD j 0=f (xs.getD j 0) (ys.getD j 0):=by
 rw [Qd,J15,Qg hx,Qg hy,Qd,Qd,Qg hx,Qg hy];rfl
theorem TabOk.qpos (h:TabOk m n c rhs T):0<T.q:=by rw [h.qq];exact h.base.pos
theorem TabOk.at_b (h:TabOk m n c rhs T) {i:Nat}(hi:i<m):atV (T.bd.map c) i=c (T.b i):=at_map (by rw [h.lb];exact hi)
theorem Jid (h:TabOk m n c rhs T) {l k:Nat}(hl:l<m):(T.ex l k).row l=(T.row l).set k T.q:=by
 unfold Tab.ex Tab.row
 exact Zv (by rw [Qb,h.lr];exact hl)
theorem Jof (h:TabOk m n c rhs T) {l k i:Nat}(hi:i<m) (hil:i≠l):(T.ex l k).row i=Jct T.q (T.row l) (T.row i) k:=by
 have hi':i<T.rows.length:=by rw [h.lr];exact hi
 show (((T.rows.map λ o=>Jct T.q (T.row l) o k).set l _).getD i [])=Jct T.q (T.row l) (T.rows.getD i []) k
 rw [Z7 (Qj hil),Qd,Qk,Qg hi',Qd,Qg hi']
 rfl
theorem Jcu (h:TabOk m n c rhs T) {l k:Nat}(hk:k<n):(T.ex l k).f k=T.b l:=Zv (by rw [h.lf];exact hk)
theorem Ji7 {l k j:Nat}(hj:j≠k):(T.ex l k).f j=T.f j:=Z7 (Qj hj)
theorem Jcv (h:TabOk m n c rhs T) {l k:Nat}(hl:l<m):(T.ex l k).b l=T.f k:=Zv (by rw [h.lb];exact hl)
theorem Jgp {l k i:Nat}(hi:i≠l):(T.ex l k).b i=T.b i:=Z7 (Qj hi)
theorem Jes (l k:Nat):(T.ex l k).bd.map c=(T.bd.map c).set l (c (T.f k)):=by
 show (T.bd.set l (T.f k)).map c=_
 rw [X5]
theorem Ju8 (h:TabOk m n c rhs T) {l k:Nat}(hl:l<m) (hk:k<n):(T.ex l k).e l k=T.q:=by
 unfold Tab.e
 rw [Jid h hl,Zv (by rw [h.lw l hl];omega)]
theorem Jk7 (h:TabOk m n c rhs T) {l k j:Nat}(hl:l<m) (hj:j≠k):(T.ex l k).e l j=T.e l j:=by
 unfold Tab.e
 rw [Jid h hl,Z7 (Qj hj)]
theorem Ju9 (h:TabOk m n c rhs T) {l k i:Nat}(hi:i<m) (hl:l<m) (hk:k<n) (hil:i≠l):(T.ex l k).e i k = -T.e i k:=by
 unfold Tab.e
 rw [Jof h hi hil]
 unfold Jct
 rw [Zv (by rw [J37,h.lw i hi,h.lw l hl];omega)]
theorem J0e (h:TabOk m n c rhs T) {l k i j:Nat}(hi:i<m) (hl:l<m) (hj:j<n+1) (hil:i≠l) (hjk:j≠k):(T.ex l k).e i j=(T.e l k*T.e i j-T.e i k*T.e l j)/T.q:=by
 unfold Tab.e
 rw [Jof h hi hil]
 unfold Jct
 rw [Z7 (Qj hjk),Js2 (by rw [h.lw i hi];exact hj) (by rw [h.lw l hl];exact hj)]
theorem TabOk.ex (h:TabOk m n c rhs T) {l k:Nat}(hl:l<m) (hk:k<n) (hp:0<T.e l k):TabOk m n c rhs (T.ex l k):=by
 have hB:=h.base.len
 have el:T.e l k=cr m (T.bd.map c) l (c (T.f k)):=h.en l hl k hk
 have qne:T.q≠0:=J4b h.qpos
 have div:∀ {x y:Int},T.q*x=y->y/T.q=x:=λ {x y} e=>by rw [<- e,Int.mul_ediv_cancel_left _ qne]
 refine ⟨by show (T.bd.set l _).length=m;rw [Qq];exact h.lb,by show (T.fr.set k _).length=n;rw [Qq];exact h.lf,by show ((T.rows.map _).set l _).length=m;rw [Qq,Qb];exact h.lr,λ i hi=>?_,?_,?_,λ i hi j hj=>?_,λ i hi=>?_,λ i i' hi hi' e=>?_,λ j j' hj hj' e=>?_,λ i j hi hj e=>?_⟩
 . by_cases e:i=l
   . subst e;rw [Jid h hi,Qq];exact h.lw i hi
   . rw [Jof h hi e]
     unfold Jct
     rw [Qq,J37,h.lw i hi,h.lw l hl];omega
 . rw [Jes]
   exact h.base.swap hl (by rw [<- el];exact hp)
 . rw [Jes];exact el
 . rw [Jes]
   by_cases e:i=l
   . subst e
     rw [Jk5 hB hl]
     by_cases e2:j=k
     . subst e2
       rw [Ju8 h hi hj,Jcu h hj,h.qq,<- h.at_b hi,Jeo hB hi]
     . rw [Jk7 h hi e2,Ji7 e2];exact h.en i hi j hj
   . by_cases e2:j=k
     . subst e2
       rw [Ju9 h hi hl hj e,Jcu h hj,h.en i hi j hj]
       have:=Jcr h.base hl hi e (c (T.f j)) (c (T.b l))
       rw [<- h.at_b hl,Jep hB hi hl e,Jeo hB hl,<- h.qq] at this
       refine (J5u qne ?_).symm
       rw [<- h.at_b hl,this,Xl,J2o,Xb T.q];omega
     . rw [J0e h hi hl (by omega) e e2,Ji7 e2]
       refine div ?_
       rw [h.qq,Jcr h.base hl hi e,<- el,<- h.en i hi j hj,<- h.en i hi k hk,<- h.en l hl j hj]
 . rw [Jes]
   by_cases e:i=l
   . subst e
     rw [Jk5 hB hl,Jk7 h hi (by omega)];exact h.el i hi
   . rw [J0e h hi hl (by omega) e (by omega)]
     refine div ?_
     rw [h.qq,Jcr h.base hl hi e,<- el,<- h.el i hi,<- h.en i hi k hk,<- h.el l hl]
 . by_cases a:i=l
   . by_cases b:i'=l
     . rw [a,b]
     . subst a
       rw [Jcv h hi,Jgp b] at e
       exact absurd e.symm (h.ne i' k hi' hk)
   . by_cases b:i'=l
     . subst b
       rw [Jcv h hi',Jgp a] at e
       exact absurd e (h.ne i k hi hk)
     . rw [Jgp a,Jgp b] at e
       exact h.bi i i' hi hi' e
 . by_cases a:j=k
   . by_cases b:j'=k
     . rw [a,b]
     . subst a
       rw [Jcu h hj,Ji7 b] at e
       exact absurd e (h.ne l j' hl hj')
   . by_cases b:j'=k
     . subst b
       rw [Jcu h hj',Ji7 a] at e
       exact absurd e.symm (h.ne l j hl hj)
     . rw [Ji7 a,Ji7 b] at e
       exact h.fi j j' hj hj' e
 . by_cases a:i=l
   . subst a
     rw [Jcv h hi] at e
     by_cases b:j=k
     . subst b;rw [Jcu h hj] at e;exact h.ne i j hi hj e.symm
     . rw [Ji7 b] at e
       exact b (h.fi k j hk hj e).symm
   . rw [Jgp a] at e
     by_cases b:j=k
     . subst b;rw [Jcu h hj] at e;exact a (h.bi i l hi hl e)
     . rw [Ji7 b] at e;exact h.ne i j hi hj e
noncomputable def Tab.tot (T:Tab) (m n:Nat) (g:Nat->Int):Int:=Jq m (λ i=>g (T.b i))+Jq n (λ j=>g (T.f j))
theorem Jie {n k:Nat}{f g:Nat->Int}(hk:k<n) (h:∀ i,i<n->i≠k->f i=g i):Jq n f=Jq n g+(f k-g k):=by
 have:Jq n f=Jq n (λ i=>g i+(if i=k then f k-g k else 0)):=Jk λ i hi=>by
  by_cases e:i=k
  . subst e;rw [if_pos rfl];omega
  . rw [if_neg e,h i hi e];omega
 rw [this,Wa,Yd (a:=k) hk (λ i _ hi=>if_neg hi),if_pos rfl]
theorem Js3 (h:TabOk m n c rhs T) {l k:Nat}(hl:l<m) (hk:k<n) (g:Nat->Int):(T.ex l k).tot m n g=T.tot m n g:=by
 unfold Tab.tot
 rw [Jie (k:=l) (f:=λ i=>g ((T.ex l k).b i)) (g:=λ i=>g (T.b i)) hl (λ i _ hne=>by rw [Jgp hne]),Jie (k:=k) (f:=λ j=>g ((T.ex l k).f j)) (g:=λ j=>g (T.f j)) hk (λ j _ hne=>by rw [Ji7 hne])]
 rw [Jcv h hl,Jcu h hk]
 omega
end
noncomputable def ind (W:List Nat) (ν:Nat) (x:Int):Int:=if ν∈W then x else 0
noncomputable def Tab.rise (T:Tab) (m:Nat) (W:List Nat) (j:Nat):Int:=ind W (T.f j) T.q-Jq m λ i=>ind W (T.b i) (T.e i j)
def Sol (m n:Nat) (c:Nat->Vec) (T:Tab) (x:Nat->Int):Prop:=∀ r,r<m->T.tot m n (λ ν=>x ν * c ν r)=0
theorem Jk8 (W:List Nat) (ν:Nat) (a b:Int):ind W ν a*b=ind W ν (a*b):=by unfold ind;split;rfl;exact Xs _
theorem Jcw (W:List Nat) (ν:Nat) (a b:Int):a*ind W ν b=ind W ν (a*b):=by unfold ind;split;rfl;exact Xl _
section
variable {m n:Nat}{c:Nat->Vec}{rhs:Vec}{T:Tab}{W:List Nat}{x:Nat->Int}
theorem Jva (h:TabOk m n c rhs T) (s:Sol m n c T x) {i:Nat}(hi:i<m):T.q*x (T.b i) = -Jq n λ j=>T.e i j*x (T.f j):=by
 have hB:=h.base.len
 have z:cr m (T.bd.map c) i (λ r=>Jq m (λ t=>x (T.b t)*c (T.b t) r)+Jq n (λ j=>x (T.f j)*c (T.f j) r))=0:=by
  rw [Jcq hB hi (w:=λ r=>0*(λ _=>0:Vec) r) (λ r hr=>by rw [Xs];exact s r hr),Jia hB hi,Xs]
 have e:=Jye hB hi 1 1 (λ r=>Jq m (λ t=>x (T.b t)*c (T.b t) r)) (λ r=>Jq n (λ j=>x (T.f j)*c (T.f j) r))
 simp only [Uu] at e
 rw [z,Jib hB hi,Jib hB hi] at e
 rw [Yd (a:=i) hi (λ t ht hne=>by rw [<- h.at_b ht,Jep hB hi ht (Qj hne),Xl]),<- h.at_b hi,Jeo hB hi,<- h.qq] at e
 have e2:Jq n (λ j=>x (T.f j)*cr m (T.bd.map c) i (c (T.f j)))=Jq n λ j=>T.e i j*x (T.f j):=Jk λ j hj=>by rw [h.en i hi j hj,Xb]
 rw [e2,Xb] at e
 omega
theorem Jif (h:TabOk m n c rhs T) (s:Sol m n c T x):T.q*T.tot m n (λ ν=>ind W ν (x ν))=Jq n λ j=>T.rise m W j*x (T.f j):=by
 unfold Tab.tot
 rw [J2m,<- Ze,<- Ze]
 have e1:Jq m (λ i=>T.q*ind W (T.b i) (x (T.b i))) = -Jq n (λ j=>Jq m (λ i=>ind W (T.b i) (T.e i j))*x (T.f j)):=by
  have:∀ i,i<m->T.q*ind W (T.b i) (x (T.b i)) = -Jq n (λ j=>ind W (T.b i) (T.e i j)*x (T.f j)):=λ i hi=>by
   rw [Jcw,Jva h s hi]
   by_cases w:T.b i∈W
   . unfold ind;rw [if_pos w]
     congr 1
     exact Jk λ j _=>by rw [if_pos w]
   . unfold ind;rw [if_neg w]
     rw [Jk (g:=λ _=>0) λ j _=>by rw [if_neg w,Xs],Wd];rfl
  rw [Jk this,Wb,Jfs]
  congr 1
  exact Jk λ j _=>Jfr m (x (T.f j)) _
 rw [e1]
 have e2:Jq n (λ j=>T.rise m W j*x (T.f j))=Jq n (λ j=>T.q*ind W (T.f j) (x (T.f j)) + -(Jq m (λ i=>ind W (T.b i) (T.e i j))*x (T.f j))):=Jk λ j _=>by
  unfold Tab.rise
  rw [J4c,Jk8,Jcw];omega
 rw [e2,Wa,Wb]
 exact Int.add_comm _ _
noncomputable def Tab.dir (T:Tab) (m k:Nat) (ν:Nat):Int:=(if ν = T.f k then T.q else 0)-Jq m λ i=>if T.b i = ν then T.e i k else 0
theorem Js4 (h:TabOk m n c rhs T) {k i:Nat}(hk:k<n) (hi:i<m):T.dir m k (T.b i) = -T.e i k:=by
 unfold Tab.dir
 rw [if_neg (h.ne i k hi hk),Yd (a:=i) hi (λ t ht hne=>if_neg λ z=>hne (h.bi t i ht hi z)),if_pos rfl];omega
theorem Jpu (h:TabOk m n c rhs T) {k:Nat}(hk:k<n):T.dir m k (T.f k)=T.q:=by
 unfold Tab.dir
 rw [if_pos rfl,Jk (g:=λ _=>0) (λ i hi=>if_neg (h.ne i k hi hk)),Wd];omega
theorem Js5 (h:TabOk m n c rhs T) {k j:Nat}(hk:k<n) (hj:j<n) (hne:j≠k):T.dir m k (T.f j)=0:=by
 unfold Tab.dir
 rw [if_neg (λ z=>hne (h.fi j k hj hk z)),Jk (g:=λ _=>0) (λ i hi=>if_neg (h.ne i j hi hj)),Wd];rfl
theorem Jg2 (h:TabOk m n c rhs T) {k:Nat}(hk:k<n):Sol m n c T (T.dir m k):=λ r hr=>by
 unfold Tab.tot
 rw [Yd (f:=λ j=>T.dir m k (T.f j)*c (T.f j) r) (a:=k) hk (λ j hj hne=>by rw [Js5 h hk hj hne,Xs]),Jpu h hk]
 rw [h.qq,h.base.cra (c (T.f k)) r hr,Jk (f:=λ i=>T.dir m k (T.b i)*c (T.b i) r) (g:=λ i=>-(cr m (T.bd.map c) i (c (T.f k))*atV (T.bd.map c) i r)) (λ i hi=>by rw [Js4 h hk hi,h.at_b hi,h.en i hi k hk,J4a]),Wb]
 omega
theorem Jd0 (h:TabOk m n c rhs T) {k:Nat}(hk:k<n):T.tot m n (λ ν=>ind W ν (T.dir m k ν))=T.rise m W k:=by
 have e:=Jif (W:=W) h (Jg2 h hk)
 rw [Yd (a:=k) hk (λ j hj hne=>by rw [Js5 h hk hj hne,Xl]),Jpu h hk,Xb] at e
 exact Int.eq_of_mul_eq_mul_right (J4b h.qpos) e
theorem Jyf {T':Tab}(p:∀ g,T'.tot m n g=T.tot m n g):Sol m n c T x->Sol m n c T' x:=λ s r hr=>by rw [p];exact s r hr
structure Y6 (m n:Nat) (W:List Nat) (T:Tab) (l k:Nat):Prop where
 hl:l<m
 hk:k<n
 rise:0<T.rise m W k
 first:∀ j,j<n->0<T.rise m W j->T.f k<=T.f j
 pos:0<T.e l k
 low:∀ i,i<m->0<T.e i k->T.b l<=T.b i
theorem Vk {n:Nat}{f:Nat->Int}(h:0<Jq n f):∃ j,j<n/\0<f j:=by
 induction n with
 | zero=>exact absurd h (by simp [Jq])
 | succ n ih=>
  rw [Jq] at h
  by_cases e:0<f n
  . exact ⟨n,by omega,e⟩
  . obtain ⟨j,hj,hp⟩:=ih (by omega)
    exact ⟨j,by omega,hp⟩
end
structure Path (m n:Nat) (c:Nat->Vec) (rhs:Vec) (W:List Nat) (N:Nat) (st:Nat->Tab) (l k:Nat->Nat):Prop where
 ok:∀ t,t<=N->TabOk m n c rhs (st t)
 sp:∀ t,t<N->Y6 m n W (st t) (l t) (k t)
 ex:∀ t,t<N->st (t+1)=(st t).ex (l t) (k t)
section
variable {m n:Nat}{c:Nat->Vec}{rhs:Vec}{W:List Nat}{N:Nat}{st:Nat->Tab}{l k:Nat->Nat}
def inB (m:Nat) (T:Tab) (ν:Nat):Prop:=∃ i,i<m/\T.b i = ν
theorem Js6 (f:Nat->Nat) (a:Nat):∀ d,∃ t,a<=t/\t<a+d+1/\∀ s,a<=s->s<a+d+1->f s<=f t
 | 0=>⟨a,Qm _,by omega,λ s h1 h2=>by rw [show s=a by omega];exact Qm _⟩
 | d+1=>by
  obtain ⟨t,h1,h2,h3⟩:=Js6 f a d
  by_cases e:f t<=f (a+d+1)
  . refine ⟨a+d+1,by omega,by omega,λ s s1 s2=>?_⟩
    rcases Uq s (a+d+1) with z | z
    . exact Xc (h3 s s1 z) e
    . rw [show s=a+d+1 by omega];exact Qm _
  . refine ⟨t,h1,by omega,λ s s1 s2=>?_⟩
    rcases Uq s (a+d+1) with z | z
    . exact h3 s s1 z
    . rw [show s=a+d+1 by omega];omega
end
noncomputable def B1 (K:Nat):List Nat->Nat
 | []=>0
 | x::l=>x+K*B1 K l
theorem Jpv {K:Nat}:∀ {l:List Nat},(∀ x∈l,x<K)->B1 K l<K^l.length
 | [],_=>by simp [B1]
 | x::l,h=>by
  have h1:=h x Qn
  have h2:=Jpv (l:=l) λ y hy=>h y (Ql _ hy)
  rw [B1,X2,Nat.pow_succ,J4v (K^l.length)]
  have:K*B1 K l+K<=K*K^l.length:=by
   have:=J5d K h2
   rwa [Nat.mul_succ] at this
  omega
theorem Jmn {K:Nat}:∀ {l l':List Nat},l.length=l'.length->(∀ x∈l,x<K)->(∀ x∈l',x<K)->B1 K l=B1 K l'->l=l'
 | [],[],_,_,_,_=>rfl
 | [],_::_,h,_,_,_=>by cases h
 | _::_,[],h,_,_,_=>by cases h
 | x::l,y::l',hl,h1,h2,e=>by
  have a:=h1 x Qn
  have b:=h2 y Qn
  rw [B1,B1] at e
  have em:(x+K*B1 K l)%K=(y+K*B1 K l')%K:=by rw [e]
  rw [J7j,J7j,J7k a,J7k b] at em
  subst em
  have ec:B1 K l=B1 K l':=by
   have:K*B1 K l=K*B1 K l':=by omega
   exact Nat.eq_of_mul_eq_mul_left (by omega) this
  rw [Jmn (by simpa using hl) (λ z hz=>h1 z (Ql _ hz)) (λ z hz=>h2 z (Ql _ hz)) ec]
structure Cols (nw m:Nat) (c:Nat->Vec):Prop where
 un:∀ s,s<m->c (nw+s)=Z6 s
noncomputable def Bc (nw m:Nat) (c:Nat->Vec) (rhs:Vec) (some:List Nat):Tab:=⟨some,(Qf m).map (nw + ·),(Qf m).map λ i=>some.map (λ k=>c k i)++[rhs i],1⟩
theorem range_getD {m i:Nat}{f:Nat->Nat}(h:i<m):((Qf m).map f).getD i 0=f i:=by
 rw [Qd,Qk,Xi h];rfl
section
variable {nw m:Nat}{c:Nat->Vec}{rhs:Vec}{some:List Nat}
theorem Jet {i:Nat}(h:i<m):(Bc nw m c rhs some).b i=nw+i:=range_getD h
theorem Jde {i:Nat}(h:i<m):(Bc nw m c rhs some).row i=some.map (λ k=>c k i)++[rhs i]:=by
 show ((Qf m).map λ i=>some.map (λ k=>c k i)++[rhs i]).getD i []=_
 rw [Qd,Qk,Xi h];rfl
theorem Js7 (C:Cols nw m c) (hn:some.Nodup) (hs:∀ k∈some,k<nw):TabOk m some.length c rhs (Bc nw m c rhs some):=by
 have hbd:((Bc nw m c rhs some).bd.map c)=Jcs m:=by
  show ((Qf m).map (nw + ·)).map c=_
  rw [Q0]
  exact U0 λ i hi=>C.un i (Q5.mp hi)
 have fj:∀ j,j<some.length->(Bc nw m c rhs some).f j=some[j]!:=λ j hj=>by
  show some.getD j 0=_
  rw [Qd,Qg hj]
  simp [hj]
 have mem:∀ j,j<some.length->(Bc nw m c rhs some).f j∈some:=λ j hj=>by
  show some.getD j 0∈some
  rw [Qd,Qg hj]
  exact Q8 _
 refine ⟨by show ((Qf m).map _).length=m;rw [Qb,Qw],rfl,by show ((Qf m).map _).length=m;rw [Qb,Qw],λ i hi=>by rw [Jde hi,Xp,Qb];rfl,by rw [hbd];exact Jq3 m,by rw [hbd,Joe];rfl,λ i hi j hj=>?_,λ i hi=>?_,λ i i' hi hi' e=>?_,λ j j' hj hj' e=>?_,λ i j hi hj e=>?_⟩
 . rw [hbd,Jk6 hi]
   unfold Tab.e
   rw [Jde hi,Qd,Up (by rw [Qb];exact hj),Qk,Qg hj]
   show c some[j] i=c (some.getD j 0) i
   rw [Qd,Qg hj];rfl
 . rw [hbd,Jk6 hi]
   unfold Tab.e
   rw [Jde hi,Qd,J1p (by rw [Qb];exact Qm _),Qb,Nat.sub_self];rfl
 . rw [Jet hi,Jet hi'] at e;omega
 . have e:some.getD j 0=some.getD j' 0:=e
   rw [Qd,Qd,Qg hj,Qg hj'] at e
   exact (J4i hn).mp e
 . rw [Jet hi] at e
   have:=hs _ (mem j hj)
   omega
theorem Jj2 (g:Nat->Int):(Bc nw m c rhs some).tot m some.length g=Jq m (λ s=>g (nw+s))+Jq some.length (λ j=>g (some.getD j 0)):=by
 unfold Tab.tot
 rw [Jk (f:=λ i=>g ((Bc nw m c rhs some).b i)) λ i hi=>by rw [Jet hi]]
 rfl
end
section
variable {nw m n:Nat}{c:Nat->Vec}{rhs:Vec}{T:Tab}{W:List Nat}
def inN (m n:Nat) (T:Tab) (ν:Nat):Prop:=(∃ i,i<m/\T.b i = ν)\/∃ j,j<n/\T.f j = ν
noncomputable def Tab.L (T:Tab) (m:Nat) (c:Nat->Vec) (W:List Nat) (v:Vec):Int:=Jq m λ i=>ind W (T.b i) (cr m (T.bd.map c) i v)
theorem Js8 (h:TabOk m n c rhs T) {j:Nat}(hj:j<n):T.L m c W (c (T.f j))=ind W (T.f j) T.q-T.rise m W j:=by
 unfold Tab.L Tab.rise
 rw [Jk (g:=λ i=>ind W (T.b i) (T.e i j)) λ i hi=>by rw [h.en i hi j hj]]
 omega
theorem Jpw (h:TabOk m n c rhs T) {t:Nat}(ht:t<m):T.L m c W (c (T.b t))=ind W (T.b t) T.q:=by
 unfold Tab.L
 rw [Yd (a:=t) ht λ i hi hne=>?_,<- h.at_b ht,Jeo h.base.len ht,<- h.qq]
 rw [<- h.at_b ht,Jep h.base.len hi ht hne]
 unfold ind;split<;>rfl
theorem Jwv (h:TabOk m n c rhs T) (v:Vec):T.L m c W v=Jq m λ s=>v s*T.L m c W (Z6 s):=by
 have hB:=h.base.len
 unfold Tab.L
 have:∀ i,i<m->ind W (T.b i) (cr m (T.bd.map c) i v)=Jq m λ s=>v s*ind W (T.b i) (cr m (T.bd.map c) i (Z6 s)):=λ i hi=>by
  have e:cr m (T.bd.map c) i v=Jq m λ s=>v s*cr m (T.bd.map c) i (Z6 s):=by
   rw [<- Jib hB hi]
   refine Jcq hB hi λ r hr=>?_
   rw [Yd (a:=r) hr λ s _ hne=>?_]
   . have:Z6 r r=1:=if_pos rfl
     rw [this,J2x]
   . have:Z6 s r=0:=if_neg (Qj hne)
     rw [this,Xl]
  rw [e]
  unfold ind
  split
  . rfl
  . rw [Jk (g:=λ _=>0) λ s _=>Xl _,Wd]
 rw [Jk this,Jfs]
 exact Jk λ s _=>Ze m (v s) _
structure Last (m n:Nat) (W:List Nat) (T:Tab):Prop where
 no:∀ j,j<n->T.rise m W j<=0
theorem J1k (h:TabOk m n c rhs T) (l:Last m n W T) {ν:Nat}(i:inN m n T ν):ind W ν T.q<=T.L m c W (c ν):=by
 rcases i with ⟨i,hi,rfl⟩ | ⟨j,hj,rfl⟩
 . rw [Jpw h hi];exact Uk _
 . rw [Js8 h hj];have:=l.no j hj;omega
noncomputable def Tab.share (T:Tab) (m n:Nat) (W:List Nat) (ν:Nat):Int:=Jq n (λ j=>if T.f j = ν then -T.rise m W j else 0)+(if (∃ j,j<n/\T.f j = ν) then 0 else ind W ν T.q)
theorem Jd1 (h:TabOk m n c rhs T) {j:Nat}(hj:j<n):T.share m n W (T.f j) = -T.rise m W j:=by
 unfold Tab.share
 rw [if_pos ⟨j,hj,rfl⟩,Yd (a:=j) hj λ i hi hne=>if_neg λ z=>hne (h.fi i j hi hj z),if_pos rfl];omega
theorem Jcx (h:TabOk m n c rhs T) {i:Nat}(hi:i<m):T.share m n W (T.b i)=ind W (T.b i) T.q:=by
 unfold Tab.share
 rw [if_neg λ ⟨j,hj,e⟩=>h.ne i j hi hj e.symm,Jk (g:=λ _=>0) λ j hj=>if_neg λ e=>h.ne i j hi hj e.symm,Wd];omega
theorem Jpx (h:TabOk m n c rhs T) {ν:Nat}(i:inN m n T ν) (hw:ν∉W\/∃ i,i<m/\T.b i = ν):T.share m n W ν = T.L m c W (c ν):=by
 rcases i with ⟨i,hi,rfl⟩ | ⟨j,hj,rfl⟩
 . rw [Jcx h hi,Jpw h hi]
 . rw [Jd1 h hj,Js8 h hj]
   rcases hw with hw | ⟨i,hi,e⟩
   . unfold ind;rw [if_neg hw];omega
   . exact absurd e (h.ne i j hi hj)
theorem Jq4 (C:Cols nw m c) (h:TabOk m n c rhs T) (l:Last m n W T) (hu:∀ s,s<m->inN m n T (nw+s)) (hw:∀ s,s<m->nw+s∉W\/∃ i,i<m/\T.b i=nw+s) {k:Nat}(hk:inN m n T k) :
 ind W k T.q<=Jq m (λ s=>c k s*T.share m n W (nw+s)):=by
 have e:Jq m (λ s=>c k s*T.share m n W (nw+s))=T.L m c W (c k):=by
  rw [Jwv h]
  exact Jk λ s hs=>by rw [Jpx h (hu s hs) (hw s hs),C.un s hs]
 rw [e]
 exact J1k h l hk
theorem Js9 (h:TabOk m n c rhs T) (l:Last m n W T) {ν:Nat}(i:inN m n T ν):0<=T.share m n W ν:=by
 rcases i with ⟨i,hi,rfl⟩ | ⟨j,hj,rfl⟩
 . rw [Jcx h hi]
   unfold ind
   split
   . exact J2q h.qpos
   . exact Uk _
 . rw [Jd1 h hj];have:=l.no j hj;omega
structure Ray (m n:Nat) (W:List Nat) (T:Tab) (k:Nat):Prop where
 hk:k<n
 rise:0<T.rise m W k
 no:∀ i,i<m->T.e i k<=0
theorem Jta (h:TabOk m n c rhs T) {k:Nat}(r:Ray m n W T k) (ν:Nat):0<=T.dir m k ν:=by
 unfold Tab.dir
 have:Jq m (λ i=>if T.b i = ν then T.e i k else 0)<=0:=by
  have:∀ M,M<=m->Jq M (λ i=>if T.b i = ν then T.e i k else 0)<=0:=by
   intro M
   induction M with
   | zero=>intro _;exact Uk _
   | succ M ih=>
    intro hM
    have a:=ih (by omega)
    have b:(if T.b M = ν then T.e M k else 0)<=0:=by
     split
     . exact r.no M (by omega)
     . exact Uk _
    show Jq M (λ i=>if T.b i = ν then T.e i k else 0)+(if T.b M = ν then T.e M k else 0)<=0
    omega
  exact this m (Qm _)
 have:=h.qpos
 split<;>omega
end
end Tb
namespace My
open L2
end My
namespace L2
variable {X:Cx}
end L2
namespace My
open L2
abbrev J1l (i j:Nat) (ga:GN):GS:=λ G env n=>ga env n λ ds n1=>∃ x y,ds=[x,y]/\G.nx ((env.set i (.d x)).set j (.d y)) n1
instance sv_par {i j:Nat}{t:TA}{gt:GN} [T:DV true t gt]:SV (Jy4 i j t) (J1l i j gt):=⟨λ {C G D} O {ex env σ H n} A h=>
 T.dv A.ev h λ ds n1 vs H1 h1 s1 r1=>by
  obtain ⟨x,y,rfl,q⟩:=h1
  cases r1 with
  | cons r1 r2=>
   cases r2 with
   | cons r2 r3=>
    cases r3
    exact ⟨_,_,rfl,O.nx (((A.step s1).put r1).put r2) q⟩⟩
def J0f:G1:=λ ds Q=>match ds with
 | [.int i]=>Q (.int (if i<0 then -i else i))
 | _=>False
instance cs_abs:CS (λ xs H Q=>∃ i,xs=[.int i]/\Q (.int (if i<0 then -i else i)) H) J0f:=⟨λ {H xs ds Q P} r h k=>by
 unfold J0f at h
 split at h
 . cases r with
   | cons r1 t=>
    cases t
    cases r1
    exact ⟨_,rfl,k _ _ h λ _=>.int _⟩
 . exact h.elim⟩
noncomputable def Zi (ns:List Int):Nat:=ns.foldl (λ g x=>Xx g x.natAbs) 0
def Jeu:GSp:=λ as n Q=>∃ ns:List Int,as=[.d (.list (ns.map .int))]/\Q (.int ((Zi ns:Nat):Int)) n
noncomputable instance:Scal Jeu:=⟨λ {as n P} h=>by obtain ⟨w,e,q⟩:=h;exact ⟨w,e,rfl,q⟩⟩
def Jg3:GSn:=λ as n Q=>∃ ns:List Int,as=[.d (.list (ns.map .int))]/\ns.length<=100000/\Zi ns≠0/\((Zi ns:Nat):Int)<2^9000/\Q ((ns.map λ x=>x/((Zi ns:Nat):Int)).map .int) n
theorem Jtb (ns:List Int) (x:Int):Zi (ns++[x])=Xx (Zi ns) x.natAbs:=by unfold Zi;rw [List.foldl_append];rfl
theorem Jtc {ns:List Int}{i:Nat}{x:Int}(h:ns[i]? = some x):Zi (ns.take (i+1))=Xx (Zi (ns.take i)) x.natAbs:=by
 rw [J5n,h]
 exact Jtb _ _
noncomputable abbrev Jn (k:Nat):J8j:=.int (k:Int)
noncomputable abbrev Ji8 (wt ht:List Int):J8j:=.tuple [.tuple (wt.map .int),.tuple (ht.map .int)]
def Jww (K:Qc) (ta:TA):TI:=Jn4 K ta
theorem Jvb {X:Cx}{tg e:Expr}{K:Qc}{ta:TA}(h:PI X tg e (Jn4 K ta)):PI X tg e (Jww K ta):=h
abbrev Jpy (env:List Vl) (i:Nat) (k:List J8j->Prop):Prop:=match env[i]? with
 | some (.own xs)=>k xs
 | some (.d (.list xs))=>k xs
 | _=>False
abbrev J0g (i j:Nat):GN:=λ env n Q=>Jpy env i λ xs=>Jpy env j λ ys=>Q (Ba xs ys) n
theorem Jpz {S:Src}{ex:List Addr}{env:List Vl}{σ:L2.St}{H:Hp}{n i:Nat}{k:List J8j->Prop}(E:Ev S ex env σ H n) (h:Jpy env i k):∃ (xs:List J8j) (a:Addr) (vs:List V),k xs/\σ[i]? = some (some (.ref a))/\H a=some (.lst vs)/\∀ l H2,H l=none->Kp (l::S.ch) H H2->∃ vs',H2 a=some (.lst vs')/\Reps (l::ex) H2 xs vs':=by
 unfold Jpy at h
 split at h
 . rename_i xs e
   obtain ⟨a,vs,ev,h1,h2,h3,h4,h5⟩:=E.sl i _ e
   refine ⟨xs,a,vs,h,Jt ev,h1,λ l H2 hl kp=>?_⟩
   have na:a≠l:=Jx h1 hl
   exact ⟨vs,kp _ _ h1 λ z=>(Qh.mp z).elim na h5,(Reps.add hl h3).keep (Jdc E.ch kp)⟩
 . rename_i xs e
   obtain ⟨v,ev,r⟩:=E.sl i _ e
   cases r with
   | list e1 m z rs=>
    refine ⟨xs,_,_,h,Jt ev,e1,λ l H2 hl kp=>?_⟩
    have:=(Rep.add hl (.list e1 m z rs)).keep (Jdc E.ch kp)
    cases this with
    | list e m z rs=>exact ⟨_,e,rs⟩
 . exact h.elim
instance ic_zipO {K:Qc}{i j:Nat}:IC (Jww K (Yp (Z8 i) (Yp (Z8 j) Jbd))) (J0g i j):=⟨λ {S ex env σ H n R P} E h k=>by
 obtain ⟨xs,a,vs,h,s1,h1,r1⟩:=Jpz E h
 obtain ⟨ys,b,us,h,s2,h2,r2⟩:=Jpz E h
 refine ⟨_,s1,_,s2,false,false,a,b,vs,us,rfl,SqL.of h1,SqL.of h2,k _ _ _ _ h (.refl E.inv) λ l H2 hl kp al=>?_⟩
 obtain ⟨v1,w1,w2⟩:=r1 l H2 hl kp
 obtain ⟨v2,w3,w4⟩:=r2 l H2 hl kp
 exact Jn9 al (c:=false) (c':=false) (SqL.of w1) w2 (SqL.of w3) w4⟩
theorem Jk9 {ns:List Int}:∀ x∈ns,((Zi ns:Nat):Int) ∣ x:=by
 have key:∀ (l:List Int) (g:Nat),(l.foldl (λ g x=>Xx g x.natAbs) g ∣ g)/\∀ x∈l,l.foldl (λ g x=>Xx g x.natAbs) g ∣ x.natAbs:=by
  intro l
  induction l with
  | nil=>exact λ g=>⟨Nat.dvd_refl _,λ x hx=>by cases hx⟩
  | cons y l ih=>
   intro g
   obtain ⟨h1,h2⟩:=ih (Xx g y.natAbs)
   refine ⟨J7l h1 (Nat.gcd_dvd_left _ _),λ x hx=>?_⟩
   rcases Qh.mp hx with rfl | hx
   . exact J7l h1 (Nat.gcd_dvd_right _ _)
   . exact h2 x hx
 intro x hx
 exact J7m.mpr ((key ns 0).2 x hx)
theorem Jb1 {ns:List Int}{x:Int}(hx:x∈ns) (h:x≠0):Zi ns≠0:=λ z=>by
 have:=Jk9 x hx
 rw [z] at this
 exact h (Int.zero_dvd.mp this)
theorem Jp0 {ns:List Int}{x:Int}(hx:x∈ns):x/((Zi ns:Nat):Int)*((Zi ns:Nat):Int)=x:=Int.ediv_mul_cancel (Jk9 x hx)
theorem Jp1:∀ (xs gs:List Int),xs.length=gs.length->((xs.zip gs).map λ p=>p.1*p.2).sum=Jhn xs gs xs.length
 | [],[],_=>rfl
 | [],_::_,h=>by cases h
 | _::_,[],h=>by cases h
 | x::xs,g::gs,h=>by
  rw [J5s,Xa,J7n,Jp1 xs gs (by simpa using h)]
  unfold Jhn
  rw [X2,J69,Xa,J7n,Q0]
  rfl
end My
namespace L2
open PySem.SeqAt
open AutoSeq1 (wpAny_loadPart')
theorem Jvc (l b:Addr) (n n2:Nat) (dd dd2:Option Addr) (sl sl2:Array (Option J8i)) {x y:Int}{tx ty:Tok}{u u2:J8i}(hne:x≠y) :
 Meets (Builtin.«tuple.__lt__» ⟨[.ref l,.ref b],[]⟩) (λ A R s=>s.heap.get? l=some { cls:=.type "tuple",dict:=dd,data:=.seq #[.int x tx,u] n,slots:=sl }/\s.heap.get? b=some { cls:=.type "tuple",dict:=dd2,data:=.seq #[.int y ty,u2] n2,slots:=sl2 }/\R (.ok (.ret (.bool (decide (x<y))))) s):=
 .of_wp λ prog w A R s h=>by
  obtain ⟨hp,g,d,tk,os⟩:=s
  obtain ⟨hl,hb,hR⟩:=h
  have f2:=AutoSeq1.sub_tuple_tuple
  wp_walk using J80 hl,J80 hb,wpAny_forIn_list _ (λ rest b s'=>b.1=none/\s'=⟨hp,g,d,tk,os⟩/\rest=[(Uv x tx,Uv y ty),(u,u2)]) _
  case turn=>
   rintro ⟨p,q⟩ rest b s' ⟨hb',rfl,hz⟩
   injection hz with h1 h2
   cases h1
   refine wpAny_bind (EqAt.int_int x tx y ty prog w _ _ ?_)
   rw [show (x==y)=false from beq_eq_false_iff_ne.mpr hne]
   show J8l _ _ (rule "tuple.compare.by-the-first-pair-that-differs" >>= λ _=>richCompare .Lt (.int x tx) (.int y ty) >>= _) _ _ _
   wp_step
   wp_step
   refine wpAny_bind (wpAny_richCompare_same (op:=.Lt) (T:="int") (typeIs_int _ x tx) (typeIs_int _ y ty) slot_int_lt (call_int_lt ⟨by simp,?_⟩))
   wp_walk
   exact ⟨_,rfl,hR⟩
  case fin=>
   rintro ⟨b1,b2⟩ s' ⟨hb',rfl,hz⟩
   cases hz
  case h=>exact ⟨rfl,rfl,rfl⟩
section
variable {prog:J8n}{w:J8m}{A:J8o}{E:J8i->J8k->Prop}{s:J8k}{R:J81->J8k->Prop}
theorem Jtd {l b:Addr}{x y:Int}{tx ty:Tok}{u u2:J8i}{Q:J8i->J8k->Prop}(hu:A.units<cLine) (hne:x≠y) (hl:s.heap.IsTuple l #[.int x tx,u]) (hb:s.heap.IsTuple b #[.int y ty,u2]) (q:Q (.bool (decide (x<y))) s):J8l (model prog w) A (richCompare .Lt (.ref l) (.ref b)) Q E s:=by
 obtain ⟨⟨c1,d1,e1,f1⟩,h1,rfl,n1,rfl⟩:=hl
 obtain ⟨⟨c2,d2,e2,f2⟩,h2,rfl,n2,rfl⟩:=hb
 exact wpAny_richCompare_same_room (op:=.Lt) (T:="tuple") ⟨_,h1,rfl⟩ ⟨_,h2,rfl⟩ J7o (call_meets J7o ⟨_,h1,rfl⟩ F.entry_tuple_lt (F.args_tuple_lt_2 _ _) (Jvc l b n1 n2 d1 d2 f1 f2 hne) ⟨h1,h2,by simp,q⟩) hu
theorem Jp2 (bt:Nat->Nat->Bool):∀ k,argBest bt k<=k
 | 0=>Qm _
 | k+1=>by
  have:=Jp2 bt k
  rw [argBest]
  split<;>omega
theorem Jmo {I S:Addr}{fp wr:List Addr}{n:Nat}{P:Nat->J8i->Prop}{St:Nat->Heap->Prop}(W:Walks prog w A.in1 I fp wr n P St) (bt:Nat->Nat->Bool) (G:Heap->Prop) (hSf:S∉fp)
 (keep:∀ h h',G h->(∀ b o,b∉wr->b≠S->h.get? b=some o->h'.get? b=some o)->G h')
 (ask:∀ i j vi vj (s:J8k) (Q:J8i->J8k->Prop) (E:J8i->J8k->Prop),i≠j->P i vi->P j vj->G s.heap->Q (.bool (bt i j)) s->J8l (model prog w) A.in1 (richCompare .Lt vi vj) Q E s) :
 ∀ (k j:Nat) (s:J8k) (vb:J8i) (c:Nat),n-(j+1)=k->j+1<=n->St (j+1) s.heap->P (argBest bt j) vb->G s.heap ->
 s.heap.get? S=some { cls:=.type "list",dict:=none,data:=.seq #[vb,vb] c,slots:=#[] } ->
 (∀ v h' tk,P (argBest bt (n-1)) v->(∀ b o,b∉wr->b≠S->s.heap.get? b=some o->h'.get? b=some o)->R (.ok (.ret v)) { s with heap:=h',toks:=tk }) ->
 J8w (model prog w) A (.builtin "min.loop" ⟨[.ref I,.none,.ref S],[]⟩) R s:=by
 have off:S∉wr:=λ h=>hSf (W.sub _ h)
 have nm:(toString "min" ++ toString ".loop":String) = "min.loop":=by decide
 intro k
 induction k with
 | zero=>
  intro j s vb c hk hj st hv hg hS fin
  have last:j+1=n:=by omega
  refine J9v J5v ?_
  rw [J5w J18 _]
  show J8l _ A.in1 (J87 (.ref S) >>= _) _ _ s
  refine wpAny_bind (wpAny_seqItems hS rfl ?_)
  show J8l _ A.in1 (tryCatch (pyNext (.ref I)) _ >>= _) _ _ s
  refine wpAny_bind (wpAny_tryCatch (W.done s _ _ (last▸st) λ h' tk kp=>?_))
  have hS':=kp S _ off hS
  show J8l _ A.in1 (updateSeq S (λ _=>#[]) >>= _) _ _ _
  refine wpAny_bind (wpAny_updateSeq hS' rfl (wpAny_bind (wpAny_letGo (wpAny_pure ?_))))
  exact fin vb _ tk (by rw [<- last];exact hv) λ b o hbw hbS e=>(U5 _ _ (Qj hbS)).trans (kp b o hbw e)
 | succ k ih=>
  intro j s vb c hk hj st hv hg hS fin
  have more:j+1<n:=by omega
  refine J9v J5v ?_
  rw [J5w J18 _]
  show J8l _ A.in1 (J87 (.ref S) >>= _) _ _ s
  refine wpAny_bind (wpAny_seqItems hS rfl ?_)
  show J8l _ A.in1 (tryCatch (pyNext (.ref I)) _ >>= _) _ _ s
  refine wpAny_bind (wpAny_tryCatch (W.item (j+1) s _ _ more st λ v h' tk hp st' kp=>?_))
  have hS':=kp S _ off hS
  have hg':G h':=keep _ _ hg λ b o hbw _ e=>kp b o hbw e
  have ne:j+1≠argBest bt j:=by have:=Jp2 bt j;omega
  show J8l _ A.in1 (tryCatch (holding [v,v] (richCompare .Lt v vb >>= _)) _ >>= _) _ _ _
  refine wpAny_bind (wpAny_tryCatch (wpAny_holding (wpAny_bind (ask (j+1) (argBest bt j) v vb _ _ _ ne hp hv hg' ?_))))
  refine wpAny_bind (wpAny_holding (wpAny_truthy_bool ?_))
  refine wpAny_bind (wpAny_letGo (wpAny_pure ?_))
  cases hb:bt (j+1) (argBest bt j) with
  | true=>
   simp only [if_true]
   refine wpAny_bind (wpAny_updateSeq hS' rfl (wpAny_bind (wpAny_letGo ?_)))
   rw [nm]
   refine wpAny_pure ⟨plainId_quiet J18 _,ih (j+1) _ v _ (by omega) more (W.frame _ _ _ st' λ b hbf o e=>?_) (by simp only [argBest,hb,if_true];exact hp) (keep _ _ hg' λ b o _ hbS e=>(U5 _ _ (Qj hbS)).trans e) (J3r _ hS' rfl) λ v' h2 t2 hp' k2=>?_⟩
   . exact (U5 _ _ (λ h:S=b=>hSf (by rw [h];exact hbf))).trans e
   . exact fin v' h2 t2 hp' λ b o hbw hbS e=>k2 b o hbw hbS ((U5 _ _ (Qj hbS)).trans (kp b o hbw e))
  | false=>
   simp only [J26,if_false]
   refine wpAny_bind (wpAny_letGo ?_)
   rw [nm]
   refine wpAny_pure ⟨plainId_quiet J18 _,ih (j+1) _ vb c (by omega) more st' (by simp only [argBest,hb,J26,if_false];exact hv) hg' hS' λ v' h2 t2 hp' k2=>?_⟩
   exact fin v' h2 t2 hp' λ b o hbw hbS e=>k2 b o hbw hbS (kp b o hbw e)
theorem Jmp {I S:Addr}{fp wr:List Addr}{n:Nat}{P:Nat->J8i->Prop}{St:Nat->Heap->Prop}(W:Walks prog w A.in1 I fp wr n P St) (bt:Nat->Nat->Bool) (G:Heap->Prop) (hSf:S∉fp)
 (keep:∀ h h',G h->(∀ b o,b∉wr->b≠S->h.get? b=some o->h'.get? b=some o)->G h')
 (ask:∀ i j vi vj (s:J8k) (Q:J8i->J8k->Prop) (E:J8i->J8k->Prop),i≠j->P i vi->P j vj->G s.heap->Q (.bool (bt i j)) s->J8l (model prog w) A.in1 (richCompare .Lt vi vj) Q E s)
 (hn:0<n) {c:Nat} (st:St 0 s.heap) (hg:G s.heap) (hS:s.heap.get? S=some { cls:=.type "list",dict:=none,data:=.seq #[] c,slots:=#[] })
 (fin:∀ v h' tk,P (argBest bt (n-1)) v->(∀ b o,b∉wr->b≠S->s.heap.get? b=some o->h'.get? b=some o)->R (.ok (.ret v)) { s with heap:=h',toks:=tk }) :
 J8w (model prog w) A (.builtin "min.loop" ⟨[.ref I,.none,.ref S],[]⟩) R s:=by
 have off:S∉wr:=λ h=>hSf (W.sub _ h)
 have nm:(toString "min" ++ toString ".loop":String) = "min.loop":=by decide
 refine J9v J5v ?_
 rw [J5w J18 _]
 show J8l _ A.in1 (J87 (.ref S) >>= _) _ _ s
 refine wpAny_bind (wpAny_seqItems hS rfl ?_)
 show J8l _ A.in1 (tryCatch (pyNext (.ref I)) _ >>= _) _ _ s
 refine wpAny_bind (wpAny_tryCatch (W.item 0 s _ _ hn st λ v h' tk hp st' kp=>?_))
 have hS':=kp S _ off hS
 have hg':G h':=keep _ _ hg λ b o hbw _ e=>kp b o hbw e
 show J8l _ A.in1 (updateSeq S (λ _=>#[v,v]) >>= _) _ _ _
 refine wpAny_bind (wpAny_updateSeq hS' rfl ?_)
 rw [nm]
 refine wpAny_pure ⟨plainId_quiet J18 _,Jmo W bt G hSf keep ask _ 0 _ v _ rfl hn (W.frame _ _ _ st' λ b hbf o e=>?_) hp (keep _ _ hg' λ b o _ hbS e=>(U5 _ _ (Qj hbS)).trans e) (J3r _ hS' rfl) λ v' h2 t2 hp' k2=>?_⟩
 . exact (U5 _ _ (λ h:S=b=>hSf (by rw [h];exact hbf))).trans e
 . exact fin v' h2 t2 hp' λ b o hbw hbS e=>k2 b o hbw hbS ((U5 _ _ (Qj hbS)).trans (kp b o hbw e))
theorem Jte {l:Addr}{vs:List J8i}{Q:J8i->J8k->Prop}(bt:Nat->Nat->Bool) (G:Heap->Prop) (hh:A.handled=none) (hl:s.heap.IsList l vs.toArray) (hne:0<vs.length) (hg:G s.heap)
 (keep:∀ h h',G h->(∀ b o,b<s.heap.objs.size->h.get? b=some o->h'.get? b=some o)->G h')
 (ask:∀ i j vi vj (s:J8k) (Q:J8i->J8k->Prop) (E:J8i->J8k->Prop),i≠j->vs[i]? = some vi->vs[j]? = some vj->G s.heap->Q (.bool (bt i j)) s->J8l (model prog w) A.in1 (richCompare .Lt vi vj) Q E s)
 (h:∀ v h' tk,vs[argBest bt (vs.length-1)]? = some v->(∀ b o,s.heap.get? b=some o->h'.get? b=some o)->Q v { s with heap:=h',toks:=tk }) :
 J8l (model prog w) A (call (.builtin "min") [.ref l]) Q E s:=by
 have nm:(toString "min" ++ toString ".loop":String) = "min.loop":=by decide
 have hlt:l<s.heap.objs.size:=by obtain ⟨_,e,_⟩:=hl;exact Qr e
 refine call_function_tree F.kind_min F.plain_min F.entry_min (F.args_min1 _) ?_
 show J8l _ A.in1 (J7p "min" ["key","default"] 0 ⟨[],[]⟩ >>= _) _ _ s
 refine wpAny_bind (wpAny_of_eq (show J7p "min" ["key","default"] 0 ⟨[],[]⟩=pure [none,none] from rfl) ?_)
 refine wpAny_bind (wpAny_pure ?_)
 refine wpAny_bind (wpAny_pyIter_list hl ?_)
 refine wpAny_bind (wpAny_newObj_type ?_)
 rw [nm]
 have ne:l≠s.heap.objs.size:=Xe hlt
 have z1:∀ o,(s.heap.push o).objs.size=s.heap.objs.size+1:=λ o=>Xy ..
 refine wpAny_pure ⟨plainId_quiet J18 _,Jmp (Walks.list (A:=A.in1) hh _ l ne vs.toArray) bt G (λ hm=>?_) (λ h h' g k=>keep h h' g λ b o hb e=>k b o (λ hm=>?_) (λ hm=>?_) e) (λ i j vi vj s Q E d h1 h2=>ask i j vi vj s Q E d (by simpa using h1) (by simpa using h2)) (by simpa using hne) ⟨⟨_,Qt _ (Xd _ rfl),rfl,rfl⟩,(hl.push _).push _⟩ (keep _ _ hg λ b o _ e=>Qt _ (Qt _ e)) (Xd _ rfl) λ v h' tk hp k=>?_⟩
 . simp only [Qh,X4,or_false] at hm
   rcases hm with hm | hm
   . have hm':(s.heap.objs.size+1:Nat)=s.heap.objs.size:=(z1 _).symm.trans hm
     omega
   . have hm':(s.heap.objs.size+1:Nat)=l:=(z1 _).symm.trans hm
     rw [<- hm'] at hlt
     exact Q4 _ (J5x hlt)
 . rw [Qu.mp hm] at hb
   exact Q4 _ hb
 . rw [show b=s.heap.objs.size+1 from J3u hm (z1 _)] at hb
   exact Q4 _ (J5x hb)
 . refine h v h' tk (by simpa using hp) λ b o e=>k b o (λ hm=>?_) ?_ (Qt _ (Qt _ e))
   . have:=Qr e
     rw [Qu.mp hm] at this
     exact Q4 _ this
   . intro hm
     have:=Qr e
     rw [show b=s.heap.objs.size+1 from J3u hm (z1 _)] at this
     exact Q4 _ (J5x this)
end
section
variable {X:Cx}
def Jwx:List V->Hp->VK->Prop:=λ xs H Q=>∃ (p:Addr) (as:List Addr) (rs:List (Int×Int)),xs=[.ref p]/\H p=some (.lst (as.map V.ref))/\as.length=rs.length/\(∀ (i:Nat) (a:Addr) (r:Int×Int),as[i]? = some a->rs[i]? = some r->H a=some (.tup [.int r.1,.int r.2]))/\rs≠[]/\(rs.map (·.1)).Nodup /\
 ∀ (i:Nat) (a:Addr) (r:Int×Int),as[i]? = some a->rs[i]? = some r->(∀ r'∈rs,r.1<=r'.1)->Q (.ref a) H
theorem Jq5 (hc:X.calm=true) (hu:X.A.units+64<cLine):V3 X (.builtin "min") Jwx:=by
 intro pins s σ H xs us Q I r h
 obtain ⟨p,as,rs,rfl,hp,hln,hi,hne,hnd,q⟩:=h
 obtain ⟨u,rfl,ru⟩:=Jap r
 cases ru
 obtain ⟨z,its,n,rv,hl,e⟩:=I.lstM hp
 have ei:its=as.map Q2:=Jq2 rv
 subst ei
 have pos:0<rs.length:=J3d.mpr hne
 have gd:∀ i,i<rs.length->∃ (a:Addr) (r:Int×Int) (t1 t2:Tok),as[i]? = some a/\rs[i]? = some r/\rs.getD i (0,0)=r/\s.heap.IsTuple a #[.int r.1 t1,.int r.2 t2]:=λ i h2=>by
  have ha:as[i]? = some (as[i]'(by omega)):=Qg _
  have hr:rs[i]? = some rs[i]:=Qg h2
  obtain ⟨it,rv2,pl,_⟩:=I.tuple (SqT.of (hi i _ _ ha hr))
  cases rv2 with
  | cons p1 q1=>
   cases q1 with
   | cons p2 q2=>
    cases q2
    obtain ⟨t1,rfl⟩:=p1
    obtain ⟨t2,rfl⟩:=p2
    exact ⟨_,rs[i],t1,t2,ha,hr,by rw [Qd,hr];rfl,pl⟩
 refine Jte (λ i j=>decide ((rs.getD i (0,0)).1<(rs.getD j (0,0)).1)) (λ h=>∀ b o,s.heap.get? b=some o->h.get? b=some o) (I.ok.hd hc) ⟨_,e,rfl,n,rfl⟩ (by rw [Qb];omega) (λ b o e=>e) (λ h h' g k b o e=>k b o (Qr e) (g b o e)) (λ i j vi vj s' Q' E' d h1 h2 g q'=>?_) (λ v h' tk hv k=>?_)
 . rw [Qk] at h1 h2
   obtain ⟨a1,e1,rfl⟩:=U7.mp h1
   obtain ⟨a2,e2,rfl⟩:=U7.mp h2
   have l1:=(Qs.mp e1).1
   have l2:=(Qs.mp e2).1
   obtain ⟨b1,r1,t1,t2,w1,w2,w3,w4⟩:=gd i (by omega)
   obtain ⟨b2,r2,t3,t4,v1,v2,v3,v4⟩:=gd j (by omega)
   cases e1.symm.trans w1
   cases e2.symm.trans v1
   rw [w3,v3] at q'
   refine Jtd (by show X.A.units+1<cLine;omega) (λ ez=>?_) (w4.at λ o=>g _ o) (v4.at λ o=>g _ o) q'
   have m1:(rs.map (·.1))[i]? = some r1.1:=by rw [Qk,w2];rfl
   have m2:(rs.map (·.1))[j]? = some r2.1:=by rw [Qk,v2];rfl
   obtain ⟨n1,m1⟩:=Qs.mp m1
   obtain ⟨n2,m2⟩:=Qs.mp m2
   rcases J5t i j with z | z | z
   . exact J5l.mp hnd i j n1 n2 z (by rw [m1,m2];exact ez)
   . exact d z
   . exact J5l.mp hnd j i n2 n1 z (by rw [m1,m2];exact ez.symm)
 . obtain ⟨b1,b2⟩:=argBest_lt (λ i=>(rs.getD i (0,0)).1) ((as.map Q2).length-1)
   rw [Qk] at hv
   obtain ⟨a,ha,rfl⟩:=U7.mp hv
   have l1:=(Qs.mp ha).1
   obtain ⟨a',r,t1,t2,w1,w2,w3,w4⟩:=gd _ (show _<rs.length by rw [<- hln];exact l1)
   refine ⟨.ref a,H,I.kept (t':=tk) k,rfl,q _ a r ha w2 λ r' hr'=>?_⟩
   obtain ⟨j,hj⟩:=Uj.mp hr'
   have lj:=(Qs.mp hj).1
   have:=b2 j (by rw [Qb];omega)
   rw [Qd (l:=rs) (i:=j),hj] at this
   rw [<- w3]
   exact this
end
end L2
namespace My
open L2
noncomputable def Jig (r:Int×Int):J8j:=.tuple [.int r.1,.int r.2]
theorem Jih {ex:List Addr}{H:Hp}:∀ {rs:List (Int×Int)}{vs:List V},Reps ex H (rs.map Jig) vs->∃ as:List Addr,vs=as.map V.ref/\as.length=rs.length/\∀ (i:Nat) (a:Addr) (r:Int×Int),as[i]? = some a->rs[i]? = some r->H a=some (.tup [.int r.1,.int r.2])/\Rep ex H (Jig r) (.ref a)
 | [],vs,h=>by
  cases h
  exact ⟨[],rfl,rfl,λ i a r h=>by simp at h⟩
 | r::rs,vs,h=>by
  cases h with
  | cons h1 h2=>
   obtain ⟨as,rfl,hl,ha⟩:=Jih h2
   have hr:=h1
   cases h1 with
   | @tuple p us _ e nm z rr=>
    cases rr with
    | cons r1 r2=>
     cases r2 with
     | cons r2 r3=>
      cases r3
      cases r1
      cases r2
      refine ⟨p::as,rfl,by simp [hl],λ i a r' h3 h4=>?_⟩
      cases i with
      | zero=>
       cases h3
       cases h4
       exact ⟨e,hr⟩
      | succ i=>exact ha i a r' h3 h4
def J0h:G1:=λ ds Q=>∃ rs:List (Int×Int),ds=[.list (rs.map Jig)]/\rs≠[]/\(rs.map (·.1)).Nodup/\∀ r∈rs,(∀ r'∈rs,r.1<=r'.1)->Q (Jig r)
instance co_minP:CO Jwx J0h:=⟨λ {ex H xs ds Q P} al r h k=>by
 obtain ⟨rs,rfl,hne,hnd,q⟩:=h
 cases r with
 | cons r1 t=>
  cases t
  cases r1 with
  | @list p vs _ e nm z rr=>
   obtain ⟨as,rfl,hl,ha⟩:=Jih rr
   exact ⟨p,as,rs,rfl,e,hl,λ i a r h1 h2=>(ha i a r h1 h2).1,hne,hnd,λ i a r h1 h2 h3=>k _ _ _ (q r (Xo h2) h3) Kp.refl (ha i a r h1 h2).2⟩⟩
noncomputable abbrev Y0 (r:List Int):J8j:=.list (r.map .int)
noncomputable abbrev Ji9:List Str:=["first_purse","first_room","behind_all","free","bound","rows","divisor"]
structure Siz where
 fp:Int
 fr:Int
 be:Int
noncomputable def Zy (C:Addr) (z:Siz) (T:Tb.Tab):J8j:=.dict (Ja6 C Ji9 [.int z.fp,.int z.fr,.int z.be,.list (T.fr.map Jn),.list (T.bd.map Jn),.list (T.rows.map Y0),.int T.q])
structure TableOk (K:Qc) (C:Addr):Prop where
 c:Cls K C
 n1:NoAttr K C "first_purse"
 n2:NoAttr K C "first_room"
 n3:NoAttr K C "behind_all"
 n4:NoAttr K C "free"
 n5:NoAttr K C "bound"
 n6:NoAttr K C "rows"
 n7:NoAttr K C "divisor"
section
variable {K:Qc}{C:Addr}{z:Siz}{T:Tb.Tab}{Q:J8j->Prop}
theorem Jp3 (Y:TableOk K C) (q:Q (.int z.fp)):∃ (C':Addr) (ns:List Str) (ds:List J8j) (x:J8j),Zy C z T = .dict (Ja6 C' ns ds)/\Cls K C'/\NoAttr K C' "first_purse"/\ns.length=ds.length/\Ji6 ns ds "first_purse" = some x/\Q x:=⟨C,Ji9,_,_,rfl,Y.c,Y.n1,rfl,rfl,q⟩
theorem J0i (Y:TableOk K C) (q:Q (.int z.fr)):∃ (C':Addr) (ns:List Str) (ds:List J8j) (x:J8j),Zy C z T = .dict (Ja6 C' ns ds)/\Cls K C'/\NoAttr K C' "first_room"/\ns.length=ds.length/\Ji6 ns ds "first_room" = some x/\Q x:=⟨C,Ji9,_,_,rfl,Y.c,Y.n2,rfl,rfl,q⟩
theorem Jtf (Y:TableOk K C) (q:Q (.int z.be)):∃ (C':Addr) (ns:List Str) (ds:List J8j) (x:J8j),Zy C z T = .dict (Ja6 C' ns ds)/\Cls K C'/\NoAttr K C' "behind_all"/\ns.length=ds.length/\Ji6 ns ds "behind_all" = some x/\Q x:=⟨C,Ji9,_,_,rfl,Y.c,Y.n3,rfl,rfl,q⟩
theorem Jg4 (Y:TableOk K C) (q:Q (.list (T.fr.map Jn))):∃ (C':Addr) (ns:List Str) (ds:List J8j) (x:J8j),Zy C z T = .dict (Ja6 C' ns ds)/\Cls K C'/\NoAttr K C' "free"/\ns.length=ds.length/\Ji6 ns ds "free" = some x/\Q x:=⟨C,Ji9,_,_,rfl,Y.c,Y.n4,rfl,rfl,q⟩
theorem Jcy (Y:TableOk K C) (q:Q (.list (T.bd.map Jn))):∃ (C':Addr) (ns:List Str) (ds:List J8j) (x:J8j),Zy C z T = .dict (Ja6 C' ns ds)/\Cls K C'/\NoAttr K C' "bound"/\ns.length=ds.length/\Ji6 ns ds "bound" = some x/\Q x:=⟨C,Ji9,_,_,rfl,Y.c,Y.n5,rfl,rfl,q⟩
theorem Jaz (Y:TableOk K C) (q:Q (.list (T.rows.map Y0))):∃ (C':Addr) (ns:List Str) (ds:List J8j) (x:J8j),Zy C z T = .dict (Ja6 C' ns ds)/\Cls K C'/\NoAttr K C' "rows"/\ns.length=ds.length/\Ji6 ns ds "rows" = some x/\Q x:=⟨C,Ji9,_,_,rfl,Y.c,Y.n6,rfl,rfl,q⟩
theorem Jmq (Y:TableOk K C) (q:Q (.int T.q)):∃ (C':Addr) (ns:List Str) (ds:List J8j) (x:J8j),Zy C z T = .dict (Ja6 C' ns ds)/\Cls K C'/\NoAttr K C' "divisor"/\ns.length=ds.length/\Ji6 ns ds "divisor" = some x/\Q x:=⟨C,Ji9,_,_,rfl,Y.c,Y.n7,rfl,rfl,q⟩
theorem Jb2 {m:Str}(hm:m∉Ji9):∃ (ns:List Str) (ds:List J8j),Zy C z T = .dict (Ja6 C ns ds)/\ns.length=ds.length/\m∉ns:=⟨Ji9,_,rfl,rfl,hm⟩
end
structure Shape (m n:Nat) (T:Tb.Tab):Prop where
 lb:T.bd.length=m
 lf:T.fr.length=n
 lr:T.rows.length=m
 lw:∀ i,i<m->(T.row i).length=n+1
 mm:m<=20
 nn:n<=100
 small:∀ r∈T.rows,∀ x∈r,x.natAbs<2^4000
 q0:0<T.q
 q1:T.q<2^4000
def Jog (C:Addr):GSn:=λ as n Q=>∃ (z:Siz) (T:Tb.Tab) (other row:List Int) (k:Nat),as=[.d (Zy C z T),.d (Y0 other),.d (Y0 row),.d (Jn k)]/\k<other.length/\k<row.length/\other.length<=1000/\(∀ x∈other,x.natAbs<2^4000)/\(∀ x∈row,x.natAbs<2^4000)/\0<T.q/\T.q<2^4000/\Q ((Tb.Jct T.q row other k).map .int) n
def Jg5 (C:Addr):GSn:=λ as n' Q=>∃ (z:Siz) (T:Tb.Tab) (m n:Nat) (W:List Nat),as=[.d (Zy C z T),.d (.list (W.map Jn))]/\Shape m n T/\Q (((Qf n).map (T.rise m W)).map .int) n'
def Jdf (C:Addr):GSp:=λ as n' Q=>∃ (z:Siz) (T:Tb.Tab) (m n:Nat) (W:List Nat),as=[.d (Zy C z T),.d (.list (W.map Jn))]/\Shape m n T/\(∀ j j',j<n->j'<n->T.f j=T.f j'->j=j')/\(∀ k,k<n->0<T.rise m W k->(∀ j,j<n->0<T.rise m W j->T.f k<=T.f j)->Q (Jn k) n')/\((∀ j,j<n->T.rise m W j<=0)->Q .none n')
noncomputable def tl (T:Tb.Tab) (n:Nat) (W:List Nat) (i:Nat):List Int:=(Qf n).map λ j=>Tb.ind W (T.f j) T.q-Tb.Jq i λ i=>Tb.ind W (T.b i) (T.e i j)
section
variable {m n i:Nat}{T:Tb.Tab}{W:List Nat}
theorem Joh:(tl T n W i).length=n:=by unfold tl;rw [Qb,Qw]
theorem Joi {j:Nat}(hj:j<n):(tl T n W i)[j]? = some (Tb.ind W (T.f j) T.q-Tb.Jq i λ i=>Tb.ind W (T.b i) (T.e i j)):=by unfold tl;rw [Qk,Xi hj];rfl
theorem Jvd (sh:Shape m n T):T.fr.map (λ ν=>Tb.ind W ν T.q)=tl T n W 0:=by
 apply Xv
 intro j
 by_cases hj:j<n
 . have h1:j<T.fr.length:=by rw [sh.lf];exact hj
   rw [Joi hj,Qk,Qg h1]
   have:T.f j=T.fr[j]:=by unfold Tb.Tab.f;rw [Qd,Qg h1];rfl
   rw [this]
   show some _=some (_-(0:Int))
   rw [J3i]
 . rw [Qx (by rw [Qb,sh.lf];omega),Qx (by rw [Joh];omega)]
theorem J0j (sh:Shape m n T) (hi:i<m) (c:T.b i∈W):((tl T n W i).zip (T.row i)).map (λ p=>p.1-p.2)=tl T n W (i+1):=by
 have lw:=sh.lw i hi
 apply Xv
 intro j
 by_cases hj:j<n
 . have h1:j<(T.row i).length:=by omega
   rw [List.zip,Qk,J15,Joi hj,Joi hj,Qg h1]
   have e:Tb.ind W (T.b i) (T.e i j)=(T.row i)[j]:=by
    unfold Tb.ind Tb.Tab.e
    rw [if_pos c,Qd,Qg h1];rfl
   show some (_-(T.row i)[j])=some (_-(Tb.Jq i (λ i=>Tb.ind W (T.b i) (T.e i j))+Tb.ind W (T.b i) (T.e i j)))
   rw [e]
   congr 1
   omega
 . rw [Qx (by rw [Qb,J5y,Joh];omega),Qx (by rw [Joh];omega)]
theorem Jyg (c:T.b i∉W):tl T n W (i+1)=tl T n W i:=by
 unfold tl
 refine U0 λ j _=>?_
 show _-(Tb.Jq i (λ i=>Tb.ind W (T.b i) (T.e i j))+Tb.ind W (T.b i) (T.e i j))=_
 have:Tb.ind W (T.b i) (T.e i j)=0:=by unfold Tb.ind;rw [if_neg c]
 rw [this]
 omega
theorem Joj {x:J8j}(sh:Shape m n T) (h:(Ba (T.bd.map Jn) (T.rows.map Y0))[i]? = some x):i<m/\x = .tuple [Jn (T.b i),Y0 (T.row i)]:=by
 unfold Ba at h
 rw [J15,Qk,Qk] at h
 by_cases hi:i<m
 . have h1:i<T.bd.length:=by rw [sh.lb];exact hi
   have h2:i<T.rows.length:=by rw [sh.lr];exact hi
   rw [Qg h1,Qg h2] at h
   refine ⟨hi,?_⟩
   have e1:T.b i=T.bd[i]:=by unfold Tb.Tab.b;rw [Qd,Qg h1];rfl
   have e2:T.row i=T.rows[i]:=by unfold Tb.Tab.row;rw [Qd,Qg h2];rfl
   rw [e1,e2]
   exact (Xr h).symm
 . rw [Qx (by rw [sh.lb];omega)] at h
   cases h
end
theorem Jve (n:Nat) (f:Nat->Int):Jck (((Qf n).map f).map .int)=(Qf n).map λ j=>.tuple [Jn j,.int (f j)]:=by
 apply Xv
 intro i
 unfold Jck
 rw [J36,Qk,Qk,Qk]
 by_cases h:i<n
 . rw [Xi h];rfl
 . rw [Qx (by rw [Qw];omega)];rfl
noncomputable def Jii (T:Tb.Tab) (n a o k:Nat):Bool:=decide (T.e a n*T.e o k<T.e o n*T.e a k)||(decide (T.e a n*T.e o k=T.e o n*T.e a k)&&decide (T.b a<T.b o))
noncomputable def rf (T:Tb.Tab) (n k:Nat):Nat->Option Nat
 | 0=>none
 | i+1=>match rf T n k i with
  | none=>if 0<T.e i k then some i else none
  | some o=>if 0<T.e i k/\Jii T n i o k=true then some i else some o
noncomputable def Jyh:Option Nat->J8j
 | none=>.none
 | some i=>Jn i
def Jla (C:Addr):GSp:=λ as n' Q=>∃ (z:Siz) (T:Tb.Tab) (m n a o k:Nat),as=[.d (Zy C z T),.d (Jn a),.d (Jn o),.d (Jn k)]/\Shape m n T/\a<m/\o<m/\k<n/\Q (.bool (Jii T n a o k)) n'
def Jft (C:Addr):GSp:=λ as n' Q=>∃ (z:Siz) (T:Tb.Tab) (m n k:Nat),as=[.d (Zy C z T),.d (Jn k)]/\Shape m n T/\k<n/\Q (Jyh (rf T n k m)) n'
def Jlb (C:Addr):GSp:=λ as n' Q=>∃ (z:Siz) (T:Tb.Tab) (u:Nat) (xs:List Int),as=[.d (Zy C z T),.d (Y0 xs)]/\z.fr-z.fp=(u:Int)/\xs.length<=1000/\Q (.tuple [.tuple ((xs.take u).map .int),.tuple ((xs.drop u).map .int)]) n'
section
variable {m n:Nat}{T:Tb.Tab}
theorem Jij (sh:Shape m n T) {i:Nat}(hi:i<m):atI (T.rows.map Y0) ((i:Nat):Int)=some (Y0 (T.row i)):=by
 have h2:i<T.rows.length:=by rw [sh.lr];exact hi
 refine Yc (by omega) ?_
 unfold Tb.Tab.row
 rw [Qy,Qk,Qg h2,Qd,Qg h2]
 rfl
theorem Jwy (sh:Shape m n T) {i:Nat}(hi:i<m):atI (T.bd.map Jn) ((i:Nat):Int)=some (Jn (T.b i)):=by
 have h2:i<T.bd.length:=by rw [sh.lb];exact hi
 refine Yc (by omega) ?_
 unfold Tb.Tab.b
 rw [Qy,Qk,Qg h2,Qd,Qg h2]
 rfl
theorem J0k (sh:Shape m n T) {j:Nat}(hj:j<n):atI (T.fr.map Jn) ((j:Nat):Int)=some (Jn (T.f j)):=by
 have h2:j<T.fr.length:=by rw [sh.lf];exact hj
 refine Yc (by omega) ?_
 unfold Tb.Tab.f
 rw [Qy,Qk,Qg h2,Qd,Qg h2]
 rfl
theorem Jvf (sh:Shape m n T) {i j:Nat}(hi:i<m) (hj:j<=n):atI ((T.row i).map Qi) ((j:Nat):Int)=some (.int (T.e i j)):=by
 have h2:j<(T.row i).length:=by rw [sh.lw i hi];omega
 refine Yc (by omega) ?_
 unfold Tb.Tab.e
 rw [Qy,Qk,Qg h2,Qd,Qg h2]
 rfl
theorem Jok (sh:Shape m n T) {i:Nat}(hi:i<m):atI ((T.row i).map Qi) (-1)=some (.int (T.e i n)):=by
 have hl:=sh.lw i hi
 have h2:n<(T.row i).length:=by omega
 refine Jux (by intro h;rw [List.map_eq_nil_iff] at h;rw [h] at hl;cases hl) ?_
 rw [List.getLast?_map,J68,hl,show n+1-1=n by omega,Qg h2]
 unfold Tb.Tab.e
 rw [Qd,Qg h2]
 rfl
theorem Jg6 (sh:Shape m n T) {i j:Nat}(hi:i<m) (hj:j<=n):(T.e i j).natAbs<2^9000:=by
 have h2:j<(T.row i).length:=by rw [sh.lw i hi];omega
 have h3:i<T.rows.length:=by rw [sh.lr];exact hi
 have hr:T.row i∈T.rows:=by unfold Tb.Tab.row;rw [Qd,Qg h3];exact Q8 _
 refine Qz (sh.small _ hr (T.e i j) ?_) (J3e (by decide) (by decide))
 unfold Tb.Tab.e
 rw [Qd,Qg h2]
 exact Q8 _
theorem Jvg (sh:Shape m n T) {i:Nat}{x:J8j}(h:(Jck (T.rows.map Y0))[i]? = some x):i<m/\x = .tuple [Jn i,Y0 (T.row i)]:=by
 unfold Jck at h
 rw [J36,Qk] at h
 by_cases hi:i<m
 . have h2:i<T.rows.length:=by rw [sh.lr];exact hi
   rw [Qg h2] at h
   refine ⟨hi,?_⟩
   have e2:T.row i=T.rows[i]:=by unfold Tb.Tab.row;rw [Qd,Qg h2];rfl
   rw [e2]
   exact (Xr h).symm
 . rw [Qx (by rw [sh.lr];omega)] at h
   cases h
theorem Jtg (k:Nat):∀ {i o:Nat},rf T n k i=some o->o<i
 | i+1,o,h=>by
  rw [rf] at h
  cases e:rf T n k i with
  | none=>
   rw [e] at h
   simp only at h
   split at h
   . cases h;omega
   . cases h
  | some p=>
   rw [e] at h
   simp only at h
   have:=Jtg k e
   split at h
   . cases h;omega
   . cases h;omega
end
structure Names (m n be:Nat) (T:Tb.Tab):Prop where
 bi:∀ i i',i<m->i'<m->T.b i=T.b i'->i=i'
 fi:∀ j j',j<n->j'<n->T.f j=T.f j'->j=j'
 ne:∀ i j,i<m->j<n->T.b i≠T.f j
 bl:∀ i,i<m->T.b i<be
 fl:∀ j,j<n->T.f j<be
noncomputable def Jmr (T:Tb.Tab) (k i ν:Nat):Int:=(if ν = T.f k then T.q else 0)-Tb.Jq i λ i=>if T.b i = ν then T.e i k else 0
noncomputable def dl (T:Tb.Tab) (be k i:Nat):List Int:=(Qf be).map (Jmr T k i)
theorem Jik {T:Tb.Tab}{be k i:Nat}:(dl T be k i).length=be:=by unfold dl;rw [Qb,Qw]
theorem Jol {T:Tb.Tab}{be k i ν:Nat}(h:ν < be):(dl T be k i)[ν]? = some (Jmr T k i ν):=by unfold dl;rw [Qk,Xi h];rfl
theorem Jvh {T:Tb.Tab}{be k:Nat}(h:T.f k<be):(Qp be (0:Int)).set (T.f k) T.q=dl T be k 0:=by
 apply Xv
 intro i
 by_cases hi:i<be
 . rw [Jol hi,J16,X3,U4,if_pos hi]
   unfold Jmr
   show _=some (_-(0:Int))
   rw [J3i]
   by_cases e:T.f k=i
   . rw [if_pos e,if_pos h,if_pos e.symm]
   . rw [if_neg e,if_neg (Qj e)]
 . rw [Qx (by rw [Qq,X3];omega),Qx (by rw [Jik];omega)]
theorem Jyi {m n be:Nat}{T:Tb.Tab}(N:Names m n be T) {k:Nat}(hk:k<n) {i:Nat}(hi:i<m):∀ c,c<=i->Jmr T k c (T.b i)=0:=by
 intro c hc
 unfold Jmr
 rw [if_neg (N.ne i k hi hk)]
 have:Tb.Jq c (λ j=>if T.b j=T.b i then T.e j k else 0)=0:=by
  induction c with
  | zero=>rfl
  | succ c ih=>
   show Tb.Jq c _+(if T.b c=T.b i then T.e c k else 0)=0
   rw [ih (by omega),if_neg λ e=>by have:=N.bi c i (by omega) hi e;omega]
   rfl
 rw [this]
 rfl
theorem Jvi {m n be:Nat}{T:Tb.Tab}(N:Names m n be T) {k:Nat}(hk:k<n) {i:Nat}(hi:i<m):(dl T be k i).set (T.b i) (-(T.e i k))=dl T be k (i+1):=by
 apply Xv
 intro ν
 by_cases hν:ν < be
 . rw [Jol hν,J16,Jik,Jol hν]
   have st:Jmr T k (i+1) ν = Jmr T k i ν - (if T.b i = ν then T.e i k else 0):=by
    unfold Jmr
    show _-(Tb.Jq i _+(if T.b i = ν then T.e i k else 0))=_
    omega
   rw [st]
   by_cases e:T.b i = ν
   . rw [if_pos e,if_pos e,if_pos (N.bl i hi),<- e,Jyi N hk hi i (Qm _)]
     congr 1
     omega
   . rw [if_neg e,if_neg e,J3i]
 . rw [Qx (by rw [Qq,Jik];omega),Qx (by rw [Jik];omega)]
theorem Jvj {T:Tb.Tab}{be k m:Nat}:dl T be k m=(Qf be).map (T.dir m k):=rfl
def Jev (C:Addr):GSp:=λ as n' Q=>∃ (T:Tb.Tab) (m n k nw nr be:Nat),as=[.d (Zy C ⟨(nw:Int),(nr:Int),(be:Int)⟩ T),.d (Jn k)]/\Shape m n T/\Names m n be T/\k<n/\nw<=be/\be<=1000/\Zi ((Qf nw).map (T.dir m k))≠0/\((Zi ((Qf nw).map (T.dir m k)):Nat):Int)<2^9000/\Q (.tuple (((Qf nw).map (T.dir m k)).map λ x=>.int (x/((Zi ((Qf nw).map (T.dir m k)):Nat):Int)))) n'
noncomputable def wl (q:Int) (be:Nat) (W:List Nat):List Int:=(Qf be).map λ ν=>Tb.ind W ν q
theorem Jil {q:Int}{be:Nat}{W:List Nat}:(wl q be W).length=be:=by unfold wl;rw [Qb,Qw]
theorem Jom {q:Int}{be ν:Nat}{W:List Nat}(h:ν < be):(wl q be W)[ν]? = some (Tb.ind W ν q):=by unfold wl;rw [Qk,Xi h];rfl
theorem Jyj {q:Int}{be:Nat}:Qp be (0:Int)=wl q be []:=by
 apply Xv
 intro i
 by_cases h:i<be
 . rw [Jom h,U4,if_pos h]
   unfold Tb.ind
   rw [if_neg X4]
 . rw [Qx (by rw [X3];omega),Qx (by rw [Jil];omega)]
theorem Jvk {q:Int}{be w:Nat}{W:List Nat}(h:w<be):(wl q be W).set w q=wl q be (W++[w]):=by
 apply Xv
 intro ν
 by_cases hν:ν < be
 . rw [Jom hν,J16,Jil,Jom hν]
   unfold Tb.ind
   by_cases e:w = ν
   . rw [if_pos e,if_pos h,if_pos (by rw [<- e];simp)]
   . rw [if_neg e]
     by_cases c:ν∈W
     . rw [if_pos c,if_pos (Xn _ c)]
     . rw [if_neg c,if_neg]
       intro z
       rcases Xk.mp z with z | z
       . exact c z
       . exact e (Qu.mp z).symm
 . rw [Qx (by rw [Qq,Jil];omega),Qx (by rw [Jil];omega)]
open Classical in
noncomputable def shN (T:Tb.Tab) (m:Nat) (W:List Nat) (i ν:Nat):Int:=Tb.Jq i (λ j=>if T.f j = ν then -T.rise m W j else 0)+(if (∃ j,j<i/\T.f j = ν) then 0 else Tb.ind W ν T.q)
noncomputable def sl (T:Tb.Tab) (m be:Nat) (W:List Nat) (i:Nat):List Int:=(Qf be).map (shN T m W i)
theorem Jlc {T:Tb.Tab}{m be i:Nat}{W:List Nat}:(sl T m be W i).length=be:=by unfold sl;rw [Qb,Qw]
theorem Jth {T:Tb.Tab}{m be i ν:Nat}{W:List Nat}(h:ν < be):(sl T m be W i)[ν]? = some (shN T m W i ν):=by unfold sl;rw [Qk,Xi h];rfl
theorem Jvl {T:Tb.Tab}{m be:Nat}{W:List Nat}:wl T.q be W=sl T m be W 0:=by
 unfold wl sl
 refine U0 λ ν _=>?_
 unfold shN
 show _=(0:Int)+_
 rw [if_neg (by rintro ⟨j,hj,_⟩;omega),J2k]
theorem Jvm {m n be i:Nat}{T:Tb.Tab}{W:List Nat}(N:Names m n be T) (hi:i<n):(sl T m be W i).set (T.f i) (-(T.rise m W i))=sl T m be W (i+1):=by
 apply Xv
 intro ν
 by_cases hν:ν < be
 . rw [Jth hν,J16,Jlc,Jth hν]
   by_cases e:T.f i = ν
   . rw [if_pos e,if_pos (N.fl i hi)]
     unfold shN
     rw [if_pos ⟨i,by omega,e⟩]
     show _=some (Tb.Jq i (λ j=>if T.f j = ν then -T.rise m W j else 0)+(if T.f i = ν then -T.rise m W i else 0)+0)
     have z:∀ c,c<=i->Tb.Jq c (λ j=>if T.f j = ν then -T.rise m W j else 0)=0:=by
      intro c hc
      induction c with
      | zero=>rfl
      | succ c ih=>
       show Tb.Jq c _+(if T.f c = ν then -T.rise m W c else 0)=0
       rw [ih (by omega),if_neg λ h=>by have:=N.fi c i (by omega) hi (h.trans e.symm);omega]
       rfl
     rw [z i (Qm _),if_pos e]
     congr 1
     omega
   . rw [if_neg e]
     unfold shN
     show some (_+_)=some (Tb.Jq i (λ j=>if T.f j = ν then -T.rise m W j else 0)+(if T.f i = ν then -T.rise m W i else 0)+_)
     rw [if_neg e,J2n]
     congr 2
     by_cases c:∃ j,j<i/\T.f j = ν
     . obtain ⟨j,h1,h2⟩:=c
       rw [if_pos ⟨j,h1,h2⟩,if_pos ⟨j,by omega,h2⟩]
     . rw [if_neg c,if_neg]
       rintro ⟨j,h1,h2⟩
       by_cases z:j=i
       . rw [z] at h2;exact e h2
       . exact c ⟨j,by omega,h2⟩
 . rw [Qx (by rw [Qq,Jlc];omega),Qx (by rw [Jlc];omega)]
def Jim (C:Addr):GSn:=λ as n' Q=>∃ (T:Tb.Tab) (m n nw nr be:Nat) (W:List Nat),as=[.d (Zy C ⟨(nw:Int),(nr:Int),(be:Int)⟩ T),.d (.list (W.map Jn))]/\Shape m n T/\Names m n be T/\(∀ w∈W,w<be)/\nw<=be/\be<=1000/\Q (((sl T m be W n).drop nw).map .int) n'
theorem Jyk {m n i:Nat}{T:Tb.Tab}{x:J8j}{f:Nat->Int}(sh:Shape m n T) (h:(Ba (T.fr.map Jn) (((Qf n).map f).map .int))[i]? = some x):i<n/\x = .tuple [Jn (T.f i),.int (f i)]:=by
 unfold Ba at h
 rw [J15,Qk,Qk,Qk] at h
 by_cases hi:i<n
 . have h1:i<T.fr.length:=by rw [sh.lf];exact hi
   rw [Qg h1,Xi hi] at h
   refine ⟨hi,?_⟩
   have e1:T.f i=T.fr[i]:=by unfold Tb.Tab.f;rw [Qd,Qg h1];rfl
   rw [e1]
   exact (Xr h).symm
 . rw [Qx (by rw [sh.lf];omega)] at h
   cases h
section
variable {T:Tb.Tab}{n k:Nat}
theorem Jld:∀ {i:Nat},rf T n k i=none->∀ j,j<i->T.e j k<=0
 | 0,_,j,hj=>by omega
 | i+1,h,j,hj=>by
  rw [rf] at h
  cases e:rf T n k i with
  | none=>
   rw [e] at h
   simp only at h
   split at h
   . cases h
   . rename_i c
     by_cases z:j=i
     . rw [z];omega
     . exact Jld e j (by omega)
  | some o=>
   rw [e] at h
   simp only at h
   split at h<;>cases h
end
section
variable {m n be:Nat}{c:Nat->Tb.Vec}{rhs:Tb.Vec}{T:Tb.Tab}{W:List Nat}
theorem Jin (b:Nat) (hb:1<=b):∀ k d,Tb.Jer b k<=Tb.Jer b (k+d)
 | k,0=>Qm _
 | k,d+1=>by
  refine Xc (Jin b hb k d) ?_
  show Tb.Jer b (k+d)<=(k+d+1)*b*Tb.Jer b (k+d)
  exact Nat.le_mul_of_pos_left _ (Nat.mul_pos (by omega) hb)
theorem Jj3 (hm:m<=18):Tb.Jer 100 m<2^4000:=by
 have h1:=Jin 100 (by decide) m (18-m)
 rw [show m+(18-m)=18 by omega] at h1
 exact Ug h1 (by decide +kernel)
structure Small (m:Nat) (c:Nat->Tb.Vec) (rhs:Tb.Vec):Prop where
 c:∀ ν r,r<m->(c ν r).natAbs<=100
 r:∀ r,r<m->(rhs r).natAbs<=100
theorem Jio (S:Small m c rhs) (h:Tb.TabOk m n c rhs T) {i:Nat}{v:Tb.Vec}(hv:∀ r,r<m->(v r).natAbs<=100):(Tb.cr m (T.bd.map c) i v).natAbs<=Tb.Jer 100 m:=by
 unfold Tb.cr
 refine Tb.Jmm m _ (by rw [Qq,Qb,h.lb]) λ j hj r hr=>?_
 unfold Tb.atV
 have hl:j<(T.bd.map c).length:=by rw [Qb,h.lb];exact hj
 by_cases e:i=j
 . subst e
   rw [Tb.Zv hl]
   exact hv r hr
 . rw [Tb.Z7 e]
   have:=Tb.at_map (c:=c) (l:=T.bd) (i:=j) (by rw [h.lb];exact hj)
   unfold Tb.atV at this
   rw [this]
   exact S.c _ r hr
theorem Jti (S:Small m c rhs) (h:Tb.TabOk m n c rhs T) (hm:m<=18) (hn:n<=100):Shape m n T:=by
 have fs:=Jj3 hm
 refine ⟨h.lb,h.lf,h.lr,h.lw,by omega,hn,λ r hr x hx=>?_,h.qpos,?_⟩
 . obtain ⟨i,hi⟩:=Uj.mp hr
   obtain ⟨j,hj⟩:=Uj.mp hx
   have il:=(Qs.mp hi).1
   rw [h.lr] at il
   have er:T.row i=r:=by unfold Tb.Tab.row;rw [Qd,hi];rfl
   have jl:=(Qs.mp hj).1
   rw [<- er,h.lw i il] at jl
   have ex:T.e i j=x:=by unfold Tb.Tab.e;rw [er,Qd,hj];rfl
   rw [<- ex]
   refine Ug ?_ fs
   by_cases z:j<n
   . rw [h.en i il j z]
     exact Jio S h λ r hr=>S.c _ r hr
   . rw [show j=n by omega,h.el i il]
     exact Jio S h S.r
 . have:T.q.natAbs<=Tb.Jer 100 m:=by
    rw [h.qq]
    refine Tb.Jmm m _ (by rw [Qb,h.lb]) λ j hj r hr=>?_
    rw [Tb.at_map (by rw [h.lb];exact hj)]
    exact S.c _ r hr
   have q0:=h.qpos
   have:T.q.natAbs<2^4000:=Ug this fs
   have e:((T.q.natAbs:Nat):Int)=T.q:=Uy (by omega)
   rw [<- e]
   exact_mod_cast this
theorem Jms (h:Tb.TabOk m n c rhs T) (bl:∀ i,i<m->T.b i<be) (fl:∀ j,j<n->T.f j<be):Names m n be T:=⟨h.bi,h.fi,h.ne,bl,fl⟩
theorem Jtj (h:Tb.TabOk m n c rhs T) (N:Names m n be T) {l k:Nat}(hl:l<m) (hk:k<n) (hp:0<T.e l k):Names m n be (T.ex l k):=by
 refine Jms (h.ex hl hk hp) (λ i hi=>?_) (λ j hj=>?_)
 . by_cases e:i=l
   . rw [e,Tb.Jcv h hl];exact N.fl k hk
   . rw [Tb.Jgp e];exact N.bl i hi
 . by_cases e:j=k
   . rw [e,Tb.Jcu h hk];exact N.bl l hl
   . rw [Tb.Ji7 e];exact N.fl j hj
theorem Jtk (ν:Nat):shN T m W n ν = T.share m n W ν:=by
 unfold shN Tb.Tab.share
 congr 1
end
section
variable {m n be:Nat}{c:Nat->Tb.Vec}{T:Tb.Tab}{W:List Nat}
noncomputable abbrev Jip:Tb.Vec:=λ _=>0
theorem Jyl {k:Nat}(hk:k<n) (hr:0<T.rise m W k) (hl:rf T n k m=none):Tb.Ray m n W T k:=⟨hk,hr,λ i hi=>Jld hl i hi⟩
end
noncomputable abbrev Y4 (k:Nat):V:=.int (k:Int)
noncomputable def Jmt (z:Siz) (q:Int) (fa ba:Addr) (rv:V):List (Str×V):=[("first_purse",.int z.fp),("first_room",.int z.fr),("behind_all",.int z.be),("free",.ref fa),("bound",.ref ba),("rows",rv),("divisor",.int q)]
structure TabH (C:Addr) (ex:List Addr) (p fa ba:Addr) (z:Siz) (T:Tb.Tab) (H:Hp):Prop where
 o:∃ (dx:Addr) (rv:V),H p=some (.ins C dx (Jmt z T.q fa ba rv))/\Rep (p::fa::ba::ex) H (.list (T.rows.map Y0)) rv
 f:H fa=some (.lst (T.fr.map Y4))
 b:H ba=some (.lst (T.bd.map Y4))
 pf:p≠fa
 pb:p≠ba
 fb:fa≠ba
 np:p∉ex
 nf:fa∉ex
 nb:ba∉ex
 al:Alc ex H
theorem Jj4 {ex:List Addr}{H:Hp}(ks:List Nat):Reps ex H (ks.map Jn) (ks.map Y4):=by
 have:=Jj0 (ex:=ex) (H:=H) (ks.map λ k:Nat=>(k:Int))
 rw [Q0,Q0] at this
 exact this
theorem TabH.rep {C p fa ba:Addr}{ex:List Addr}{z:Siz}{T:Tb.Tab}{H:Hp}(h:TabH C ex p fa ba z T H) (lf:T.fr.length<=sizeLine) (lb:T.bd.length<=sizeLine):Rep ex H (Zy C z T) (.ref p):=by
 obtain ⟨dx,rv,h1,h2⟩:=h.o
 refine .obj (fs:=Jmt z T.q fa ba rv) (ds:=[.int z.fp,.int z.fr,.int z.be,.list (T.fr.map Jn),.list (T.bd.map Jn),.list (T.rows.map Y0),.int T.q]) h1 h.np rfl ?_
 refine .cons (.int _) (.cons (.int _) (.cons (.int _) (.cons (.list h.f h.nf (by rw [Qb];exact lf) (Jj4 _)) (.cons (.list h.b h.nb (by rw [Qb];exact lb) (Jj4 _)) (.cons (Rep.sub (Rep.sub (Rep.sub h2))) (.cons (.int _) .nil))))))
theorem TabH.keep {C p fa ba:Addr}{ex:List Addr}{z:Siz}{T:Tb.Tab}{H H':Hp}(h:TabH C ex p fa ba z T H) (k:Kp [] H H'):TabH C ex p fa ba z T H':=by
 obtain ⟨dx,rv,h1,h2⟩:=h.o
 exact ⟨⟨dx,rv,k _ _ h1 (by simp),h2.keep (k.mono λ a ha=>by cases ha)⟩,k _ _ h.f (by simp),k _ _ h.b (by simp),h.pf,h.pb,h.fb,h.np,h.nf,h.nb,h.al.kp k⟩
def Jym (C:Addr):Sp:=λ vs H Q _=>∃ (ex:List Addr) (p fa ba:Addr) (z:Siz) (T:Tb.Tab) (m n l k:Nat),vs=[.ref p,Y4 l,Y4 k]/\TabH C ex p fa ba z T H/\Shape m n T/\l<m/\k<n/\∀ H',TabH C ex p fa ba z (T.ex l k) H'->Kp [p,fa,ba] H H'->Q .non H'
structure Kept (m n be:Nat) (c:Nat->Tb.Vec) (T0 T:Tb.Tab):Prop where
 ok:Tb.TabOk m n c Jip T
 nm:Names m n be T
 tot:∀ g,T.tot m n g=T0.tot m n g
structure Fit (nw m n:Nat) (c:Nat->Tb.Vec) (some:List Nat) (T:Tb.Tab):Prop where
 cols:Tb.Cols nw m c
 sm:∀ k∈some,k<nw
 len:some.length=n
 tot:∀ g:Nat->Int,T.tot m n g=Tb.Jq m (λ s=>g (nw+s))+Tb.Jq n (λ j=>g (some.getD j 0))
theorem Jew {sp:GSp}{C p fa ba:Addr}{ex:List Addr}{z:Siz}{T:Tb.Tab}{H:Hp}{as:List Vl}{vs:List V}{Q:VK}{E:XK}{P:J8j->Nat->Prop}(h:TabH C ex p fa ba z T H) (lf:T.fr.length<=sizeLine) (lb:T.bd.length<=sizeLine) (ra:Jav Src.no ex H as vs) (hs:sp (.d (Zy C z T)::as) 0 P) (k:∀ d n' v H',P d n'->Kp [] H H'->Rep ex H' d v->Q v H'):Jm sp (.ref p::vs) H Q E:=
 ⟨Src.no,ex,.d (Zy C z T)::as,0,P,⟨⟨_,rfl,h.rep lf lb⟩,ra⟩,λ a ha=>(by cases ha),h.al,trivial,hs,λ d n' v H' p s r=>k d n' v H' p s.1 r⟩
structure Turn (C:Addr) (ex:List Addr) (p fa ba:Addr) (z:Siz) (m n be:Nat) (c:Nat->Tb.Vec) (W:List Nat) (T0:Tb.Tab) (H0:Hp) (wv:V) (N:Nat) (T:Tb.Tab) (H:Hp):Prop where
 h:TabH C ex p fa ba z T H
 k:Kept m n be c T0 T
 kp:Kp [p,fa,ba] H0 H
 w:Rep (p::fa::ba::ex) H (.list (W.map Jn)) wv
 path:∃ st l k,Tb.Path m n c Jip W N st l k/\st N=T/\∀ t,t<=N->Names m n be (st t)
theorem J1m {s1 s2 s3 s4 r:TS}{D:Ends}{σ:L2.St}{H:Hp}(h:Ja5 s1 (Ja5 s2 (Ja5 s3 s4)) { D with nx:=r D } σ H):Ja5 s1 (Ja5 s2 (Ja5 s3 (Ja5 s4 r))) D σ H:=h
theorem Jyn {ts:TS}{gs:GS}{N:List Str}{as:List Vl}{vs:List V}{H:Hp}{D:Ends}{P:List Vl->Prop} [T:SV ts gs] (r:Jav Src.no [] H as vs) (hp:as.all Jhu=true) (g:gs { nx:=λ env _=>P env,rt:=λ _ _=>False,rtn:=λ _ _=>False } (Jgh N as) 0) (k:∀ ex env σ H' n,At ⟨Src.no,[],H,[]⟩ ex env σ H' n->P env->D.nx σ H'):ts D (start N vs) H:=
 T.sv (C:=⟨Src.no,[],H,[]⟩) (G:={ nx:=λ env _=>P env,rt:=λ _ _=>False,rtn:=λ _ _=>False }) ⟨λ A h=>k _ _ _ _ _ A h,λ _ h=>h.elim,λ _ h=>h.elim,λ _ h=>h.elim,λ _ h=>h.elim,λ _ _ h=>h.elim,λ _ h=>h.elim⟩ (Jhv r hp (λ a ha=>by cases ha) (λ a ha=>by cases ha) trivial) g
def Jwz (C p:Addr) (z:Siz) (T:Tb.Tab) (l k:Nat) (env:List Vl):Prop:=∃ ps:List (Addr×List J8j),env=[.pin (.ref p) (Zy C z T),.d (Jn l),.d (Jn k),.d (Y0 (T.row l)),.own2 none ps]/\ps.map (·.2)=(T.ex l k).rows.map (·.map .int)
theorem Jtl {a p fa ba:Addr}{xx:List Addr}(h1:a≠p) (h2:a≠fa) (h3:a≠ba) (h4:a∉xx):a∉p::fa::ba::xx:=λ z=>by
 rcases Qh.mp z with z | z
 . exact h1 z
 . rcases Qh.mp z with z | z
   . exact h2 z
   . rcases Qh.mp z with z | z
     . exact h3 z
     . exact h4 z
theorem Jmu (ks:List Nat) (i j:Nat):(ks.map Y4).set i (Y4 j)=(ks.set i j).map Y4:=by rw [X5]
theorem Jvn {K:Qc}{C p fa ba:Addr}{xx:List Addr}{z:Siz}{T:Tb.Tab}{m n l k nn:Nat}{H H':Hp}{σ:L2.St}{Q:VK}{ex:List Addr}{env:List Vl}{rt:VK}(Y:TableOk K C) (hT:TabH C xx p fa ba z T H) (sh:Shape m n T) (hl:l<m) (hk:k<n) (A:At ⟨Src.no,[],H,[]⟩ ex env σ H' nn) (hP:Jwz C p z T l k env) (q:∀ H',TabH C xx p fa ba z (T.ex l k) H'->Kp [p,fa,ba] H H'->Q .non H') :
 Ja5 (Jue K (Z8 0) (Z8 4) "rows") (Ja5 (Jue K (Z8 0) (tOp (Jlw K) (Z8 3) (Z8 2)) "divisor") (Jfd (Juf (Yp (tOp (Jlw K) (Jns K (Z8 0) "bound") (Z8 1)) (Yp (tOp (Jlw K) (Jns K (Z8 0) "free") (Z8 2)) Jbd))) (Jrj K 2 (gCons (Jnm (Jns K (Z8 0) "free") (Z8 2) Jhh) (gCons (Jnm (Jns K (Z8 0) "bound") (Z8 1) Jhh) gNil))))) { nx:=λ _ H'=>Q .non H',rt:=rt } σ H':=by
 obtain ⟨ps,rfl,hps⟩:=hP
 obtain ⟨e0,_⟩:=A.ev.sl 0 _ rfl
 obtain ⟨v1,e1,r1⟩:=A.ev.sl 1 _ rfl
 cases r1
 obtain ⟨v2,e2,r2⟩:=A.ev.sl 2 _ rfl
 cases r2
 obtain ⟨v3,e3,r3⟩:=A.ev.sl 3 _ rfl
 obtain ⟨a,e4,o4⟩:=A.ev.sl 4 _ rfl
 have s0:=Jt e0
 have s1:=Jt e1
 have s2:=Jt e2
 have s3:=Jt e3
 have s4:=Jt e4
 have kp:=A.kp
 have kp:Kp [] H H':=kp
 obtain ⟨dx,rv,o1,o2⟩:=hT.o
 have p1:=kp _ _ o1 (by simp)
 have f1:=kp _ _ hT.f (by simp)
 have b1:=kp _ _ hT.b (by simp)
 have oi:Jv [Vl.pin (.ref p) (Zy C z T),.d (Jn l),.d (Jn k),.d (Y0 (T.row l)),.own2 none ps] σ 4=a::ps.map (·.1):=by
  unfold Jv;rw [e4];rfl
 have new:∀ b,b∈a::ps.map (·.1)->H b=none:=λ b hb=>A.new 4 b (by rw [oi];exact hb)
 have ne:∀ b,b∈a::ps.map (·.1)->b≠p/\b≠fa/\b≠ba:=λ b hb=>by
  have h:=new b hb
  refine ⟨λ z=>?_,λ z=>?_,λ z=>?_⟩
  . rw [z,o1] at h;cases h
  . rw [z,hT.f] at h;cases h
  . rw [z,hT.b] at h;cases h
 cases r3 with
 | @list ra rvs _ re rn rz rr=>
 have rp:ra≠p:=λ z=>by rw [z,p1] at re;cases re
 have rin:=Reps.ints_inv rr
 subst rin
 have hkr:k<(T.row l).length:=by rw [sh.lw l hl];omega
 have el:atI ((T.row l).map V.int) ((k:Nat):Int)=some (.int (T.e l k)):=by
  refine Yc (by omega) ?_
  unfold Tb.Tab.e
  rw [Qy,Qk,Qg hkr,Qd,Qg hkr]
  rfl
 have lb:l<T.bd.length:=by rw [sh.lb];exact hl
 have lf:k<T.fr.length:=by rw [sh.lf];exact hk
 have eb:atI (T.bd.map Y4) ((l:Nat):Int)=some (Y4 (T.b l)):=by
  refine Yc (by omega) ?_
  unfold Tb.Tab.b
  rw [Qy,Qk,Qg lb,Qd,Qg lb]
  rfl
 have ef:atI (T.fr.map Y4) ((k:Nat):Int)=some (Y4 (T.f k)):=by
  refine Yc (by omega) ?_
  unfold Tb.Tab.f
  rw [Qy,Qk,Qg lf,Qd,Qg lf]
  rfl
 have one:(2:Nat)<=sizeLine:=by rw [J8p];decide
 refine ⟨_,s4,_,s0,p,C,dx,_,rfl,p1,Y.c,Y.n6,Q1 rfl,?_⟩
 have pu:L2.putF "rows" (V.ref a) (Jmt z T.q fa ba rv)=Jmt z T.q fa ba (.ref a):=rfl
 rw [pu]
 refine ⟨_,s3,_,s2,ra,_,_,_,rfl,rfl,SqL.of (by rw [Jh rp];exact re),el,_,s0,p,C,dx,_,rfl,Jj,Y.c,Y.n7,Q1 rfl,?_⟩
 have pu2:L2.putF "divisor" (V.int (T.e l k)) (Jmt z T.q fa ba (.ref a))=Jmt z (T.e l k) fa ba (.ref a):=rfl
 rw [pu2,Jgv]
 have fp:fa≠p:=Qj hT.pf
 have bp:ba≠p:=Qj hT.pb
 refine ⟨_,s0,p,C,dx,_,_,rfl,Jj,Y.c,Y.n5,rfl,_,s1,ba,_,_,_,rfl,rfl,SqL.of (by rw [Jh bp];exact b1),eb,_,s0,p,C,dx,_,_,rfl,Jj,Y.c,Y.n4,rfl,_,s2,fa,_,_,_,rfl,rfl,SqL.of (by rw [Jh fp];exact f1),ef,one,λ pt hpt=>?_⟩
 have ptp:pt≠p:=λ z=>by rw [z,Jj] at hpt;cases hpt
 have hpt':H' pt=none:=by rw [Jh ptp] at hpt;exact hpt
 have ptf:pt≠fa:=λ z=>by rw [z,f1] at hpt';cases hpt'
 have ptb:pt≠ba:=λ z=>by rw [z,b1] at hpt';cases hpt'
 refine ⟨pt,_,rfl,SqT.of Jj,rfl,_,_,rfl,_,s0,p,C,dx,_,_,rfl,by rw [Jh (Qj ptp),Jj],Y.c,Y.n4,rfl,_,s2,fa,_,_,k,rfl,rfl,by rw [Jh (Qj ptf),Jh fp];exact f1,V9 (by omega) (by rw [Qb];omega),?_⟩
 refine ⟨_,_,rfl,_,s0,p,C,dx,_,_,rfl,by rw [Jh hT.pf,Jh (Qj ptp),Jj],Y.c,Y.n5,rfl,_,s1,ba,_,_,l,rfl,rfl,by rw [Jh (Qj hT.fb),Jh (Qj ptb),Jh bp];exact b1,V9 (by omega) (by rw [Qb];omega),rfl,?_⟩
 rw [Jmu,Jmu]
 have same:∀ b o,H' b=some o->b≠p->b≠fa->b≠ba->upd (upd (upd (upd H' p (.ins C dx (Jmt z (T.e l k) fa ba (.ref a)))) pt (.tup [Y4 (T.b l),Y4 (T.f k)])) fa (.lst ((T.fr.set k (T.b l)).map Y4))) ba (.lst ((T.bd.set l (T.f k)).map Y4)) b=some o:=λ b o e n1 n2 n3=>by
  rw [Jh n3,Jh n2,Jh (Jx e hpt'),Jh n1];exact e
 refine q _ ⟨⟨dx,.ref a,?_,?_⟩,?_,?_,hT.pf,hT.pb,hT.fb,hT.np,hT.nf,hT.nb,λ b hb=>?_⟩ λ b o e nb=>?_
 . rw [Jh hT.pb,Jh hT.pf,Jh (Qj ptp),Jj];rfl
 . have na:=ne a Qn
   refine .list (same a _ o4.h na.1 na.2.1 na.2.2) (Jtl na.1 na.2.1 na.2.2 λ z=>hT.al a z (new a Qn)) (by unfold Wg;rw [Qb,J8p];have:=o4.z;omega) ?_
   have go:∀ (qs:List (Addr×List J8j)) (rs:List (List Int)),(∀ x∈qs,x∈ps)->qs.map (·.2)=rs.map (·.map .int)->Reps (p::fa::ba::xx) (upd (upd (upd (upd H' p (.ins C dx (Jmt z (T.e l k) fa ba (.ref a)))) pt (.tup [Y4 (T.b l),Y4 (T.f k)])) fa (.lst ((T.fr.set k (T.b l)).map Y4))) ba (.lst ((T.bd.set l (T.f k)).map Y4))) (rs.map Y0) (Wg qs):=by
    intro qs
    induction qs with
    | nil=>
     intro rs _ e
     cases rs with
     | nil=>exact .nil
     | cons r rs=>cases e
    | cons x qs ih=>
     intro rs hm e
     cases rs with
     | nil=>cases e
     | cons r rs=>
      rw [Xa,Xa] at e
      injection e with e1 e2
      have hx:=hm x Qn
      obtain ⟨vs,g1,g2,g3⟩:=(o4.i x hx).h
      have nx:=ne x.1 (Ql _ (Qo.mpr ⟨x,hx,rfl⟩))
      rw [e1] at g3
      have:=Reps.ints_inv g3
      subst this
      exact .cons (.list (same _ _ g1 nx.1 nx.2.1 nx.2.2) (Jtl nx.1 nx.2.1 nx.2.2 λ z=>hT.al x.1 z (new x.1 (Ql _ (Qo.mpr ⟨x,hx,rfl⟩)))) g2 (Reps.ints r)) (ih rs (λ y hy=>hm y (Ql _ hy)) e2)
   exact go ps _ (λ _ h=>h) hps
 . rw [Jh hT.fb,Jj];rfl
 . rw [Jj];rfl
 . cases e:H b with
   | none=>exact absurd e (hT.al b hb)
   | some o=>
    rw [same b o (kp b o e (by simp)) (λ z=>hT.np (by rw [<- z];exact hb)) (λ z=>hT.nf (by rw [<- z];exact hb)) (λ z=>hT.nb (by rw [<- z];exact hb))]
    exact Xw _
 . simp only [Qh,X4,or_false,not_or] at nb
   exact same b o (kp b o e (by simp)) nb.1 nb.2.1 nb.2.2
end My
namespace L2
theorem Jja {M:Model}{A:J8o}{E:J8i->J8k->Prop}{s:J8k}{a b:J8i}{Q:J8i->J8k->Prop}(ha:s.TypeIs a "list") (hb:s.TypeIs b "list") (hc:J8l M A (call (.builtin "list.__iadd__") [a,b]) Q E s):J8l M A (inplaceOp .Add a b) Q E s:=by
 have hl:typeLookup (.type "list") (dunderI "add")=pure (some (.builtin "list.__iadd__")):=J7q.lookup
 unfold inplaceOp
 refine wpAny_holding ?_
 have hfi:fillsInplaceSlot (.type "list") "add" (Operator.Add == .Add)=pure false:=by
  unfold fillsInplaceSlot
  show (typeLookup (.type "list") (dunderI "add") >>= λ fi=>pure (fi.isSome && !isSeqSlot fi))=pure false
  rw [hl];rfl
 refine wpAny_bind (wpAny_typeOf ha (wpAny_bind (wpAny_of_eq hfi ?_)))
 show J8l M A (if false=true then _ else _) Q E s
 rw [if_neg Q7]
 refine wpAny_bind (wpAny_binaryOp1_none (nm:="add") ha hb PySem.noFill_list_add ?_)
 refine wpAny_bind (wpAny_of_eq (J40 hl (by decide +kernel)) ?_)
 exact wpAny_bind (wpAny_rule hc)
def ipL:TIp:=λ x y H Q=>∃ l b xs zs,x = .ref l/\y = .ref b/\H l=some (.lst xs)/\H b=some (.lst zs)/\xs.length+zs.length<=sizeLine/\Q (.ref l) (upd H l (.lst (xs++zs)))
theorem Jvo {X:Cx}:PIp X .Add ipL:=by
 intro pins s σ H x y v u Q I rx ru h
 obtain ⟨l,b,xs,zs,rfl,rfl,hH,hB,hz,q⟩:=h
 cases rx
 cases ru
 obtain ⟨z,its,n,r,hl,e⟩:=I.lstM hH
 obtain ⟨z2,its2,n2,r2,hl2,e2⟩:=I.lstM hB
 have hsz:its.toArray.size+its2.toArray.size<=sizeLine:=by rw [Q3,Q3];omega
 have hlong:¬ (!its.toArray.isEmpty&&J3s (its.toArray.size+its2.toArray.size))=true:=by
  rw [Jlx hsz,Bool.and_false]
  exact Q7
 refine Jja (a:=.ref l) (b:=.ref b) (s:=s) ⟨_,e,rfl⟩ ⟨_,e2,rfl⟩ ?_
 refine call_meets J7q ⟨_,e,rfl⟩ F.entry_list_iadd (F.args_list_iadd_2 _ _)
  (AutoSeq1.list___iadd___list_list_0 l its.toArray n b its2.toArray n2 hlong (by rw [Q3];omega) (by omega)) ⟨e,e2,?_⟩
 refine ⟨.ref l,_,I.lset (its':=its++its2) hH e (by simp) (r.append r2) ?_,rfl,q⟩
 rw [Xp]
 omega
end L2
namespace My
open L2
class N2V (te:TE) (g:outParam GN2):Prop where
 n2:∀ {S:Src} {ex:List Addr} {env:List Vl} {σ:L2.St} {H:Hp} {n:Nat} {Q:VK} {P:List (List J8j)->Nat->Prop},Ev S ex env σ H n->g env n P ->
  (∀ (ps:List (Addr×List J8j)) (n':Nat) (a:Addr) (H':Hp),P (ps.map (·.2)) n'->Y6 S n' H H'->H a=none->(∀ p∈ps,H p.1=none)->Own2 S (a::ps.map (·.1)++ex) H' none ps a->Q (.ref a) H')->te σ H Q
abbrev Jvp (gi:GN) (k:Nat) (idx ks:List Nat) (bd:GG) (gn:GN):GN2:=λ env n Q=>gi env n λ items n1=>(ks.all (λ i=>decide (i<k))=true/\items.length<=1000000)/\Jkw (Jkx bd gn (Jdx k idx env)) items n1 Q
instance n2v_comp {wi:TI}{gi:GN}{k:Nat}{idx ks:List Nat}{g:TG}{bd:GG}{te:TE}{gn:GN} [I:IV wi gi] [G:GV g bd ks] [A:NV te gn]  :N2V (Jbe wi k idx g Jgx te) (Jvp gi k idx ks bd gn):=⟨λ {S ex env σ H n Q P} E h kk=>by
 refine I.iv E h λ items n1 J hd H1 hc s1 hrd hit l hl=>?_
 obtain ⟨⟨hk,hz⟩,hc⟩:=hc
 have hs:sizeLine=16777216:=J8p
 have E1:=Jhr (E.step s1) k idx
 have lch:l∉S.ch:=λ z=>S.dom s1.2 l z hl
 have hkk:∀ i∈ks,i<k:=λ i hi=>of_decide_eq_true (X7.mp hk i hi)
 refine ⟨λ i m σ' H2=>i<=items.length/\m=items.length-i/\∃ (n2:Nat) (ps:List (Addr×List J8j)),Jkw (Jkx bd gn (Jdx k idx env)) (items.drop i) n2 (λ ys n'=>P (ps.map (·.2)++ys) n')/\Kp (l::S.ch) H1 H2/\H2 l=some (.lst (Wg ps))/\ps.length<=i/\(∀ p∈ps,H1 p.1=none)/\(l::ps.map (·.1)).Nodup/\(∀ p∈ps,In2 S (l::ps.map (·.1)++ex) H2 p)/\S.inv n2 H2/\(∀ j:Nat,k<=j->σ'[j]? = (Yv k idx σ)[j]?)/\σ'.length=(Yv k idx σ).length,
  ⟨items.length,Xu _,rfl,n1,[],by simpa using hc,Kp.new hl _,Jj,Qm _,(λ p hp=>by cases hp),by simp,(λ p hp=>by cases hp),S.keep s1.2 λ b _ o' e=>Kp.new (ex:=[]) hl _ _ _ e (by simp),λ _ _=>rfl,rfl⟩,?_⟩
 rintro i m σ' H2 ⟨hi,rfl,n2,ps,hcm,kp,h2l,hvl,hno,hnd,hin,iv2,hsl,hln⟩
 have hL:∀ b∈l::ps.map (·.1),H1 b=none:=λ b hb=>by
  rcases Qh.mp hb with rfl | hb
  . exact hl
  . obtain ⟨p,hp,rfl⟩:=Qo.mp hb
    exact hno p hp
 have hL2:∀ b∈l::ps.map (·.1),H2 b≠none:=λ b hb=>by
  rcases Qh.mp hb with rfl | hb
  . rw [h2l];exact Xw _
  . obtain ⟨p,hp,rfl⟩:=Qo.mp hb
    obtain ⟨vs,h1,_⟩:=(hin p hp).h
    rw [h1];exact Xw _
 have E2:Ev S (l::ps.map (·.1)++ex) (Jdx k idx env) σ' H2 n2:=Jme E1 hL (kp.mono λ b hb=>(Qh.mp hb).elim (λ e=>by rw [e];exact Xn _ Qn) λ h=>Xf _ h) hL2 iv2 Jhs hsl hln
 have kpx:Kp (l::ps.map (·.1)++ex) H1 H2:=kp.mono λ b hb=>(Qh.mp hb).elim (λ e=>by rw [e];exact Xn _ Qn) λ h=>Xf _ (E.ch b h)
 have IT:=hit (l::ps.map (·.1)++ex) H2 E2.al λ h hh=>(Rep.adds hL (hrd h hh)).keep kpx
 rcases Uq i items.length with hlt | hge
 . refine .inr ⟨(IT.2 i items[i] (Qg hlt)).1,λ x H3 y=>?_⟩
   obtain ⟨kp3,rx⟩:=(IT.2 i items[i] (Qg hlt)).2 x H3 y
   have rx':=rx
   rw [J5h hlt] at hcm
   have st3:Y6 S n2 H2 H3:=Y6.new E2.inv kp3
   have E3:=E2.step st3
   refine G.gv E3 rx' hcm λ env' σ2 ht E4 _ hs2' hl2=>tv_noTest.tv E4 (P:=λ c n'=>c=true/\n'=n2) ⟨rfl,rfl⟩ λ c n4 H4 h4 s4=>?_
   obtain ⟨rfl,rfl⟩:=h4
   have hs2:∀ j:Nat,k<=j->σ2[j]? = (Yv k idx σ)[j]?:=λ j hj=>by
    rw [hs2' j λ z=>by have:=hkk j z;omega];exact hsl j hj
   refine A.nv (E4.step s4) ht λ ds n5 a vs H5 h5 s5 ha hla hzv r5=>?_
   have s24:=st3.trans s4
   have s25:=s24.trans s5
   have k5:Kp S.ch H2 H5:=s25.1
   have h5l:H5 l=some (.lst (Wg ps)):=k5 _ _ h2l lch
   have an:a∉l::ps.map (·.1)++ex:=λ z=>(E4.step s4).al a z ha
   have ac:a∉S.ch:=λ z=>an (E4.ch a z)
   have ha1:H1 a=none:=by
    cases e:H1 a with
    | none=>rfl
    | some u=>
     have e2:=kp a u e λ z=>(Qh.mp z).elim (λ q=>an (by rw [q];exact Xn _ Qn)) ac
     rw [s24.1 a u e2 ac] at ha;cases ha
   have al:a≠l:=λ e=>an (by rw [e];exact Xn _ Qn)
   have msub:∀ b∈l::(ps++[(a,ds)]).map (·.1)++ex,b∈a::(l::ps.map (·.1)++ex):=λ b hb=>by
    simp only [Xg,Xa,J2c,J2j,Qh,Xk,X4,or_false] at hb ⊢
    rcases hb with h | (h | h) | h
    . exact .inr (.inl h)
    . exact .inr (.inr (.inl h))
    . exact .inl h
    . exact .inr (.inr (.inr h))
   have mup:∀ b∈l::ps.map (·.1)++ex,b∈l::(ps++[(a,ds)]).map (·.1)++ex:=λ b hb=>by
    simp only [Xg,Xa,J2c,J2j,Qh,Xk,X4,or_false] at hb ⊢
    rcases hb with h | h | h
    . exact .inl h
    . exact .inr (.inl (.inl h))
    . exact .inr (.inr h)
   have lin:l∈l::(ps++[(a,ds)]).map (·.1)++ex:=Xn _ Qn
   refine ⟨Wg ps,h5l,by unfold Wg;rw [Qb];omega,_,(?_:items.length-(i+1)<_),hlt,rfl,n5,ps++[(a,ds)],?_,?_,?_,?_,?_,?_,?_,?_,hs2,hl2.trans hln⟩
   . omega
   . simpa using h5
   . exact (kp.trans (k5.mono λ b hb=>Ql _ hb)).trans (Kp.at Qn _)
   . rw [Jj];unfold Wg;rw [Xg];rfl
   . rw [Xp,J1y];omega
   . intro p hp
     rcases Xk.mp hp with hp | hp
     . exact hno p hp
     . rw [Qu.mp hp];exact ha1
   . rw [Xg,<- J2j]
     refine J5k.mpr ⟨hnd,by simp,?_⟩
     intro b hb c hc e
     have e':b=a:=e.trans (Qu.mp hc)
     exact an (Xn _ (e'▸hb))
   . intro p hp
     rcases Xk.mp hp with hp | hp
     . have w:=hin p hp
       obtain ⟨us,g1,g2,g3⟩:=w.h
       have pl:p.1≠l:=λ e=>(Xz.mp hnd).1 (by rw [<- e];exact Qo.mpr ⟨p,hp,rfl⟩)
       refine ⟨mup p.1 w.m,w.c,us,by rw [Jh pl];exact k5 _ _ g1 w.c,g2,?_⟩
       have q4:Reps (l::ps.map (·.1)++ex) H4 p.2 us:=g3.keep (s24.1.mono E2.ch)
       have q5:Reps (a::(l::ps.map (·.1)++ex)) H5 p.2 us:=(Reps.add ha q4).keep (s5.1.mono λ b hb=>Ql _ (E2.ch b hb))
       exact (Reps.mono msub q5).keep (Kp.at lin _)
     . rw [Qu.mp hp]
       refine ⟨?_,ac,vs,by rw [Jh al];exact hla,hzv,(Reps.mono msub r5).keep (Kp.at lin _)⟩
       simp
   . exact S.keep s25.2 λ b hb o e=>by rw [Jh (λ z=>lch (by rw [<- z];exact hb))];exact e
 . have e:i=items.length:=by omega
   subst e
   rw [J5i] at hcm
   have hcm':P (ps.map (·.2)) n2:=by simpa [Jkw] using hcm
   refine .inl ⟨IT.1,kk ps n2 l H2 hcm' ⟨λ b o e nb=>kp b o (s1.1 b o e nb) λ z=>(Qh.mp z).elim (λ e2=>by rw [e2,s1.free hl] at e;cases e) nb,iv2⟩ (s1.free hl) (λ p hp=>s1.free (hno p hp)) ⟨h2l,by omega,(λ _ h=>by cases h),hnd,Xn _ Qn,lch,hin⟩⟩⟩
def Jiq (i:Nat) (wi:TI) (k:Nat) (idx:List Nat) (g:TG) (tt:TT) (te:TE):TS:=Bo i wi k idx g tt te
theorem Jtm {X:Cx}{st:Stmt}{i:Nat}{wi:TI}{k:Nat}{idx:List Nat}{g:TG}{tt:TT}{te:TE}(h:PS X st (Bo i wi k idx g tt te)):PS X st (Jiq i wi k idx g tt te):=h
instance sv_set2V {i:Nat}{wi:TI}{k:Nat}{idx:List Nat}{g:TG}{tt:TT}{te:TE}{gn:GN2} [E:N2V (Jbe wi k idx g tt te) gn]:SV (Jiq i wi k idx g tt te) (Jwq i gn):=⟨λ {C G D} O {ex env σ H n} A h=>
 show Jbe wi k idx g tt te σ H (λ v H2=>D.nx (σ.set i (some v)) H2) from E.n2 A.ev h λ ps n1 a H1 h1 s1 ha hp q=>O.nx (A.own2 s1 ha hp q) (h1 ps rfl)⟩
theorem Jmv {α:Type}{turn:J8j->Nat->(List J8j->Nat->Prop)->Prop}{n:Nat}(f:α->List J8j) {e:α->J8j}:∀ (l:List α) {Q:List (List J8j)->Nat->Prop},(∀ i∈l,∀ K:List J8j->Nat->Prop,K (f i) n->turn (e i) n K)->Q (l.map f) n->Jkw turn (l.map e) n Q
 | [],_,_,q=>q
 | i::l,Q,h,q=>h i Qn _ (Jmv f l (Q:=λ ys n2=>Q (f i::ys) n2) (λ j hj=>h j (Ql _ hj)) q)
theorem Jex {n:Nat}{f:Nat->Int}(h:∀ i,i<n->0<=f i):0<=Tb.Jq n f:=by
 induction n with
 | zero=>exact Uk _
 | succ n ih=>
  have:=ih λ i hi=>h i (by omega)
  have:=h n (by omega)
  show 0<=Tb.Jq n f+f n
  omega
theorem Jey {n a:Nat}{f:Nat->Int}(ha:a<n) (h:∀ i,i<n->0<=f i):f a<=Tb.Jq n f:=by
 induction n with
 | zero=>omega
 | succ n ih=>
  have h1:=h n (by omega)
  show f a<=Tb.Jq n f+f n
  by_cases e:a=n
  . subst e
    have:=Jex (f:=f) λ i (hi:i<a)=>h i (by omega)
    omega
  . have:=ih (by omega) λ i hi=>h i (by omega)
    omega
section
variable {nw m n:Nat}{c:Nat->Tb.Vec}{rhs:Tb.Vec}{some W:List Nat}{T T0:Tb.Tab}
noncomputable def one (ν:Nat):Nat->Int:=λ μ=>if μ = ν then 1 else 0
theorem Jcz (ν μ:Nat):0<=one ν μ:=by unfold one;split<;>decide
theorem Jyo {ν:Nat}:Tb.inN m n T ν↔0<T.tot m n (one ν):=by
 have b:=Jex (n:=m) (f:=λ i=>one ν (T.b i)) λ i _=>Jcz _ _
 have f:=Jex (n:=n) (f:=λ j=>one ν (T.f j)) λ i _=>Jcz _ _
 unfold Tb.Tab.tot
 constructor
 . rintro (⟨i,hi,e⟩ | ⟨j,hj,e⟩)
   . have:=Jey (f:=λ i=>one ν (T.b i)) hi λ i _=>Jcz _ _
     have e1:one ν (T.b i)=1:=if_pos e
     simp only [e1] at this
     omega
   . have:=Jey (f:=λ j=>one ν (T.f j)) hj λ i _=>Jcz _ _
     have e1:one ν (T.f j)=1:=if_pos e
     simp only [e1] at this
     omega
 . intro h
   have pos:∀ μ,0<one ν μ->μ = ν:=λ μ h=>by
    unfold one at h
    split at h
    . assumption
    . exact absurd h (by decide)
   by_cases c:0<Tb.Jq m (λ i=>one ν (T.b i))
   . obtain ⟨i,hi,hp⟩:=Tb.Vk c
     exact .inl ⟨i,hi,pos _ hp⟩
   . obtain ⟨j,hj,hp⟩:=Tb.Vk (n:=n) (f:=λ j=>one ν (T.f j)) (by omega)
     exact .inr ⟨j,hj,pos _ hp⟩
theorem Fit.names (F:Fit nw m n c some T0) (tot:∀ g,T.tot m n g=T0.tot m n g) (ν:Nat):Tb.inN m n T ν↔((∃ s,s<m/\ν = nw+s)\/ν∈some):=by
 rw [Jyo,tot,F.tot]
 have b:=Jex (n:=m) (f:=λ s=>one ν (nw+s)) λ i _=>Jcz _ _
 have f:=Jex (n:=n) (f:=λ j=>one ν (some.getD j 0)) λ i _=>Jcz _ _
 have pos:∀ μ,0<one ν μ->μ = ν:=λ μ h=>by
  unfold one at h
  split at h
  . assumption
  . exact absurd h (by decide)
 constructor
 . intro h
   by_cases c:0<Tb.Jq m (λ s=>one ν (nw+s))
   . obtain ⟨i,hi,hp⟩:=Tb.Vk c
     exact .inl ⟨i,hi,(pos _ hp).symm⟩
   . obtain ⟨j,hj,hp⟩:=Tb.Vk (n:=n) (f:=λ j=>one ν (some.getD j 0)) (by omega)
     have e:=pos _ hp
     right
     have hl:j<some.length:=by rw [F.len];exact hj
     rw [Qd,Qg hl] at e
     rw [<- e]
     exact Q8 _
 . rintro (⟨s,hs,e⟩ | e)
   . have:=Jey (f:=λ s=>one ν (nw+s)) hs λ i _=>Jcz _ _
     have e1:one ν (nw+s)=1:=if_pos e.symm
     simp only [e1] at this
     omega
   . obtain ⟨j,hj⟩:=Uj.mp e
     have hl:=(Qs.mp hj).1
     have:=Jey (n:=n) (a:=j) (f:=λ j=>one ν (some.getD j 0)) (by rw [<- F.len];exact hl) λ i _=>Jcz _ _
     have e1:one ν (some.getD j 0)=1:=by
      rw [Qd,hj]
      exact if_pos rfl
     simp only [e1] at this
     omega
theorem Wr {n:Nat}{f:Nat->Int}(h:∀ i,i<n->f i=0):Tb.Jq n f=0:=by rw [Tb.Jk (g:=λ _=>0) h,Tb.Wd]
theorem Jfu {j:Nat}(h:j<some.length):some.getD j 0∈some:=by rw [Qd,Qg h];exact Q8 _
theorem Jp4 (F:Fit nw m n c some T0) (tot:∀ g,T.tot m n g=T0.tot m n g) (h:Tb.TabOk m n c rhs T) {k:Nat}(r:Tb.Ray m n W T k):∃ j∈some,0<T.dir m k j:=by
 refine J2r λ no=>?_
 have z:∀ j∈some,T.dir m k j=0:=λ j hj=>by
  have:=Tb.Jta h r j
  rcases J14 0 (T.dir m k j) with q | q
  . exact absurd ⟨j,hj,q⟩ no
  . omega
 have zm:∀ j,j<n->some.getD j 0∈some:=λ j hj=>Jfu (by rw [F.len];exact hj)
 have zu:∀ s,s<m->T.dir m k (nw+s)=0:=λ s hs=>by
  have e:=Tb.Jg2 h r.hk s hs
  rw [tot,F.tot,Wr (n:=n) (λ j hj=>by rw [z _ (zm j hj),Xs]),Tb.Yd (a:=s) hs (λ i hi hne=>?_)] at e
  . rw [F.cols.un s hs] at e
    have:Tb.Z6 s s=1:=if_pos rfl
    rw [this] at e
    omega
  . rw [F.cols.un i hi]
    have:Tb.Z6 i s=0:=if_neg (Qj hne)
    rw [this,Xl]
 have w:=Tb.Jd0 (W:=W) h r.hk
 have rp:=r.rise
 rw [<- w,tot,F.tot,Wr (n:=m) (λ s hs=>by rw [zu s hs];unfold Tb.ind;split<;>rfl),Wr (n:=n) (λ j hj=>by rw [z _ (zm j hj)];unfold Tb.ind;split<;>rfl)] at rp
 exact absurd rp (by decide)
theorem Jir (sh:Shape m n T) {i j:Nat}(hi:i<m) (hj:j<=n):(T.e i j).natAbs<2^4000:=by
 have h2:j<(T.row i).length:=by rw [sh.lw i hi];omega
 have h3:i<T.rows.length:=by rw [sh.lr];exact hi
 have hr:T.row i∈T.rows:=by unfold Tb.Tab.row;rw [Qd,Qg h3];exact Q8 _
 refine sh.small _ hr (T.e i j) ?_
 unfold Tb.Tab.e
 rw [Qd,Qg h2]
 exact Q8 _
theorem Jj5 (sh:Shape m n T) (h:Tb.TabOk m n c rhs T) {k ν:Nat}(hk:k<n) (i:Tb.inN m n T ν):(T.dir m k ν).natAbs<2^4000:=by
 rcases i with ⟨i,hi,rfl⟩ | ⟨j,hj,rfl⟩
 . rw [Tb.Js4 h hk hi,J7r]
   exact Jir sh hi (by omega)
 . by_cases e:j=k
   . subst e
     rw [Tb.Jpu h hk]
     have q0:=sh.q0
     have q1:=sh.q1
     have:((T.q.natAbs:Nat):Int)<((2^4000:Nat):Int):=by
      rw [Uy (by omega)]
      exact_mod_cast q1
     exact_mod_cast this
   . rw [Tb.Js5 h hk hj e]
     exact J3j _
end
theorem Jtn {ns:List Int}{x:Int}(hx:x∈ns) (h:x≠0) (hb:x.natAbs<2^9000):((Zi ns:Nat):Int)<2^9000:=by
 have d:=J7m.mp (Jk9 x hx)
 have:=Nat.le_of_dvd (by omega) d
 have h2:Zi ns<2^9000:=by omega
 exact_mod_cast h2
end My
namespace L2
def DefI2 (K:Qc) (mg:Str->Option J8i) (x:Str) (C:Addr) (qual:Str) (st:Stmt) (ps:List Str):Prop:=∃ f fd,mg x=some (.ref C)/\Mk K C f/\FunD K "__init__" qual st f fd/\Bm K fd ps [.none]/\Bm K fd ps []
def Jmw (P:J8n) (w:J8m) (K:Qc) (mg:Str->Option J8i) (base:Heap) (x:Str) (C:Addr) (k:Nat) (ps:List Str) (sp:Sp):Prop:=
 ∃ f fd,mg x=some (.ref C)/\Mk K C f/\Bm K fd ps [.none]/\Bm K fd ps []/\FnOk P w K mg base CX0 k f fd ps sp
section
variable {P:J8n}{w:J8m}{K:Qc}{mg:Str->Option J8i}{base:Heap}{C:Addr}{x m qual:Str}{st:Stmt}{ps:List Str}{k:Nat}{sp:Sp}
theorem DefI2.cal (d:DefI2 K mg x C qual st ps) (h:∀ f fd,FunD K "__init__" qual st f fd->FnOk P w K mg base CX0 k f fd ps sp):Jmw P w K mg base x C k ps sp:=by
 obtain ⟨f,fd,hg,hm,F,b1,b2⟩:=d
 exact ⟨f,fd,hg,hm,b1,b2,h f fd F⟩
theorem defI2_mk {h:Heap}{f T:Addr}{oc oc':J8i}{od an od':Option Addr}{osl osl':Array (Option J8i)}{kV doc pm cdv ct:J8i}{nn:Nat}(X:K.In h) (G:h.Ns J8v mg) (aC:J46 K J8v x=some (some (.ref C)))
 (mk:J4p K C=true) (kc:Uf K (.ref C)=true)
 (a:Ue K (.ref C) "__init__" = some (some (.ref f))) (i:J2y K (.ref f)=true) (l:K.lookup f=some ⟨oc,od,.func (X0 "__init__" qual (Wk st) (Zz st) (Je st) (.ref T) kV doc pm an cdv ct),osl⟩) (c:J1q K cdv qual=true) (kp:Uf K (.ref f)=true)
 (lT:K.lookup T=some ⟨oc',od',.seq #[.none] nn,osl'⟩)
 (hb:∀ (T:Addr) (d kV doc pm:J8i) (an:Option Addr) (cdv ct:J8i) (us:List J8i),us.length=ps.length-1->∃ q,J9b (X0 "__init__" qual (Wk st) (Zz st) (Je st) (.ref T) kV doc pm an cdv ct) ⟨us,[]⟩=J87 (.ref T) >>= q/\q (some #[d])=pure (ps.zip (us++[d])))
 (hb2:∀ (T:Addr) (d kV doc pm:J8i) (an:Option Addr) (cdv ct:J8i) (us:List J8i),us.length=ps.length->∃ q,J9b (X0 "__init__" qual (Wk st) (Zz st) (Je st) (.ref T) kV doc pm an cdv ct) ⟨us,[]⟩=J87 (.ref T) >>= q/\q (some #[d])=pure (ps.zip us)):DefI2 K mg x C qual st ps:=by
 refine ⟨f,_,J47 X G aC,⟨mk,a,i,kc⟩,⟨⟨oc,od,.ref T,kV,doc,pm,an,cdv,ct,osl,rfl,l,c⟩,kp⟩,λ s us KX hl=>?_,λ s us KX hl=>?_⟩
 . obtain ⟨q,h1,h2⟩:=hb T .none kV doc pm an cdv ct us (by rw [Xp,J1y] at hl;omega)
   exact J7s rfl (KX _ _ lT) rfl h1 h2
 . obtain ⟨q,h1,h2⟩:=hb2 T .none kV doc pm an cdv ct us (by rw [U3] at hl;exact hl)
   rw [U3]
   exact J7s rfl (KX _ _ lT) rfl h1 h2
end
section
variable {X:Cx}{x:Str}{C:Addr}{e:Expr}{es:List Expr}{p pos:Pos}{t:TA}{k:Nat}{ps:List Str}{sp:Sp}
theorem J0l (c:Jmw X.prog X.w X.K X.mg X.base x C k ps sp) (hr:Room (k+1) X.A) (hg:Gl X x) (ha:PA X (e::es) t) (hdb:(x==("__debug__":Str))=false:=by decide)
 (he:starEach (e::es) X.env=(false,eval e X.env)::starEach es X.env:=by rfl) (hpl:(backTo pos (starEach es X.env)).any (·.1)=false:=by rfl):PE X (.Call (.Name x p) (e::es) [] pos) (Jv6 C sp [] E0 t):=by
 obtain ⟨f,fd,hm,M,_,b,F⟩:=c
 exact Jui M F hr hg hm b .nil Jpf ha hdb he hpl
end
section
variable {X:Cx}{tg e:Expr}{te:TE}{K':Qc}
theorem Jmx (hK:X.K=K') (he:PE X e te):PI X tg e (Jo6 K' te):=hK▸Bj he
end
noncomputable def Jez (i:Int) (n:Nat):List V:=(Qf n).map λ (k:Nat)=>V.int (i+(k:Int))
def J1n (ta:TA):TE:=λ σ H Q=>ta σ H λ vs H1=>∃ i j:Int,vs=[.int i,.int j]/\0<=i/\i<=j/\j<=1000000/\∀ l,H1 l=none->Q (.ref l) (upd H1 l (.lst (Jez i (j-i).toNat)))
theorem Jq6 (i:Int):∀ (n:Nat) (us:List J8i),us.length=n->(∀ (k:Nat) (u:J8i),us[k]? = some u->∃ t,u=Uv (i+((k:Nat):Int)) t)->Yg (Jez i n) us:=by
 intro n
 induction n with
 | zero=>intro us h _;rw [J34.mp h];exact .nil
 | succ n ih=>
  intro us h hk
  have hne:us≠[]:=λ e=>by rw [e] at h;cases h
  obtain ⟨l,x,rfl⟩:∃ l x,us=l++[x]:=⟨us.dropLast,us.getLast hne,(J65 hne).symm⟩
  have hl:l.length=n:=by simpa using h
  have e:Jez i (n+1)=Jez i n++[V.int (i+n)]:=by unfold Jez;rw [J13,Xg];rfl
  rw [e]
  obtain ⟨t,et⟩:=hk n x (by rw [<- hl];simp)
  subst et
  exact (ih l hl λ k u hu=>hk k u (by rw [Up (by exact (Qs.mp hu).1)];exact hu)).append (.cons ⟨t,rfl⟩ .nil)
theorem Jjb {X:Cx}{a b:Expr}{ta:TA}{p1 p2 pos1 pos2:Pos}(hc:X.calm=true) (hg1:Gl X "list") (hm1:X.mg "list" = none) (hg2:Gl X "range") (hm2:X.mg "range" = none) (ha:PA X [a,b] ta) (hs:starEach [a,b] X.env=[(false,eval a X.env),(false,eval b X.env)]:=by rfl) (hs2:starEach [b] X.env=[(false,eval b X.env)]:=by rfl)
 (hs1:starEach [.Call (.Name "range" p2) [a,b] [] pos2] X.env=[(false,eval (.Call (.Name "range" p2) [a,b] [] pos2) X.env)]:=by rfl):PE X (.Call (.Name "list" p1) [.Call (.Name "range" p2) [a,b] [] pos2] [] pos1) (J1n ta):=by
 intro pins s σ H Q I h
 refine J9c (Ja4 I hg1 hm1 J82 ?_)
 refine U9 ?_ hs1 rfl
 rw [hs1]
 show J8l _ _ (spliced ((false,eval (.Call (.Name "range" p2) [a,b] [] pos2) X.env)::[])) _ _ s
 refine J4s ?_
 refine Call_ (Ja4 I hg2 hm2 boot_range (U9 (thn (ha pos2 pins s σ H _ I h) λ us s1 ⟨vs,H1,I1,r1,q1⟩=>?_) (by rw [hs,hs2]) (by rw [hs2];rfl)))
 obtain ⟨i,j,e,b0,b1,b2,q⟩:=q1
 subst e
 cases r1 with
 | cons r rr=>
  cases rr with
  | cons r' rr=>
   cases rr
   obtain ⟨t,rfl⟩:=r
   obtain ⟨t',rfl⟩:=r'
   refine call_range_2 (J4r ?_)
   have I2:Inv X pins σ H1 { s1 with heap:=s1.heap.push { cls:=.type "range",data:=.fields #[.int i t,.int j t',.int 1 s1.toks] },toks:=s1.toks+1 }:=I1.kept λ b o e=>Qt _ e
   have hs:=J8p
   refine call_list_range (n:=(j-i).toNat) (I2.ok.hd hc) (J4l ..) (small_one (by omega) (by omega) (by omega) (by omega)) (by rw [J9t];split<;>omega) (by omega) λ h' tk acc' c' hk hS' hacc=>?_
   refine ⟨.ref _,_,I2.laid (t':=tk) hk (Qm _) (show Zx X.prog X.w _ h' _ (.lst (Jez i (j-i).toNat)) from ⟨by unfold Jez;simp;omega,acc'.toList,c',Jq6 i _ _ (by simp [hacc.1]) (λ k u hu=>?_),by simpa using hS'⟩),rfl,q _ (I2.hok.fresh (Qm _))⟩
   obtain ⟨t,et⟩:=hacc.2 k u (by simpa using hu)
   exact ⟨t,by rw [et];simp⟩
end L2
namespace My
open L2
def Jgq (ex:List Addr) (H:Hp):List Vl->L2.St->Prop
 | [],_=>True
 | w::ws,o :: σ=>SlR Src.no ex H w o/\Jgq ex H ws σ
 | _::_,[]=>False
theorem Jgq.len {ex:List Addr}{H:Hp}:∀ {env:List Vl}{σ:L2.St},Jgq ex H env σ->env.length<=σ.length
 | [],_,_=>Xu _
 | _::_,_::_,h=>Nat.succ_le_succ h.2.len
 | _::_,[],h=>h.elim
theorem Jgq.sl {ex:List Addr}{H:Hp}:∀ {env:List Vl}{σ:L2.St}(i:Nat) (w:Vl),Jgq ex H env σ->env[i]? = some w->SlR Src.no ex H w (σ[i]?).join
 | [],_,_,_,_,e=>by cases e
 | _::_,_::_,0,_,h,e=>by cases e;exact h.1
 | _::_,_::_,i+1,w,h,e=>Jgq.sl i w h.2 e
 | _::_,[],_,_,h,_=>h.elim
theorem Jgq.ev {ex:List Addr}{H:Hp}{env:List Vl}{σ:L2.St}(h:Jgq ex H env σ) (al:Alc ex H):Ev Src.no ex env σ H 0:=⟨h.len,λ i w e=>h.sl i w e,λ a ha=>(by cases ha),al,trivial⟩
theorem Jto {S:Src}{ex:List Addr}{env:List Vl}{σ:L2.St}{H:Hp}{n i k:Nat}{wi:TI}{idx:List Nat}{g:TG}{tt:TT}{te:TE}{r:TS}{D:Ends}{gn:GN} [N:NV (Jbe wi k idx g tt te) gn] (P:List J8j->Nat->Prop) (E:Ev S ex env σ H n) (h:gn env n P) (q:∀ ds n' a vs H',P ds n'->Y6 S n' H H'->H a=none->H' a=some (.lst vs)->vs.length<=sizeLine->Reps (a::ex) H' ds vs->r D (σ.set i (some (.ref a))) H'):Ja5 (Bo i wi k idx g tt te) r D σ H:=
 show Jbe wi k idx g tt te σ H (λ v H2=>r D (σ.set i (some v)) H2) from N.nv E h q
theorem Jtp {S:Src}{ex:List Addr}{env:List Vl}{σ:L2.St}{H:Hp}{n i:Nat}{te:TE}{r:TS}{D:Ends}{gn:GN}{a:Addr}{vs:List V} [N:NV te gn] (P:List J8j->Nat->Prop) (E:Ev S ex env σ H n) (h:gn env n P) (hi:σ[i]? = some (some (.ref a))) (ha:H a=some (.lst vs)) (ac:a∉S.ch) (q:∀ ds n' b us H',P ds n'->Y6 S n' H H'->H b=none->H' b=some (.lst us)->us.length<=sizeLine->Reps (b::ex) H' ds us->H' a=some (.lst vs)->vs.length+us.length<=sizeLine/\r D (σ.set i (some (.ref a))) (upd H' a (.lst (vs++us)))):Ja5 (Jy5 i te ipL) r D σ H:=
 ⟨_,hi,N.nv E h λ ds n' b us H' p s hb hl hz rr=>⟨a,b,vs,us,rfl,rfl,s.1 _ _ ha ac,hl,(q ds n' b us H' p s hb hl hz rr (s.1 _ _ ha ac)).1,(q ds n' b us H' p s hb hl hz rr (s.1 _ _ ha ac)).2⟩⟩
theorem Jtq {K:Qc}{S:Src}{ex:List Addr}{env:List Vl}{σ:L2.St}{H:Hp}{n i:Nat}{te:TE}{f:Str}{r:TS}{D:Ends}{gn:GN}{x C dx:Addr}{fs:List (Str×V)} [N:NV te gn] (P:List J8j->Nat->Prop) (E:Ev S ex env σ H n) (h:gn env n P) (hi:σ[i]? = some (some (.ref x))) (hx:H x=some (.ins C dx fs)) (xc:x∉S.ch) (c:Cls K C) (no:NoAttr K C f) (lf:fs.length<1000) (q:∀ ds n' b us H',P ds n'->Y6 S n' H H'->H b=none->H' b=some (.lst us)->us.length<=sizeLine->Reps (b::ex) H' ds us->H' x=some (.ins C dx fs)->r D σ (upd H' x (.ins C dx (L2.putF f (.ref b) fs)))):Ja5 (Jue K (Z8 i) te f) r D σ H:=
 N.nv E h λ ds n' b us H' p s hb hl hz rr=>⟨_,hi,x,C,dx,fs,rfl,s.1 _ _ hx xc,c,no,lf,q ds n' b us H' p s hb hl hz rr (s.1 _ _ hx xc)⟩
noncomputable def Zf (U:Int) (ws:List Way):Nat->Tb.Vec:=λ ν r=>if ν < ws.length then (if (r:Int)<U then -((Jg ws (ν:Int)).g.getD r 0) else (if (Jg ws (ν:Int)).a=(r:Int)-U then 1 else 0)-(if (Jg ws (ν:Int)).b=(r:Int)-U then 1 else 0)) else Tb.Z6 (ν - ws.length) r
noncomputable def Jyp (R U:Int) (ws:List Way) (some:List Nat):Tb.Tab:=Tb.Bc ws.length (U+R).toNat (Zf U ws) Jip some
noncomputable def Jle (R U:Int) (ws:List Way):Siz:=⟨(ws.length:Int),(ws.length:Int)+U,(ws.length:Int)+U+R⟩
noncomputable def nI (ks:List Nat):List Int:=ks.map λ k:Nat=>(k:Int)
theorem Bd (f:Nat->Int):∀ n,Tb.Jq n f=((Qf n).map f).sum
 | 0=>rfl
 | n+1=>by rw [Tb.Jq,Bd f n,J13,Xg,J35,J2l,J5o]
theorem Jd2 (f:Nat->Int) (a:Nat):∀ b,Tb.Jq (a+b) f=Tb.Jq a f+Tb.Jq b λ i=>f (a+i)
 | 0=>by show Tb.Jq a f=Tb.Jq a f+0;omega
 | b+1=>by
  show Tb.Jq (a+b) f+f (a+b)=Tb.Jq a f+(Tb.Jq b (λ i=>f (a+i))+f (a+b))
  rw [Jd2 f a b];omega
section
variable {R U:Int}{ws:List Way}
theorem Jis {k r:Nat}(hk:k<ws.length) (hr:(r:Int)<U):Zf U ws k r = -((Jg ws (k:Int)).g.getD r 0):=by
 unfold Zf;rw [if_pos hk,if_pos hr]
theorem Jfv {k a:Nat}(hk:k<ws.length) (hU:0<=U):Zf U ws k (U.toNat+a)=(if (Jg ws (k:Int)).a=(a:Int) then 1 else 0)-(if (Jg ws (k:Int)).b=(a:Int) then 1 else 0):=by
 unfold Zf;rw [if_pos hk,if_neg (by omega),show ((U.toNat+a:Nat):Int)-U=(a:Int) by omega]
theorem W1 (m:Nat):Tb.Cols ws.length m (Zf U ws):=⟨λ s _=>by
 funext r
 unfold Zf
 rw [if_neg (by omega),show ws.length+s-ws.length=s by omega]⟩
theorem Jit (ok:BookOk R U ws):Small (U+R).toNat (Zf U ws) Jip:=by
 refine ⟨λ ν r _=>?_,λ r _=>by show (0:Int).natAbs<=100;decide⟩
 unfold Zf
 split
 . rename_i h
   have wok:=ok.ways _ (Yx (Xj ν) (by omega))
   split
   . by_cases hr:r<(Jg ws (ν:Int)).g.length
     . have:=wok.small _ (Q8 hr)
       rw [Qd,Qg hr]
       show (-(Jg ws (ν:Int)).g[r]).natAbs<=100
       omega
     . rw [Qd,Qx (by omega)]
       show (-(0:Int)).natAbs<=100
       decide
   . split<;>split<;>decide
 . unfold Tb.Z6
   split<;>decide
variable {ks:List Nat}
theorem Jtr (lt:∀ k∈ks,k<ws.length):Fit ws.length (U+R).toNat ks.length (Zf U ws) ks (Jyp R U ws ks):=⟨W1 _,lt,rfl,λ g=>Tb.Jj2 g⟩
end
theorem Jmy {ks:List Nat}(nd:ks.Nodup) {nw:Nat}(lt:∀ k∈ks,k<nw) {F:Nat->Int}(z:∀ i,i<nw->i∉ks->F i=0):Tb.Jq ks.length (λ j=>F (ks.getD j 0))=Tb.Jq nw F:=by
 have e:∀ j,j<ks.length->F (ks.getD j 0)=Tb.Jq nw λ i=>(if ks.getD j 0=i then 1 else 0)*F i:=λ j hj=>by
  rw [Tb.Yd (a:=ks.getD j 0) (lt _ (Jfu hj)) (λ i _ hne=>by rw [if_neg (Qj hne),Xs]),if_pos rfl,Uu]
 rw [Tb.Jk e,Tb.Jfs]
 refine Tb.Jk λ i hi=>?_
 rw [Tb.Jfr]
 by_cases h:i∈ks
 . obtain ⟨j,hj⟩:=Uj.mp h
   obtain ⟨jl,je⟩:=Qs.mp hj
   rw [Tb.Yd (a:=j) jl (λ t ht hne=>if_neg λ e=>hne (by
    have e2:ks.getD t 0=ks[t]:=by rw [Qd,Qg ht];rfl
    exact (J4i nd).mp (by rw [<- e2,e,je]))),if_pos (by rw [Qd,hj];rfl),Uu]
 . rw [z i hi h,Xl]
section
variable {R U:Int}{ws:List Way}{ks W:List Nat}{T:Tb.Tab}
theorem Jts (ok:BookOk R U ws) {S:Nat->Int}{k:Nat}(hk:k<ws.length) {wt ht:List Int}{g:Int}(lw:(wt.length:Int)=U) (hw:∀ p:Nat,(p:Int)<U->g*wt.getD p 0=S p) (hh:∀ a:Nat,(a:Int)<R->g*ht.getD a 0=S (U.toNat+a)):g*Jdo ws wt ht (k:Int)=Tb.Jq (U+R).toNat λ s=>Zf U ws k s*S s:=by
 have r0:=ok.r0
 have p0:=ok.p0
 have wok:=ok.ways _ (Yx (k:=(k:Int)) (Xj k) (by omega))
 have a0:=wok.a0
 have a1:=wok.a1
 have b0:=wok.b0
 have b1:=wok.b1
 rw [show (U+R).toNat=U.toNat+R.toNat by omega,Jd2]
 have e1:Tb.Jq U.toNat (λ s=>Zf U ws k s*S s) = -(g*Jhn wt (Jg ws (k:Int)).g wt.length):=by
  unfold Jhn
  rw [<- Bd,<- Tb.Ze,<- Tb.Wb,show wt.length=U.toNat by omega]
  refine Tb.Jk λ s hs=>?_
  rw [Jis hk (by omega),<- hw s (by omega)]
  generalize wt.getD s 0=x
  generalize (Jg ws (k:Int)).g.getD s 0=y
  rw [J4a,<- Xq,Xb y,Xq,Xb y]
 have e2:Tb.Jq R.toNat (λ i=>Zf U ws k (U.toNat+i)*S (U.toNat+i))=g*ht.getD (Jg ws (k:Int)).a.toNat 0-g*ht.getD (Jg ws (k:Int)).b.toNat 0:=by
  have e3:∀ i,i<R.toNat->Zf U ws k (U.toNat+i)*S (U.toNat+i)=(if i=(Jg ws (k:Int)).a.toNat then S (U.toNat+i) else 0) + -(if i=(Jg ws (k:Int)).b.toNat then S (U.toNat+i) else 0):=λ i hi=>by
   rw [Jfv hk (by omega),J4c]
   have h1:((Jg ws (k:Int)).a=(i:Int))↔i=(Jg ws (k:Int)).a.toNat:=by omega
   have h2:((Jg ws (k:Int)).b=(i:Int))↔i=(Jg ws (k:Int)).b.toNat:=by omega
   by_cases c1:i=(Jg ws (k:Int)).a.toNat<;>by_cases c2:i=(Jg ws (k:Int)).b.toNat
   . rw [if_pos (h1.mpr c1),if_pos (h2.mpr c2),if_pos c1,if_pos c2];omega
   . rw [if_pos (h1.mpr c1),if_neg (mt h2.mp c2),if_pos c1,if_neg c2];omega
   . rw [if_neg (mt h1.mp c1),if_pos (h2.mpr c2),if_neg c1,if_pos c2];omega
   . rw [if_neg (mt h1.mp c1),if_neg (mt h2.mp c2),if_neg c1,if_neg c2];omega
  rw [Tb.Jk e3,Tb.Wa,Tb.Wb,Tb.Yd (a:=(Jg ws (k:Int)).a.toNat) (by omega) (λ i _ h=>if_neg h),Tb.Yd (a:=(Jg ws (k:Int)).b.toNat) (by omega) (λ i _ h=>if_neg h),if_pos rfl,if_pos rfl,<- hh _ (by omega),<- hh _ (by omega)]
  omega
 rw [e1,e2]
 unfold Jdo
 rw [J5z,J5z]
 omega
theorem Jon (be nw m n:Nat) (h:be=nw+m):(sl T m be W n).drop nw=(Qf m).map λ s=>T.share m n W (nw+s):=by
 subst h
 unfold sl
 rw [<- J3a,J50,List.drop_append_of_le_length (by rw [Qw];exact Qm _),List.drop_eq_nil_of_le (by rw [Qw];exact Qm _),J3t,Q0]
 refine U0 λ s _=>?_
 exact Jtk _
end
section
variable {R U:Int}{ws:List Way}{ks W:List Nat}{T:Tb.Tab}
theorem Ws {a b:Nat}(h:a<=b):2^a<=2^b:=J3e (by decide) h
theorem Joo {m n:Nat}(sh:Shape m n T) {j:Nat}(hj:j<n):(T.rise m W j).natAbs<2^4100:=by
 have q0:=sh.q0
 have q1:T.q.natAbs<2^4000:=by
  have:=sh.q1
  have h:((T.q.natAbs:Nat):Int)<((2^4000:Nat):Int):=by
   rw [Uy (by omega)]
   exact_mod_cast this
  exact_mod_cast h
 have mm:=sh.mm
 have s1:(Tb.Jq m λ i=>Tb.ind W (T.b i) (T.e i j)).natAbs<=m*2^4000:=Tb.Jic λ i hi=>by
  unfold Tb.ind
  split
  . exact Um (Jir sh hi (by omega))
  . exact Xu _
 have s2:(Tb.ind W (T.f j) T.q).natAbs<=2^4000:=by
  unfold Tb.ind
  split
  . exact Um q1
  . exact Xu _
 have s3:m*2^4000<=20*2^4000:=Nat.mul_le_mul_right _ mm
 have s4:21*2^4000<2^4100:=by
  have:(2:Nat)^4100=2^100*2^4000:=by rw [<- Nat.pow_add]
  rw [this]
  exact Nat.mul_lt_mul_of_pos_right (by decide) (J3j _)
 unfold Tb.Tab.rise
 generalize (Tb.Jq m λ i=>Tb.ind W (T.b i) (T.e i j))=a at *
 generalize Tb.ind W (T.f j) T.q=b at *
 generalize 2^4000=c at *
 generalize 2^4100=d at *
 omega
theorem Jmz {m n:Nat}{c:Nat->Tb.Vec}{rhs:Tb.Vec}(sh:Shape m n T) (h:Tb.TabOk m n c rhs T) {ν:Nat}(i:Tb.inN m n T ν):(T.share m n W ν).natAbs<2^4100:=by
 rcases i with ⟨i,hi,rfl⟩ | ⟨j,hj,rfl⟩
 . rw [Tb.Jcx h hi]
   unfold Tb.ind
   split
   . have q0:=sh.q0
     have:=sh.q1
     have h:((T.q.natAbs:Nat):Int)<((2^4000:Nat):Int):=by
      rw [Uy (by omega)]
      exact_mod_cast this
     exact Qz (by exact_mod_cast h) (Ws (by decide))
   . exact J3j _
 . rw [Tb.Jd1 h hj,J7r]
   exact Joo sh hj
theorem Jyq {g x:Int}(g0:0<g) (h:0<=x):0<=x/g:=Int.ediv_nonneg h (by omega)
theorem Jj6 {g x:Int}{b:Nat}(g0:0<g) (h:x.natAbs<b):(x/g).natAbs<b:=by
 refine Ug ?_ h
 have:=Int.natAbs_ediv_le_natAbs x g
 exact this
noncomputable def shL (R U:Int) (ws:List Way) (n:Nat) (W:List Nat) (T:Tb.Tab):List Int:=(Qf (U+R).toNat).map λ s=>T.share (U+R).toNat n W (ws.length+s)
structure Told (R U:Int) (ws:List Way) (ks W:List Nat) (T:Tb.Tab):Prop where
 ok:BookOk R U ws
 kept:Kept (U+R).toNat ks.length (ws.length+(U+R).toNat) (Zf U ws) (Jyp R U ws ks) T
 nd:ks.Nodup
 lt:∀ k∈ks,k<ws.length
theorem Told.m (t:Told R U ws ks W T):(U+R).toNat<=18:=by have:=t.ok.r1;have:=t.ok.p1;omega
theorem Told.n (t:Told R U ws ks W T):ks.length<=100:=by have:=nodup_le _ _ t.nd t.lt;have:=t.ok.len;omega
theorem Told.shape (t:Told R U ws ks W T):Shape (U+R).toNat ks.length T:=Jti (Jit t.ok) t.kept.ok t.m t.n
theorem Told.fit (t:Told R U ws ks W T):Fit ws.length (U+R).toNat ks.length (Zf U ws) ks (Jyp R U ws ks):=Jtr t.lt
theorem Told.way (t:Told R U ws ks W T) {k:Nat}(hk:k∈ks):Tb.inN (U+R).toNat ks.length T k:=(t.fit.names t.kept.tot _).mpr (.inr hk)
theorem Jvq {n s:Nat}(hs:s<(U+R).toNat):T.share (U+R).toNat n W (ws.length+s)∈shL R U ws n W T:=Qo.mpr ⟨s,Q5.mpr hs,rfl⟩
theorem Jp5 {n:Nat}:(shL R U ws n W T).length=(U+R).toNat:=by unfold shL;rw [Qb,Qw]
end
section
variable {R U:Int}{ws:List Way}{ks W:List Nat}{T:Tb.Tab}
structure RoundK (R U:Int) (ws:List Way) (ks:List Nat) (cs:List Int):Prop where
 ro:RoundOk R ws cs
 sub:∀ k:Nat,cs.getD k 0≠0->k∈ks
 gn:∀ p:Nat,(p:Int)<U->0<=(Jl7 ws cs p).sum
 bd:∀ c∈cs,c.natAbs<2^8000
 ne:∃ k∈ks,0<cs.getD k 0
noncomputable def drL (ws:List Way) (m:Nat) (T:Tb.Tab) (k:Nat):List Int:=(Qf ws.length).map (T.dir m k)
noncomputable def drQ (ws:List Way) (m:Nat) (T:Tb.Tab) (k:Nat):List Int:=(drL ws m T k).map λ x=>x/((Zi (drL ws m T k):Nat):Int)
theorem Jlf {m k:Nat}:(drQ ws m T k).length=ws.length:=by unfold drQ drL;rw [Qb,Qb,Qw]
theorem Jp6 {m k i:Nat}(h:i<ws.length):T.dir m k i∈drL ws m T k:=Qo.mpr ⟨i,Q5.mpr h,rfl⟩
theorem Jp7 {m k i:Nat}(h:i<ws.length):(drQ ws m T k)[i]? = some (T.dir m k i/((Zi (drL ws m T k):Nat):Int)):=by
 unfold drQ
 rw [Qk]
 conv=>lhs;rw [show drL ws m T k=(Qf ws.length).map (T.dir m k) from rfl]
 rw [Qk,Xi h];rfl
theorem Jvr {m k i:Nat}(h:i<ws.length):((Zi (drL ws m T k):Nat):Int)*(drQ ws m T k).getD i 0=T.dir m k i:=by
 rw [Qd,Jp7 h,Xb]
 exact Jp0 (Jp6 h)
theorem Jm0 (ok:BookOk R U ws) (cs:List Int):∀ i,i<=ws.length->Tb.Jq R.toNat (λ r=>Yy ws cs i (r:Nat))=0
 | 0,_=>Tb.Wd _
 | i+1,hi=>by
  have wok:=ok.ways _ (Yx (k:=(i:Int)) (Xj i) (by omega))
  have r0:=ok.r0
  have a0:=wok.a0
  have a1:=wok.a1
  have b0:=wok.b0
  have b1:=wok.b1
  have e:∀ r,r<R.toNat->Yy ws cs (i+1) (r:Nat)=Yy ws cs i (r:Nat)+(-(if r=(Jg ws (i:Nat)).a.toNat then cs.getD i 0 else 0)+(if r=(Jg ws (i:Nat)).b.toNat then cs.getD i 0 else 0)):=λ r hr=>by
   rw [Yy]
   have h1:((Jg ws (i:Nat)).a=((r:Nat):Int))↔r=(Jg ws (i:Nat)).a.toNat:=by omega
   have h2:((Jg ws (i:Nat)).b=((r:Nat):Int))↔r=(Jg ws (i:Nat)).b.toNat:=by omega
   by_cases c1:r=(Jg ws (i:Nat)).a.toNat<;>by_cases c2:r=(Jg ws (i:Nat)).b.toNat
   . rw [if_pos (h1.mpr c1),if_pos (h2.mpr c2),if_pos c1,if_pos c2];omega
   . rw [if_pos (h1.mpr c1),if_neg (mt h2.mp c2),if_pos c1,if_neg c2];omega
   . rw [if_neg (mt h1.mp c1),if_pos (h2.mpr c2),if_neg c1,if_pos c2];omega
   . rw [if_neg (mt h1.mp c1),if_neg (mt h2.mp c2),if_neg c1,if_neg c2];omega
  rw [Tb.Jk e,Tb.Wa,Jm0 ok cs i (by omega),Tb.Wa,Tb.Wb,Tb.Yd (a:=(Jg ws (i:Nat)).a.toNat) (by omega) (λ r _ h=>if_neg h),Tb.Yd (a:=(Jg ws (i:Nat)).b.toNat) (by omega) (λ r _ h=>if_neg h),if_pos rfl,if_pos rfl]
  omega
theorem Jtt {n:Nat}{f:Nat->Int}(h:∀ i,i<n->0<=f i) (z:Tb.Jq n f=0) {i:Nat}(hi:i<n):f i=0:=by
 have:=Jey hi h
 have:=h i hi
 omega
theorem Jj7 (t:Told R U ws ks W T) {k:Nat}(hk:k<ks.length) {r:Nat}(hr:r<(U+R).toNat):T.dir (U+R).toNat k (ws.length+r) = -Tb.Jq ws.length λ i=>T.dir (U+R).toNat k i*Zf U ws i r:=by
 have e:=Tb.Jg2 t.kept.ok hk r hr
 have ze:∀ i,i<ws.length->i∉ks->T.dir (U+R).toNat k i*Zf U ws i r=0:=λ i hi hn=>by
  have no:¬ Tb.inN (U+R).toNat ks.length T i:=λ z=>by
   rcases (t.fit.names t.kept.tot i).mp z with ⟨s,_,e⟩ | h
   . omega
   . exact hn h
  have:T.dir (U+R).toNat k i=0:=by
   unfold Tb.Tab.dir
   rw [if_neg (λ z=>no (.inr ⟨k,hk,z.symm⟩)),Wr λ j hj=>if_neg λ z=>no (.inl ⟨j,hj,z⟩)]
   rfl
  rw [this,Xs]
 rw [t.kept.tot,t.fit.tot,Jmy t.nd t.lt ze,Tb.Yd (a:=r) hr (λ s hs hne=>?_)] at e
 . rw [(W1 (U:=U) (ws:=ws) (U+R).toNat).un r hr] at e
   have:Tb.Z6 r r=1:=if_pos rfl
   rw [this] at e
   omega
 . rw [(W1 (U:=U) (ws:=ws) (U+R).toNat).un s hs]
   have:Tb.Z6 s r=0:=if_neg (Qj hne)
   rw [this,Xl]
theorem Jop (t:Told R U ws ks W T) {k:Nat}(ry:Tb.Ray (U+R).toNat ks.length W T k):RoundK R U ws ks (drQ ws (U+R).toNat T k)/\(∀ i,i<ws.length->0<T.dir (U+R).toNat k i->1<=(drQ ws (U+R).toNat T k).getD i 0)/\(∀ p:Nat,(p:Int)<U->0<T.dir (U+R).toNat k (ws.length+p)->1<=(Jl7 ws (drQ ws (U+R).toNat T k) p).sum)/\∃ ν∈W,Tb.inN (U+R).toNat ks.length T ν/\0<T.dir (U+R).toNat k ν:=by
 have r0:=t.ok.r0
 have p0:=t.ok.p0
 obtain ⟨j,hj,jp⟩:=Jp4 t.fit t.kept.tot t.kept.ok ry
 have jl:=t.lt j hj
 have g0:=Jb1 (Jp6 (m:=(U+R).toNat) (T:=T) (k:=k) jl) (by omega)
 have gp:(0:Int)<((Zi (drL ws (U+R).toNat T k):Nat):Int):=by omega
 have mul:=λ {i:Nat} (h:i<ws.length)=>Jvr (m:=(U+R).toNat) (T:=T) (k:=k) h
 have dn:∀ i,0<=T.dir (U+R).toNat k i:=λ i=>Tb.Jta t.kept.ok ry i
 have no:∀ i,i<ws.length->i∉ks->T.dir (U+R).toNat k i=0:=λ i hi hn=>by
  have no:¬ Tb.inN (U+R).toNat ks.length T i:=λ z=>by
   rcases (t.fit.names t.kept.tot i).mp z with ⟨s,_,e⟩ | h
   . omega
   . exact hn h
  unfold Tb.Tab.dir
  rw [if_neg (λ z=>no (.inr ⟨k,ry.hk,z.symm⟩)),Wr λ j hj=>if_neg λ z=>no (.inl ⟨j,hj,z⟩)]
  rfl
 have purse:∀ p:Nat,(p:Int)<U->T.dir (U+R).toNat k (ws.length+p)=((Zi (drL ws (U+R).toNat T k):Nat):Int)*(Jl7 ws (drQ ws (U+R).toNat T k) p).sum:=λ p hp=>by
  rw [Jj7 t ry.hk (by omega)]
  unfold Jl7
  rw [<- Bd,<- Tb.Ze,<- Tb.Wb]
  refine Tb.Jk λ i hi=>?_
  rw [Jis hi hp,<- mul hi,J2o,Int.neg_neg,Xq]
 have room:∀ a:Nat,a<R.toNat->T.dir (U+R).toNat k (ws.length+(U.toNat+a))=((Zi (drL ws (U+R).toNat T k):Nat):Int)*Yy ws (drQ ws (U+R).toNat T k) ws.length (a:Nat):=λ a ha=>by
  rw [Jj7 t ry.hk (by omega),Jh5,<- Bd,<- Tb.Ze,<- Tb.Wb]
  refine Tb.Jk λ i hi=>?_
  rw [Jfv hi (by omega),<- mul hi]
  unfold Jss
  generalize (drQ ws (U+R).toNat T k).getD i 0=x
  generalize (if (Jg ws ((i:Nat):Int)).a=((a:Nat):Int) then (1:Int) else 0)=y
  generalize (if (Jg ws ((i:Nat):Int)).b=((a:Nat):Int) then (1:Int) else 0)=z
  rw [<- J2o,Int.neg_sub,Xq]
 have bal:∀ a:Nat,a<R.toNat->Yy ws (drQ ws (U+R).toNat T k) ws.length (a:Nat)=0:=λ a ha=>
  Jtt (f:=λ a=>Yy ws (drQ ws (U+R).toNat T k) ws.length (a:Nat)) (λ a ha=>J3k (by rw [<- room a ha];exact dn _) gp) (Jm0 t.ok _ _ (Qm _)) ha
 have at0:∀ i,i<ws.length->0<=(drQ ws (U+R).toNat T k).getD i 0:=λ i hi=>J3k (by rw [mul hi];exact dn _) gp
 have ps:∀ i,i<ws.length->0<T.dir (U+R).toNat k i->1<=(drQ ws (U+R).toNat T k).getD i 0:=λ i hi h=>by
  rw [<- mul hi] at h
  exact J51 h gp
 have memi:∀ c∈drQ ws (U+R).toNat T k,∃ i,i<ws.length/\c=(drQ ws (U+R).toNat T k).getD i 0/\c=T.dir (U+R).toNat k i/((Zi (drL ws (U+R).toNat T k):Nat):Int):=λ c hc=>by
  obtain ⟨i,hi⟩:=Uj.mp hc
  have il:=(Qs.mp hi).1
  rw [Jlf] at il
  refine ⟨i,il,by rw [Qd,hi];rfl,?_⟩
  rw [Jp7 il] at hi
  exact (Xr hi).symm
 refine ⟨⟨⟨Jlf,λ c hc=>?_,bal⟩,λ i hi=>?_,λ p hp=>?_,λ c hc=>?_,j,hj,ps j jl jp⟩,ps,λ p hp h=>?_,?_⟩
 . obtain ⟨i,il,e,_⟩:=memi c hc
   rw [e];exact at0 i il
 . refine J2r λ hn=>hi ?_
   by_cases il:i<ws.length
   . have:=mul il
     rw [no i il hn] at this
     rcases J52.mp this with z | z
     . omega
     . exact z
   . rw [Qd,Qx (by rw [Jlf];omega)];rfl
 . exact J3k (by rw [<- purse p hp];exact dn _) gp
 . obtain ⟨i,il,_,e⟩:=memi c hc
   rw [e]
   by_cases h:i∈ks
   . exact Jj6 gp (Qz (Jj5 t.shape t.kept.ok ry.hk (t.way h)) (Ws (by decide)))
   . rw [no i il h,J7t];exact J3j _
 . rw [purse p hp] at h
   exact J51 h gp
 . have w:=Tb.Jd0 (W:=W) t.kept.ok ry.hk
   have rp:=ry.rise
   rw [<- w] at rp
   have pos:∀ ν,0<Tb.ind W ν (T.dir (U+R).toNat k ν)->ν∈W/\0<T.dir (U+R).toNat k ν:=λ ν h=>by
    unfold Tb.ind at h
    split at h
    . exact ⟨by assumption,h⟩
    . exact absurd h (by decide)
   unfold Tb.Tab.tot at rp
   dsimp only at rp
   by_cases c:0<Tb.Jq (U+R).toNat (λ i=>Tb.ind W (T.b i) (T.dir (U+R).toNat k (T.b i)))
   . obtain ⟨i,hi,hp⟩:=Tb.Vk c
     obtain ⟨a,b⟩:=pos _ hp
     exact ⟨_,a,.inl ⟨i,hi,rfl⟩,b⟩
   . obtain ⟨j,hj,hp⟩:=Tb.Vk (n:=ks.length) (f:=λ j=>Tb.ind W (T.f j) (T.dir (U+R).toNat k (T.f j))) (by omega)
     obtain ⟨a,b⟩:=pos _ hp
     exact ⟨_,a,.inr ⟨j,hj,rfl⟩,b⟩
end
section
variable {R U:Int}{ws:List Way}{ks W W':List Nat}{T T':Tb.Tab}{C p fa ba:Addr}{ex:List Addr}{H:Hp}{wv:V}{Q:VK}{E:XK}
theorem Jg7 (ok:BookOk R U ws):Jle R U ws=⟨((ws.length:Nat):Int),((ws.length+U.toNat:Nat):Int),((ws.length+(U+R).toNat:Nat):Int)⟩:=by
 have r0:=ok.r0
 have p0:=ok.p0
 unfold Jle
 congr 1<;>omega
end
def Je0:GSp:=λ as n Q=>as=[.tape]/\n<2^39/\∀ (r:Int) (m:Nat),-97<=r->r<=97->m<=n+4->Q (.int r) m
instance scal_gainVW:Scal Je0:=⟨λ {as n P} h=>⟨h.1,h.2.1,λ r m r0 r1 hm=>⟨rfl,h.2.2 r m r0 r1 hm⟩⟩⟩
def Jdg:GSp:=λ as n Q=>∃ U:Int,as=[.tape,.d (.int U)]/\n<2^38/\0<=U/\U<=6/\∀ (f:Nat->Int) (m:Nat),(∀ i,i<U.toNat->-97<=f i/\f i<=97)->m<=n+24->Q (Jfo U f) m
def Jd3:GSn:=λ as n Q=>∃ R U:Int,as=[.tape,.d (.int R),.d (.int U)]/\n<2^37/\(1<=R/\R<=12)/\(1<=U/\U<=6)/\∀ (ws:List Way) (m:Nat),(∀ w∈ws,WayOk R U w)->ws.length<=24->m<=n+80->Q (ws.map Ym) m
def Jfw:GSp:=λ as n Q=>∃ xs:List Int,as=[.d (.tuple (xs.map .int)),.d (.int (xs.length:Int))]/\xs.length<=1000/\Q (.bool true) n
noncomputable instance:Scal Jfw:=⟨λ {as n P} h=>by obtain ⟨w,e,h1,q⟩:=h;exact ⟨w,e,h1,rfl,q⟩⟩
def Je1:GSp:=λ as n Q=>∃ (R U:Int) (ws:List Way) (wt ht:List Int),as=[.d (J2 R U ws),.d (Ji8 wt ht)]/\BookOk R U ws/\(wt.length:Int)=U/\(ht.length:Int)=R/\(∀ x∈wt,0<=x)/\Q (.bool true) n
noncomputable instance:Scal Je1:=⟨λ {as n P} h=>by obtain ⟨R,U,ws,wt,ht,e,h1,h2,h3,h4,q⟩:=h;exact ⟨R,U,ws,wt,ht,e,h1,h2,h3,h4,rfl,q⟩⟩
structure SumB (R U:Int) (wt ht:List Int):Prop where
 lw:(wt.length:Int)=U
 lh:(ht.length:Int)=R
 bw:∀ x∈wt,x.natAbs<2^8000
def Je2:GSp:=λ as n Q=>∃ (R U:Int) (ws:List Way) (wt ht:List Int) (k:Nat),as=[.d (J2 R U ws),.d (Ji8 wt ht),.d (Jn k)]/\BookOk R U ws/\SumB R U wt ht/\k<ws.length/\Q (.int (Jdo ws wt ht (k:Int))) n
noncomputable instance:Scal Je2:=⟨λ {as n P} h=>by obtain ⟨R,U,ws,wt,ht,k,e,h1,h2,h3,q⟩:=h;exact ⟨R,U,ws,wt,ht,k,e,h1,h2,h3,rfl,q⟩⟩
def Jg8:GSp:=λ as n Q=>∃ (R U:Int) (ws:List Way) (wt ht:List Int) (ks:List Nat),as=[.d (J2 R U ws),.d (Ji8 wt ht),.d (.list (ks.map Jn))]/\BookOk R U ws/\SumB R U wt ht/\(∀ k∈ks,k<ws.length)/\ks.length<=1000/\(∀ k∈ks,0<=Jdo ws wt ht (k:Int))/\Q (.bool true) n
noncomputable instance:Scal Jg8:=⟨λ {as n P} h=>by obtain ⟨R,U,ws,wt,ht,k,e,h1,h2,h3,h4,h5,q⟩:=h;exact ⟨R,U,ws,wt,ht,k,e,h1,h2,h3,h4,h5,rfl,q⟩⟩
structure RdB (R:Int) (ws:List Way) (cs:List Int):Prop where
 ro:RoundOk R ws cs
 bd:∀ c∈cs,c.natAbs<2^8000
 ne:∃ k,0<cs.getD k 0
theorem RoundK.b {R U:Int}{ws:List Way}{ks:List Nat}{cs:List Int}(h:RoundK R U ws ks cs):RdB R ws cs:=⟨h.ro,h.bd,h.ne.imp λ _ h=>h.2⟩
def Jiu:GSp:=λ as n Q=>∃ (R U:Int) (ws:List Way) (cs:List Int),as=[.d (J2 R U ws),.d (.tuple (cs.map .int))]/\BookOk R U ws/\RdB R ws cs/\Q (.list ((rgI ws cs U).map .int)) n
noncomputable def gpI (ws:List Way) (cs:List Int) (i p:Nat):Int:=((Qf i).map λ j=>cs.getD j 0*(Jg ws (j:Nat)).g.getD p 0).sum
theorem Jm1 (ws:List Way) (cs:List Int) (i p:Nat):gpI ws cs (i+1) p=gpI ws cs i p+cs.getD i 0*(Jg ws (i:Nat)).g.getD p 0:=by
 unfold gpI
 rw [J13,Xg,J35,J2l,J5o]
theorem Jm2 {ws:List Way}{cs:List Int}(h:cs.length=ws.length) {i:Nat}{x:J8j}(hx:(Ba (cs.map .int) (ws.map Ym))[i]? = some x):i<ws.length/\x = .tuple [.int (cs.getD i 0),Ym (Jg ws (i:Int))]:=by
 unfold Ba at hx
 rw [J15] at hx
 by_cases hi:i<ws.length
 . rw [Vw (by omega),Ju5 hi] at hx
   exact ⟨hi,(Xr hx).symm⟩
 . rw [Qx (by rw [Qb];omega)] at hx
   cases hx
theorem Jq7 {xs ys:List Int}:X6 (.tuple (xs.map Qi)) (.tuple (ys.map Qi))=decide (xs=ys):=by rw [X6];exact Jj1 xs ys
def Jbl:GSp:=λ as n Q=>∃ (cs:List Int) (ks:List Nat),as=[.d (.tuple (cs.map .int)),.d (.list (ks.map Jn))]/\cs.length<=1000/\(∀ k:Nat,cs.getD k 0≠0->k∈ks)/\Q (.bool true) n
noncomputable instance:Scal Jbl:=⟨λ {as n P} h=>by obtain ⟨cs,ks,e,h1,h2,q⟩:=h;exact ⟨cs,ks,e,h1,h2,rfl,q⟩⟩
section
variable {R U:Int}{ws:List Way}{ks W:List Nat}{T:Tb.Tab}
end
noncomputable abbrev Ans:=Sum (List Int×List Int) (List Int)
section
variable {R U:Int}{ws:List Way}{ks L:List Nat}
end
section
variable {R U:Int}{ws:List Way}{ks:List Nat}{an:List Ans}
end
end My
namespace Tb
structure StepG (m n:Nat) (W:List Nat) (T:Tab) (l k:Nat):Prop where
 hl:l<m
 hk:k<n
 rise:0<T.rise m W k
 first:∀ j,j<n->0<T.rise m W j->T.f k<=T.f j
 pos:0<T.e l k
 low:∀ i,i<m->0<T.e i k->T.e l n*T.e i k<=T.e i n*T.e l k/\(T.e l n*T.e i k=T.e i n*T.e l k->T.b l<=T.b i)
def Joq (m n:Nat) (T:Tab):Prop:=∀ i,i<m->0<=T.e i n
noncomputable def Tab.obj (T:Tab) (m n:Nat) (W:List Nat):Int:=Jq m λ i=>ind W (T.b i) (T.e i n)
section
variable {m n:Nat}{c:Nat->Vec}{rhs:Vec}{T:Tab}{W:List Nat}
theorem Jlg (h:TabOk m n c rhs T) {l k i:Nat}(hl:l<m) (hk:k<n) (hp:0<T.e l k) (hi:i<m) (hil:i≠l):T.q*(T.ex l k).e i n=T.e l k*T.e i n-T.e i k*T.e l n:=by
 rw [(h.ex hl hk hp).el i hi,Jes,h.qq,Jcr h.base hl hi hil,h.en l hl k hk,h.en i hi k hk,h.el i hi,h.el l hl]
theorem Jfx (h:TabOk m n c rhs T) {l k:Nat}(hl:l<m) (hk:k<n):(T.ex l k).e l n=T.e l n:=Jk7 h hl (by omega)
theorem Jp8 (h:TabOk m n c rhs T) {l k:Nat}(s:StepG m n W T l k) (f:Joq m n T):Joq m n (T.ex l k):=λ i hi=>by
 by_cases e:i=l
 . subst e;rw [Jfx h hi s.hk];exact f i hi
 . have q:=Jlg h s.hl s.hk s.pos hi e
   have:0<=T.q*(T.ex l k).e i n:=by
    rw [q]
    rcases J14 0 (T.e i k) with z | z
    . have:=(s.low i hi z).1
      rw [Xb (T.e l k),Xb (T.e i k)];omega
    . have a:=J7u (J2q s.pos) (f i hi)
      have b:=J53 z (f l s.hl)
      omega
   rcases J14 ((T.ex l k).e i n) 0 with z | z
   . have:=Int.mul_neg_of_pos_of_neg h.qpos z
     omega
   . exact z
theorem Jyr (h:TabOk m n c rhs T) {l k:Nat}(hl:l<m) (hk:k<n) (hp:0<T.e l k):T.q*(T.ex l k).obj m n W=T.e l k*T.obj m n W+T.rise m W k*T.e l n:=by
 have e1:T.q*(T.ex l k).obj m n W=Jq m λ i=>(ind W (T.b i) (T.e l k*T.e i n-T.e i k*T.e l n))+(if i=l then ind W (T.f k) (T.q*T.e l n) else 0):=by
  unfold Tab.obj
  rw [<- Ze]
  refine Jk λ i hi=>?_
  by_cases e:i=l
  . subst e
    rw [Jcv h hi,Jfx h hi hk,Jcw,if_pos rfl]
    have:T.e i k*T.e i n-T.e i k*T.e i n=0:=by omega
    rw [this]
    have:ind W (T.b i) 0=0:=by unfold ind;split<;>rfl
    rw [this];omega
  . rw [Jgp e,Jcw,Jlg h hl hk hp hi e,if_neg e];omega
 rw [e1,Wa,Yd (f:=λ i=>if i=l then ind W (T.f k) (T.q*T.e l n) else 0) (a:=l) hl (λ i _ hne=>if_neg hne),if_pos rfl]
 have e2:(Jq m λ i=>ind W (T.b i) (T.e l k*T.e i n-T.e i k*T.e l n))=T.e l k*T.obj m n W + -((Jq m λ i=>ind W (T.b i) (T.e i k))*T.e l n):=by
  unfold Tab.obj
  rw [<- Ze,<- Jfr,<- Wb,<- Wa]
  refine Jk λ i hi=>?_
  rw [Jcw,Jk8]
  unfold ind
  split<;>omega
 rw [e2]
 unfold Tab.rise
 rw [J4c,Jk8]
 omega
theorem Jor {T T':Tab}{l k l' k':Nat}(h:TabOk m n c rhs T) (h':TabOk m n c rhs T') (p:∀ g,T'.tot m n g=T.tot m n g) (s:StepG m n W T l k) (s':StepG m n W T' l' k')
 (out:T.b l=T'.f k') (e1:T.f k<T.b l) (mid:∀ i j,i<m->j<n->T.b i=T'.f j->T.b i<=T.b l/\T.e i n=0):False:=by
 have sol':Sol m n c T' (T.dir m k):=Jyf p (Jg2 h s.hk)
 have w:=Jd0 (W:=W) h s.hk
 have w':=Jif (W:=W) h' sol'
 rw [p,w] at w'
 have pos:0<T'.q*T.rise m W k:=J54 h'.qpos s.rise
 rw [w'] at pos
 obtain ⟨j,hj,hp⟩:=Vk pos
 have nz:T.dir m k (T'.f j)≠0:=λ z=>by rw [z,Xl] at hp;exact absurd hp (by decide)
 have neg_of:∀ {a b:Int},0<a*b->a<=0->b<0:=λ {a b} hab ha=>by
  rcases Int.lt_trichotomy b 0 with z | z | z
  . exact z
  . rw [z,Xl] at hab;exact absurd hab (by decide)
  . have:a*b<=0:=J53 ha (by omega)
    omega
 have pos_of:∀ {a b:Int},0<a*b->0<b->0<a:=λ {a b} hab hb=>by
  rcases J14 0 a with z | z
  . exact z
  . have:a*b<=0:=J53 z (by omega)
    omega
 by_cases ek:T'.f j=T.f k
 . rw [ek,Jpu h s.hk] at hp
   have r1:=pos_of hp h.qpos
   have:=s'.first j hj r1
   omega
 . have:∃ i,i<m/\T.b i=T'.f j:=by
    refine J2r λ no=>nz ?_
    unfold Tab.dir
    rw [if_neg ek,Jk (g:=λ _=>0) (λ i hi=>if_neg λ z=>no ⟨i,hi,z⟩),Wd];rfl
   obtain ⟨i,hi,eb⟩:=this
   rw [<- eb,Js4 h s.hk hi] at hp
   obtain ⟨le,zi⟩:=mid i j hi hj eb
   by_cases el:T.b i=T.b l
   . have il:=h.bi i l hi s.hl el
     subst il
     have jk:j=k':=h'.fi j k' hj s'.hk (by rw [<- eb,el];exact out)
     subst jk
     have:T'.rise m W j * -T.e i k<=0:=Int.mul_nonpos_of_nonneg_of_nonpos (J2q s'.rise) (by have:=s.pos;omega)
     omega
   . have r1:T'.rise m W j<=0:=by
      rcases J14 0 (T'.rise m W j) with z | z
      . have:=s'.first j hj z
        omega
      . exact z
     have:=neg_of hp r1
     have zl:T.e l n=0:=(mid l k' s.hl s'.hk out).2
     have:=(s.low i hi (by omega)).2 (by rw [zi,zl,Xs,Xs])
     omega
end
structure PathG (m n:Nat) (c:Nat->Vec) (rhs:Vec) (W:List Nat) (N:Nat) (st:Nat->Tab) (l k:Nat->Nat):Prop where
 ok:∀ t,t<=N->TabOk m n c rhs (st t)
 sp:∀ t,t<N->StepG m n W (st t) (l t) (k t)
 ex:∀ t,t<N->st (t+1)=(st t).ex (l t) (k t)
 f0:Joq m n (st 0)
section
variable {m n:Nat}{c:Nat->Vec}{rhs:Vec}{W:List Nat}{N:Nat}{st:Nat->Tab}{l k:Nat->Nat}
theorem PathG.tot (h:PathG m n c rhs W N st l k) (g:Nat->Int):∀ t,t<=N->(st t).tot m n g=(st 0).tot m n g
 | 0,_=>rfl
 | t+1,ht=>by
  rw [h.ex t (by omega),Js3 (h.ok t (by omega)) (h.sp t (by omega)).hl (h.sp t (by omega)).hk]
  exact h.tot g t (by omega)
theorem PathG.feas (h:PathG m n c rhs W N st l k):∀ t,t<=N->Joq m n (st t)
 | 0,_=>h.f0
 | t+1,ht=>by
  rw [h.ex t (by omega)]
  exact Jp8 (h.ok t (by omega)) (h.sp t (by omega)) (h.feas t (by omega))
theorem PathG.stay (h:PathG m n c rhs W N st l k) {t:Nat}(ht:t<N) {ν:Nat}:inB m (st (t+1)) ν↔(inB m (st t) ν/\ν≠(st t).b (l t))\/ν = (st t).f (k t):=by
 have o:=h.ok t (by omega)
 have s:=h.sp t ht
 rw [h.ex t ht]
 constructor
 . rintro ⟨i,hi,e⟩
   by_cases il:i=l t
   . subst il
     rw [Jcv o hi] at e
     exact .inr e.symm
   . rw [Jgp il] at e
     exact .inl ⟨⟨i,hi,e⟩,λ z=>il (o.bi i (l t) hi s.hl (by rw [e,z]))⟩
 . rintro (⟨⟨i,hi,e⟩,ne⟩ | e)
   . have il:i≠l t:=λ z=>ne (by rw [<- e,z])
     exact ⟨i,hi,by rw [Jgp il];exact e⟩
   . exact ⟨l t,s.hl,by rw [Jcv o s.hl];exact e.symm⟩
theorem PathG.leave (h:PathG m n c rhs W N st l k) {ν:Nat}:∀ (d s:Nat),s+d<=N->inB m (st s) ν->¬ inB m (st (s+d)) ν->∃ t,s<=t/\t<s+d/\(st t).b (l t) = ν
 | 0,s,_,h1,h2=>absurd h1 h2
 | d+1,s,hs,h1,h2=>by
  by_cases e:inB m (st (s+d)) ν
  . refine ⟨s+d,by omega,by omega,J2r λ z=>h2 ?_⟩
    exact (h.stay (t:=s+d) (by omega)).mpr (.inl ⟨e,λ y=>z y.symm⟩)
  . obtain ⟨t,a,b,e⟩:=h.leave d s (by omega) h1 e
    exact ⟨t,a,by omega,e⟩
theorem PathG.enter (h:PathG m n c rhs W N st l k) {ν:Nat}:∀ (d s:Nat),s+d<=N->¬ inB m (st s) ν->inB m (st (s+d)) ν->∃ t,s<=t/\t<s+d/\(st t).f (k t) = ν
 | 0,s,_,h1,h2=>absurd h2 h1
 | d+1,s,hs,h1,h2=>by
  by_cases e:inB m (st (s+d)) ν
  . obtain ⟨t,a,b,e⟩:=h.enter d s (by omega) h1 e
    exact ⟨t,a,by omega,e⟩
  . refine ⟨s+d,by omega,by omega,?_⟩
    rcases (h.stay (t:=s+d) (by omega)).mp h2 with z | z
    . exact absurd z.1 e
    . exact z.symm
theorem PathG.lv (h:PathG m n c rhs W N st l k) {s u:Nat}{ν:Nat}(hsu:s<=u) (hu:u<=N) (h1:inB m (st s) ν) (h2:¬ inB m (st u) ν):∃ t,s<=t/\t<u/\(st t).b (l t) = ν:=by
 have:=h.leave (ν:=ν) (u-s) s (by omega) h1 (by rw [show s+(u-s)=u by omega];exact h2)
 rwa [show s+(u-s)=u by omega] at this
theorem PathG.en (h:PathG m n c rhs W N st l k) {s u:Nat}{ν:Nat}(hsu:s<=u) (hu:u<=N) (h1:¬ inB m (st s) ν) (h2:inB m (st u) ν):∃ t,s<=t/\t<u/\(st t).f (k t) = ν:=by
 have:=h.enter (ν:=ν) (u-s) s (by omega) h1 (by rw [show s+(u-s)=u by omega];exact h2)
 rwa [show s+(u-s)=u by omega] at this
theorem Jal {a b c d e f:Int}(hb:0<b) (hd:0<d) (hf:0<f) (h1:a*d<=c*b) (h2:c*f<=e*d):a*f<=e*b:=by
 have a1:a*d*f<=c*b*f:=J42 h1 (J2q hf)
 have a2:c*f*b<=e*d*b:=J42 h2 (J2q hb)
 have e1:c*b*f=c*f*b:=by rw [Xq,Xb b f,<- Xq]
 have e2:a*d*f=a*f*d:=by rw [Xq,Xb d f,<- Xq]
 have e3:e*d*b=e*b*d:=by rw [Xq,Xb d b,<- Xq]
 rw [e1] at a1
 have a3:=Int.le_trans a1 a2
 rw [e2,e3] at a3
 exact Int.le_of_mul_le_mul_right a3 hd
theorem PathG.up1 (h:PathG m n c rhs W N st l k) {t:Nat}(ht:t<N):(st (t+1)).q=(st t).e (l t) (k t)/\(st t).q*(st (t+1)).obj m n W=(st (t+1)).q*(st t).obj m n W+(st t).rise m W (k t)*(st t).e (l t) n:=by
 have s:=h.sp t ht
 have e:=Jyr (W:=W) (h.ok t (by omega)) s.hl s.hk s.pos
 rw [h.ex t ht]
 exact ⟨rfl,e⟩
theorem PathG.up (h:PathG m n c rhs W N st l k):∀ (d s:Nat),s+d<=N->(st s).obj m n W*(st (s+d)).q<=(st (s+d)).obj m n W*(st s).q
 | 0,s,_=>Uk _
 | d+1,s,hs=>by
  have ih:=h.up d s (by omega)
  have s1:=h.sp (s+d) (by omega)
  obtain ⟨_,e⟩:=h.up1 (t:=s+d) (by omega)
  have nn:=J7u (J2q s1.rise) (h.feas (s+d) (by omega) _ s1.hl)
  refine Jal (h.ok s (by omega)).qpos (h.ok (s+d) (by omega)).qpos (h.ok (s+(d+1)) (by omega)).qpos ih ?_
  rw [Xb ((st (s+(d+1))).obj m n W),Xb ((st (s+d)).obj m n W)]
  show (st (s+d+1)).q*_<=(st (s+d)).q*(st (s+d+1)).obj m n W
  omega
theorem Jq8 {T T':Tab}(h:TabOk m n c rhs T) (h':TabOk m n c rhs T') (e:T.bd=T'.bd):T.q=T'.q/\T.obj m n W=T'.obj m n W:=by
 refine ⟨by rw [h.qq,h'.qq,e],?_⟩
 unfold Tab.obj
 refine Jk λ i hi=>?_
 rw [h.el i hi,h'.el i hi,e]
 unfold Tab.b
 rw [e]
theorem PathG.flat (h:PathG m n c rhs W N st l k) {a b:Nat}(hb:b<=N) (same:(st a).bd=(st b).bd) {t:Nat}(h1:a<=t) (h2:t<b):(st t).e (l t) n=0:=by
 obtain ⟨eq,eo⟩:=Jq8 (W:=W) (h.ok a (by omega)) (h.ok b hb) same
 have u1:=h.up (t-a) a (by omega)
 have u2:=h.up (b-(t+1)) (t+1) (by omega)
 rw [show a+(t-a)=t by omega] at u1
 rw [show t+1+(b-(t+1))=b by omega,<- eq,<- eo] at u2
 have qt:=(h.ok t (by omega)).qpos
 have qa:=(h.ok a (by omega)).qpos
 have qn:=(h.ok (t+1) (by omega)).qpos
 obtain ⟨_,e⟩:=h.up1 (t:=t) (by omega)
 have s:=h.sp t (by omega)
 have f:=h.feas t (by omega) _ s.hl
 have u3:=Jal qn qa qt u2 u1
 rw [Xb ((st (t+1)).obj m n W),Xb ((st t).obj m n W),e] at u3
 have z:(st t).rise m W (k t)*(st t).e (l t) n<=0:=by omega
 rcases J14 0 ((st t).e (l t) n) with y | y
 . have:=J54 s.rise y
   omega
 . omega
def Jtu (m n:Nat) (T:Tab) (ν:Nat):Prop:=∀ i,i<m->T.b i = ν->T.e i n=0
theorem PathG.zero1 (h:PathG m n c rhs W N st l k) {t ν:Nat}(ht:t<N) (z:(st t).e (l t) n=0):Jtu m n (st (t+1)) ν↔Jtu m n (st t) ν:=by
 have o:=h.ok t (by omega)
 have s:=h.sp t ht
 rw [h.ex t ht]
 have q:∀ i,i<m->i≠l t->(st t).q*((st t).ex (l t) (k t)).e i n=(st t).e (l t) (k t)*(st t).e i n:=λ i hi hne=>by
  rw [Jlg o s.hl s.hk s.pos hi hne,z,Xl,J3i]
 constructor
 . intro g i hi e
   by_cases il:i=l t
   . rw [il];exact z
   . have:=q i hi il
     rw [g i hi (by rw [Jgp il];exact e),Xl] at this
     rcases J52.mp this.symm with y | y
     . have:=s.pos;omega
     . exact y
 . intro g i hi e
   by_cases il:i=l t
   . rw [il,Jfx o s.hl s.hk];exact z
   . rw [Jgp il] at e
     have:=q i hi il
     rw [g i hi e,Xl] at this
     rcases J52.mp this with y | y
     . have:=o.qpos;omega
     . exact y
theorem PathG.zeros (h:PathG m n c rhs W N st l k) {a b ν:Nat}(hb:b<=N) (same:(st a).bd=(st b).bd):∀ d,a+d<=b->(Jtu m n (st (a+d)) ν↔Jtu m n (st a) ν)
 | 0,_=>Iff.rfl
 | d+1,hd=>(h.zero1 (t:=a+d) (by omega) (h.flat hb same (by omega) (by omega))).trans (h.zeros hb same d (by omega))
theorem PathG.differ (h:PathG m n c rhs W N st l k) {a b:Nat}(hab:a<b) (hb:b<=N):(st a).bd≠(st b).bd:=by
 intro same
 have sb:∀ ν,inB m (st a) ν↔inB m (st b) ν:=λ ν=>by unfold inB Tab.b;rw [same]
 obtain ⟨t0,h1,h2,h3⟩:=Js6 (λ t=>max ((st t).b (l t)) ((st t).f (k t))) a (b-a-1)
 rw [show a+(b-a-1)+1=b by omega] at h2 h3
 have top:∀ t,a<=t->t<b->(st t).b (l t)<=max ((st t0).b (l t0)) ((st t0).f (k t0))/\(st t).f (k t)<=max ((st t0).b (l t0)) ((st t0).f (k t0)):=λ t x y=>by
  have:=h3 t x y
  exact ⟨by omega,by omega⟩
 have inl:∀ t,t<N->inB m (st t) ((st t).b (l t)):=λ t ht=>⟨l t,(h.sp t ht).hl,rfl⟩
 have notf:∀ t,t<N->¬ inB m (st t) ((st t).f (k t)):=λ t ht ⟨i,hi,e⟩=>(h.ok t (by omega)).ne i (k t) hi (h.sp t ht).hk e
 have outl:∀ t,t<N->¬ inB m (st (t+1)) ((st t).b (l t)):=λ t ht z=>by
  rcases (h.stay ht).mp z with z | z
  . exact z.2 rfl
  . exact (h.ok t (by omega)).ne (l t) (k t) (h.sp t ht).hl (h.sp t ht).hk z
 have inf:∀ t,t<N->inB m (st (t+1)) ((st t).f (k t)):=λ t ht=>(h.stay ht).mpr (.inr rfl)
 generalize hτ:max ((st t0).b (l t0)) ((st t0).f (k t0)) = τ at top
 have both:(∃ t1,a<=t1/\t1<b/\(st t1).b (l t1) = τ)/\∃ t2,a<=t2/\t2<b/\(st t2).f (k t2) = τ:=by
  rcases J5e ((st t0).b (l t0)) ((st t0).f (k t0)) with z | z
  . have e:(st t0).f (k t0) = τ:=by omega
    refine ⟨?_,t0,h1,h2,e⟩
    by_cases q:inB m (st b) τ
    . obtain ⟨t,x,y,w⟩:=h.lv (s:=a) (u:=t0) h1 (by omega) ((sb τ).mpr q) (by rw [<- e];exact notf t0 (by omega))
      exact ⟨t,x,by omega,w⟩
    . obtain ⟨t,x,y,w⟩:=h.lv (s:=t0+1) (u:=b) (by omega) hb (by rw [<- e];exact inf t0 (by omega)) q
      exact ⟨t,by omega,y,w⟩
  . have e:(st t0).b (l t0) = τ:=by omega
    refine ⟨⟨t0,h1,h2,e⟩,?_⟩
    by_cases q:inB m (st b) τ
    . obtain ⟨t,x,y,w⟩:=h.en (s:=t0+1) (u:=b) (by omega) hb (by rw [<- e];exact outl t0 (by omega)) q
      exact ⟨t,by omega,y,w⟩
    . obtain ⟨t,x,y,w⟩:=h.en (s:=a) (u:=t0) h1 (by omega) (λ z=>q ((sb τ).mp z)) (by rw [<- e];exact inl t0 (by omega))
      exact ⟨t,x,by omega,w⟩
 obtain ⟨⟨t1,x1,y1,w1⟩,t2,x2,y2,w2⟩:=both
 have o1:=h.ok t1 (by omega)
 have s1:=h.sp t1 (by omega)
 refine Jor o1 (h.ok t2 (by omega)) (λ g=>by rw [h.tot g t2 (by omega),h.tot g t1 (by omega)]) s1 (h.sp t2 (by omega)) (by rw [w1,w2]) ?_ λ i j hi hj e=>?_
 . have:=(top t1 x1 y1).2
   have:=o1.ne (l t1) (k t1) s1.hl s1.hk
   omega
 . rw [w1]
   have b1:inB m (st t1) ((st t1).b i):=⟨i,hi,rfl⟩
   have b2:¬ inB m (st t2) ((st t1).b i):=λ ⟨i',hi',e'⟩=>(h.ok t2 (by omega)).ne i' j hi' hj (by rw [e',e])
   have z2:Jtu m n (st t2) ((st t1).b i):=λ i' hi' e'=>absurd ⟨i',hi',e'⟩ b2
   have y1':=h.zeros (ν:=(st t1).b i) hb same (t1-a) (by omega)
   have y2':=h.zeros (ν:=(st t1).b i) hb same (t2-a) (by omega)
   rw [show a+(t1-a)=t1 by omega] at y1'
   rw [show a+(t2-a)=t2 by omega] at y2'
   refine ⟨?_,y1'.mpr (y2'.mp z2) i hi rfl⟩
   rcases Uq t1 t2 with z | z
   . obtain ⟨t,x,y,w⟩:=h.lv (Um z) (by omega) b1 b2
     rw [<- w];exact (top t (by omega) (by omega)).1
   . obtain ⟨t,x,y,w⟩:=h.en z (by omega) b2 b1
     rw [<- w];exact (top t (by omega) (by omega)).2
theorem PathG.bound {K:Nat}(h:PathG m n c rhs W N st l k) (hK:∀ t,t<=N->∀ x∈(st t).bd,x<K):N<K^m:=by
 have nd:((Qf (N+1)).map λ t=>B1 K (st t).bd).Nodup:=by
  rw [List.Nodup,J5q]
  refine J7e ?_ List.pairwise_lt_range
  intro a b ha hb hab e
  have ha:=Q5.mp ha
  have hb:=Q5.mp hb
  exact h.differ hab (by omega) (Jmn (by rw [(h.ok a (by omega)).lb,(h.ok b (by omega)).lb]) (hK a (by omega)) (hK b (by omega)) e)
 have:=My.nodup_le (K^m) _ nd λ x hx=>by
  obtain ⟨t,ht,rfl⟩:=Qo.mp hx
  have ht:=Q5.mp ht
  have:=Jpv (hK t (by omega))
  rwa [(h.ok t (by omega)).lb] at this
 rw [Qb,Qw] at this
 omega
end
end Tb
namespace My
open L2
section
variable {m n be:Nat}{c:Nat->Tb.Vec}{rhs:Tb.Vec}{T:Tb.Tab}{W:List Nat}
structure SmallG (m:Nat) (c:Nat->Tb.Vec) (rhs:Tb.Vec):Prop where
 c:∀ ν r,r<m->(c ν r).natAbs<=100
 r:∀ r,r<m->(rhs r).natAbs<=10^100
 nn:∀ r,r<m->0<=rhs r
theorem Jos (hm:m<=18):m*(10^100*Tb.Jer 100 m)<2^4000:=by
 have h1:=Jin 100 (by decide) m (18-m)
 rw [show m+(18-m)=18 by omega] at h1
 exact Ug (J4d hm (J5d _ h1)) (by decide +kernel)
theorem Jgk (S:SmallG m c rhs) (h:Tb.TabOk m n c rhs T) {i:Nat}{v:Tb.Vec}(hv:∀ r,r<m->(v r).natAbs<=100):(Tb.cr m (T.bd.map c) i v).natAbs<=Tb.Jer 100 m:=by
 unfold Tb.cr
 refine Tb.Jmm m _ (by rw [Qq,Qb,h.lb]) λ j hj r hr=>?_
 unfold Tb.atV
 have hl:j<(T.bd.map c).length:=by rw [Qb,h.lb];exact hj
 by_cases e:i=j
 . subst e
   rw [Tb.Zv hl]
   exact hv r hr
 . rw [Tb.Z7 e]
   have:=Tb.at_map (c:=c) (l:=T.bd) (i:=j) (by rw [h.lb];exact hj)
   unfold Tb.atV at this
   rw [this]
   exact S.c _ r hr
theorem Jtv (h:Tb.TabOk m n c rhs T) {i:Nat}(hi:i<m) (v:Tb.Vec):Tb.cr m (T.bd.map c) i v=Tb.Jq m λ s=>v s*Tb.cr m (T.bd.map c) i (Tb.Z6 s):=by
 have hB:=h.base.len
 rw [<- Tb.Jib hB hi]
 refine Tb.Jcq hB hi λ r hr=>?_
 rw [Tb.Yd (a:=r) hr λ s _ hne=>?_]
 . have:Tb.Z6 r r=1:=if_pos rfl
   rw [this,J2x]
 . have:Tb.Z6 s r=0:=if_neg (Qj hne)
   rw [this,Xl]
theorem Jm3 (S:SmallG m c rhs) (h:Tb.TabOk m n c rhs T) {i:Nat}(hi:i<m):(Tb.cr m (T.bd.map c) i rhs).natAbs<=m*(10^100*Tb.Jer 100 m):=by
 rw [Jtv h hi]
 refine Tb.Jic λ s hs=>?_
 rw [J2p]
 refine J4d (S.r s hs) (Jgk S h λ r _=>?_)
 unfold Tb.Z6
 split<;>decide
theorem Jbm (S:SmallG m c rhs) (h:Tb.TabOk m n c rhs T) (hm:m<=18) (hn:n<=100):Shape m n T:=by
 have fs:=Jj3 hm
 refine ⟨h.lb,h.lf,h.lr,h.lw,by omega,hn,λ r hr x hx=>?_,h.qpos,?_⟩
 . obtain ⟨i,hi⟩:=Uj.mp hr
   obtain ⟨j,hj⟩:=Uj.mp hx
   have il:=(Qs.mp hi).1
   rw [h.lr] at il
   have er:T.row i=r:=by unfold Tb.Tab.row;rw [Qd,hi];rfl
   have jl:=(Qs.mp hj).1
   rw [<- er,h.lw i il] at jl
   have ex:T.e i j=x:=by unfold Tb.Tab.e;rw [er,Qd,hj];rfl
   rw [<- ex]
   by_cases z:j<n
   . rw [h.en i il j z]
     exact Ug (Jgk S h λ r hr=>S.c _ r hr) fs
   . rw [show j=n by omega,h.el i il]
     exact Ug (Jm3 S h il) (Jos hm)
 . have:T.q.natAbs<=Tb.Jer 100 m:=by
    rw [h.qq]
    refine Tb.Jmm m _ (by rw [Qb,h.lb]) λ j hj r hr=>?_
    rw [Tb.at_map (by rw [h.lb];exact hj)]
    exact S.c _ r hr
   have q0:=h.qpos
   have:T.q.natAbs<2^4000:=Ug this fs
   have e:((T.q.natAbs:Nat):Int)=T.q:=Uy (by omega)
   rw [<- e]
   exact_mod_cast this
end
section
variable {T:Tb.Tab}{n k:Nat}
theorem Jm4:∀ {i l:Nat},rf T n k i=some l->0<T.e l k/\∀ j,j<i->0<T.e j k->T.e l n*T.e j k<=T.e j n*T.e l k/\(T.e l n*T.e j k=T.e j n*T.e l k->T.b l<=T.b j)
 | 0,l,h=>by cases h
 | i+1,l,h=>by
  rw [rf] at h
  cases e:rf T n k i with
  | none=>
   rw [e] at h
   simp only at h
   split at h
   . rename_i c
     cases h
     refine ⟨c,λ j hj hp=>?_⟩
     by_cases y:j=i
     . rw [y];exact ⟨Uk _,λ _=>Qm _⟩
     . have:=Jld e j (by omega)
       omega
   . cases h
  | some o=>
   rw [e] at h
   simp only at h
   obtain ⟨p1,p2⟩:=Jm4 (i:=i) e
   split at h
   . rename_i c
     cases h
     obtain ⟨c0,c1⟩:=c
     unfold Jii at c1
     simp only [J3f,Ua,decide_eq_true_eq] at c1
     refine ⟨c0,λ j hj hp=>?_⟩
     by_cases y:j=i
     . rw [y];exact ⟨Uk _,λ _=>Qm _⟩
     . obtain ⟨g1,g2⟩:=p2 j (by omega) hp
       have h1:T.e i n*T.e o k<=T.e o n*T.e i k:=by omega
       refine ⟨Tb.Jal c0 p1 hp h1 g1,λ eq=>?_⟩
       have r1:T.e o n*T.e i k<=T.e i n*T.e o k:=Tb.Jal p1 hp c0 g1 (Int.le_of_eq eq.symm)
       have r2:T.e j n*T.e o k<=T.e o n*T.e j k:=Tb.Jal hp c0 p1 (Int.le_of_eq eq.symm) h1
       have:=g2 (by omega)
       omega
   . rename_i c
     cases h
     refine ⟨p1,λ j hj hp=>?_⟩
     by_cases y:j=i
     . rw [y] at hp ⊢
       unfold Jii at c
       simp only [J3f,Ua,decide_eq_true_eq] at c
       have c1:¬ (T.e i n*T.e l k<T.e l n*T.e i k\/(T.e i n*T.e l k=T.e l n*T.e i k/\T.b i<T.b l)):=λ z=>c ⟨hp,z⟩
       have c2:¬ T.e i n*T.e l k<T.e l n*T.e i k:=λ z=>c1 (.inl z)
       refine ⟨by omega,λ eq=>?_⟩
       rcases Uq (T.b i) (T.b l) with q | q
       . exact absurd (.inr ⟨eq.symm,q⟩) c1
       . exact q
     . exact p2 j (by omega) hp
theorem Jtw {m:Nat}{W:List Nat}{l:Nat}(hk:k<n) (hr:0<T.rise m W k) (hf:∀ j,j<n->0<T.rise m W j->T.f k<=T.f j) (hl:rf T n k m=some l):Tb.StepG m n W T l k:=by
 obtain ⟨p1,p2⟩:=Jm4 hl
 exact ⟨Jtg k hl,hk,hr,hf,p1,p2⟩
end
theorem Jot {m n:Nat}{c:Nat->Tb.Vec}{rhs:Tb.Vec}{W:List Nat}{N:Nat}{st:Nat->Tb.Tab}{l k:Nat->Nat}(h:Tb.PathG m n c rhs W N st l k) {l' k':Nat}(s:Tb.StepG m n W (st N) l' k'):∃ st' l2 k2,Tb.PathG m n c rhs W (N+1) st' l2 k2/\st' (N+1)=(st N).ex l' k'/\∀ t,t<=N->st' t=st t:=by
 refine ⟨λ t=>if t<=N then st t else (st N).ex l' k',λ t=>if t<N then l t else l',λ t=>if t<N then k t else k',⟨λ t ht=>?_,λ t ht=>?_,λ t ht=>?_,?_⟩,?_,λ t ht=>if_pos ht⟩
 . by_cases z:t<=N
   . simp only [if_pos z];exact h.ok t z
   . simp only [if_neg z];exact (h.ok N (Qm _)).ex s.hl s.hk s.pos
 . by_cases z:t<N
   . simp only [if_pos z,if_pos (Um z)];exact h.sp t z
   . have e:t=N:=by omega
     subst e
     simp only [if_neg (Q4 _),if_pos (Qm _)];exact s
 . by_cases z:t<N
   . simp only [if_pos z,if_pos (Um z),if_pos (show t+1<=N by omega)];exact h.ex t z
   . have e:t=N:=by omega
     subst e
     simp only [if_neg (Q4 _),if_pos (Qm _),if_neg (show ¬ t+1<=t by omega)]
 . simp only [if_pos (Xu N)];exact h.f0
 . simp only [if_neg (show ¬ N+1<=N by omega)]
theorem Jq9 {m n:Nat}{c:Nat->Tb.Vec}{rhs:Tb.Vec}{W:List Nat}{T:Tb.Tab}(h:Tb.TabOk m n c rhs T) (f:Tb.Joq m n T):Tb.PathG m n c rhs W 0 (λ _=>T) (λ _=>0) (λ _=>0):=⟨λ _ _=>h,λ t ht=>by omega,λ t ht=>by omega,f⟩
structure KeptG (m n be:Nat) (c:Nat->Tb.Vec) (rhs:Tb.Vec) (T0 T:Tb.Tab):Prop where
 ok:Tb.TabOk m n c rhs T
 nm:Names m n be T
 tot:∀ g,T.tot m n g=T0.tot m n g
 fe:Tb.Joq m n T
def Jg9 (C:Addr):Sp:=λ vs H Q _=>∃ (ex:List Addr) (p fa ba:Addr) (nw nr be m n:Nat) (c:Nat->Tb.Vec) (rhs:Tb.Vec) (T:Tb.Tab) (W some:List Nat) (wv:V),vs=[.ref p,wv]/\TabH C ex p fa ba ⟨(nw:Int),(nr:Int),(be:Int)⟩ T H/\Rep (p::fa::ba::ex) H (.list (W.map Jn)) wv/\SmallG m c rhs/\m<=18/\n<=100/\nw<=be/\be<=1000/\KeptG m n be c rhs T T/\Fit nw m n c some T /\
 (∀ (H':Hp) (T':Tb.Tab) (k:Nat) (v:V),TabH C ex p fa ba ⟨(nw:Int),(nr:Int),(be:Int)⟩ T' H'->KeptG m n be c rhs T T'->Tb.Ray m n W T' k->Kp [p,fa,ba] H H'->Rep ex H' (.tuple (((Qf nw).map (T'.dir m k)).map λ x=>.int (x/((Zi ((Qf nw).map (T'.dir m k)):Nat):Int)))) v->Q v H') /\
 (∀ (H':Hp) (T':Tb.Tab),TabH C ex p fa ba ⟨(nw:Int),(nr:Int),(be:Int)⟩ T' H'->KeptG m n be c rhs T T'->Tb.Last m n W T'->Kp [p,fa,ba] H H'->Q .non H')
theorem Jm5 {m n be:Nat}{c:Nat->Tb.Vec}{rhs:Tb.Vec}{T0 T:Tb.Tab}{W:List Nat}{l k:Nat}(h:KeptG m n be c rhs T0 T) (s:Tb.StepG m n W T l k):KeptG m n be c rhs T0 (T.ex l k):=
 ⟨h.ok.ex s.hl s.hk s.pos,Jtj h.ok h.nm s.hl s.hk s.pos,λ g=>by rw [Tb.Js3 h.ok s.hl s.hk];exact h.tot g,Tb.Jp8 h.ok s h.fe⟩
structure TurnG (C:Addr) (ex:List Addr) (p fa ba:Addr) (z:Siz) (m n be:Nat) (c:Nat->Tb.Vec) (rhs:Tb.Vec) (W:List Nat) (T0:Tb.Tab) (H0:Hp) (wv:V) (N:Nat) (T:Tb.Tab) (H:Hp):Prop where
 h:TabH C ex p fa ba z T H
 k:KeptG m n be c rhs T0 T
 kp:Kp [p,fa,ba] H0 H
 w:Rep (p::fa::ba::ex) H (.list (W.map Jn)) wv
 path:∃ st l k,Tb.PathG m n c rhs W N st l k/\st N=T/\∀ t,t<=N->Names m n be (st t)
theorem TurnG.few {C p fa ba:Addr}{ex:List Addr}{z:Siz}{m n be N:Nat}{c:Nat->Tb.Vec}{rhs:Tb.Vec}{W:List Nat}{T0 T:Tb.Tab}{H0 H:Hp}{wv:V}(t:TurnG C ex p fa ba z m n be c rhs W T0 H0 wv N T H):N<be^m:=by
 obtain ⟨st,l,k,hp,_,hn⟩:=t.path
 refine hp.bound λ s hs x hx=>?_
 obtain ⟨i,hi⟩:=Uj.mp hx
 have lt:=(Qs.mp hi).1
 rw [(hp.ok s hs).lb] at lt
 have:=(hn s hs).bl i lt
 unfold Tb.Tab.b at this
 rwa [Qd,hi] at this
theorem TurnG.next {C p fa ba:Addr}{ex:List Addr}{z:Siz}{m n be N l k:Nat}{c:Nat->Tb.Vec}{rhs:Tb.Vec}{W:List Nat}{T0 T:Tb.Tab}{H0 H H':Hp}{wv:V}(t:TurnG C ex p fa ba z m n be c rhs W T0 H0 wv N T H) (s:Tb.StepG m n W T l k) (h':TabH C ex p fa ba z (T.ex l k) H') (k':Kp [p,fa,ba] H H'):TurnG C ex p fa ba z m n be c rhs W T0 H0 wv (N+1) (T.ex l k) H':=by
 obtain ⟨st,l1,k1,hp,e,hn⟩:=t.path
 subst e
 obtain ⟨st',l2,k2,hp',e',same⟩:=Jot hp s
 refine ⟨h',Jm5 t.k s,t.kp.trans k',t.w.keep (k'.mono λ b hb=>by simp only [Qh,X4,or_false] at hb ⊢;rcases hb with h | h | h<;>simp [h]),st',l2,k2,hp',e',λ u hu=>?_⟩
 by_cases y:u<=N
 . rw [same u y];exact hn u y
 . rw [show u=N+1 by omega,e']
   exact (Jm5 t.k s).nm
theorem Jgl {E:XK}{C p fa ba:Addr}{ex:List Addr}{z:Siz}{m n be N:Nat}{c:Nat->Tb.Vec}{rhs:Tb.Vec}{W:List Nat}{T0 T:Tb.Tab}{H0 H:Hp}{wv:V}{σ:L2.St}{Q:VK}(S:SmallG m c rhs) (hm:m<=18) (hn:n<=100) (t:TurnG C ex p fa ba z m n be c rhs W T0 H0 wv N T H) (s0:σ[0]? = some (some (.ref p))) (s1:σ[1]? = some (some wv))
 (q1:∀ (k:Nat) (H':Hp),k<n->0<T.rise m W k->(∀ j,j<n->0<T.rise m W j->T.f k<=T.f j)->Kp [] H H'->Q (Y4 k) H') (q2:∀ H',Tb.Last m n W T->Kp [] H H'->Q .non H'):Jga C "place_to_raise" (Jm (Jdf C)) [] E (Z8 0) (Yp (Z8 1) Jbd) σ H Q:=by
 have sh:=Jbm S t.k.ok hm hn
 have hs:sizeLine=16777216:=J8p
 obtain ⟨dx,rv,h1,h2⟩:=t.h.o
 refine ⟨_,s0,p,dx,_,rfl,h1,rfl,_,s1,?_⟩
 show Jm (Jdf C) [.ref p,wv] H Q E
 refine Jew (sp:=Jdf C) (E:=E) (vs:=[wv]) (as:=[.d (.list (W.map Jn))]) t.h (by rw [sh.lf];omega) (by rw [sh.lb];omega) ⟨⟨_,rfl,Rep.sub (Rep.sub (Rep.sub t.w))⟩,trivial⟩ (P:=λ d _=>(∃ k,d=Jn k/\k<n/\0<T.rise m W k/\∀ j,j<n->0<T.rise m W j->T.f k<=T.f j)\/(d = .none/\Tb.Last m n W T)) ⟨z,T,m,n,W,rfl,sh,t.k.ok.fi,λ k a b c=>.inl ⟨k,rfl,a,b,c⟩,λ h=>.inr ⟨rfl,⟨h⟩⟩⟩ λ d n' v H' hp kp r=>?_
 rcases hp with ⟨k,rfl,a,b,c⟩ | ⟨rfl,h⟩
 . cases r
   exact q1 k H' a b c kp
 . cases r
   exact q2 H' h kp
theorem Jou {E:XK}{C p fa ba:Addr}{ex:List Addr}{z:Siz}{m n be N k:Nat}{c:Nat->Tb.Vec}{rhs:Tb.Vec}{W:List Nat}{T0 T:Tb.Tab}{H0 H:Hp}{wv:V}{σ:L2.St}{Q:VK}(S:SmallG m c rhs) (hm:m<=18) (hn:n<=100) (t:TurnG C ex p fa ba z m n be c rhs W T0 H0 wv N T H) (s0:σ[0]? = some (some (.ref p))) (s2:σ[2]? = some (some (Y4 k))) (hk:k<n)
 (q1:∀ (l:Nat) (H':Hp),rf T n k m=some l->Kp [] H H'->Q (Y4 l) H') (q2:∀ H',rf T n k m=none->Kp [] H H'->Q .non H'):Jga C "row_to_free" (Jm (Jft C)) [] E (Z8 0) (Yp (Z8 2) Jbd) σ H Q:=by
 have sh:=Jbm S t.k.ok hm hn
 have hs:sizeLine=16777216:=J8p
 obtain ⟨dx,rv,h1,h2⟩:=t.h.o
 refine ⟨_,s0,p,dx,_,rfl,h1,rfl,_,s2,?_⟩
 show Jm (Jft C) [.ref p,Y4 k] H Q E
 refine Jew (sp:=Jft C) (E:=E) (vs:=[Y4 k]) (as:=[.d (Jn k)]) t.h (by rw [sh.lf];omega) (by rw [sh.lb];omega) ⟨⟨_,rfl,.int _⟩,trivial⟩ (P:=λ d _=>d=Jyh (rf T n k m)) ⟨z,T,m,n,k,rfl,sh,hk,rfl⟩ λ d n' v H' hp kp r=>?_
 subst hp
 cases e:rf T n k m with
 | none=>
  rw [e] at r
  cases r
  exact q2 H' e kp
 | some l=>
  rw [e] at r
  cases r
  exact q1 l H' e kp
theorem TurnG.keep {C p fa ba:Addr}{ex:List Addr}{z:Siz}{m n be N:Nat}{c:Nat->Tb.Vec}{rhs:Tb.Vec}{W:List Nat}{T0 T:Tb.Tab}{H0 H H':Hp}{wv:V}(t:TurnG C ex p fa ba z m n be c rhs W T0 H0 wv N T H) (k:Kp [] H H'):TurnG C ex p fa ba z m n be c rhs W T0 H0 wv N T H':=
 ⟨t.h.keep k,t.k,t.kp.trans (k.mono λ a ha=>by cases ha),t.w.keep (k.mono λ a ha=>by cases ha),t.path⟩
section
variable {m n be:Nat}{c:Nat->Tb.Vec}{rhs:Tb.Vec}{T:Tb.Tab}{W:List Nat}
noncomputable def Jdq (n:Nat) (T:Tb.Tab):Tb.Tab:=⟨T.fr,T.bd,T.rows.map λ r=>r.set n 0,T.q⟩
theorem Jiv {i:Nat}:(Jdq n T).row i=(T.row i).set n 0:=by
 show (T.rows.map λ r=>r.set n 0).getD i []=(T.rows.getD i []).set n 0
 rw [Qd,Qd,Qk]
 cases T.rows[i]? <;> rfl
theorem Jlh {i j:Nat}(h:j<n):(Jdq n T).e i j=T.e i j:=by
 unfold Tb.Tab.e
 rw [Jiv,Tb.Z7 (by omega)]
theorem Jys {i:Nat}:(Jdq n T).e i n=0:=by
 unfold Tb.Tab.e
 rw [Jiv,Qd,J16]
 split
 . split<;>rfl
 . rename_i h;exact absurd rfl h
theorem Jvs (h:Tb.TabOk m n c rhs T):Tb.TabOk m n c Jip (Jdq n T):=
 ⟨h.lb,h.lf,by show (T.rows.map _).length=m;rw [Qb];exact h.lr,λ i hi=>by rw [Jiv,Qq];exact h.lw i hi,h.base,h.qq,λ i hi j hj=>by rw [Jlh hj];exact h.en i hi j hj,λ i hi=>by
  rw [Jys]
  have:=Tb.Jia h.base.len (i:=i) hi 0 (Jip)
  rw [Xs] at this
  exact this.symm.trans (Tb.Jcq h.base.len hi λ r _=>Xs (Jip r)),h.bi,h.fi,h.ne⟩
theorem Jra {j:Nat}(hj:j<n):(Jdq n T).rise m W j=T.rise m W j:=by
 unfold Tb.Tab.rise
 rw [Tb.Jk (g:=λ i=>Tb.ind W (T.b i) (T.e i j)) λ i _=>by rw [Jlh hj];rfl]
 rfl
theorem Jtx {k ν:Nat}(hk:k<n):(Jdq n T).dir m k ν = T.dir m k ν:=by
 unfold Tb.Tab.dir
 rw [Tb.Jk (g:=λ i=>if T.b i = ν then T.e i k else 0) λ i _=>by rw [Jlh hk];rfl]
 rfl
theorem Jty {k:Nat}(r:Tb.Ray m n W T k):Tb.Ray m n W (Jdq n T) k:=⟨r.hk,by rw [Jra r.hk];exact r.rise,λ i hi=>by rw [Jlh r.hk];exact r.no i hi⟩
noncomputable def Yk (T:Tb.Tab) (n i ν:Nat):Int:=Tb.Jq i λ i=>if T.b i = ν then T.e i n else 0
noncomputable def Jgr (T:Tb.Tab) (be n i:Nat):List Int:=(Qf be).map (Yk T n i)
theorem Jc0 {i:Nat}:(Jgr T be n i).length=be:=by unfold Jgr;rw [Qb,Qw]
theorem Jiw {i ν:Nat}(h:ν < be):(Jgr T be n i)[ν]? = some (Yk T n i ν):=by unfold Jgr;rw [Qk,Xi h];rfl
theorem Jrb:Qp be (0:Int)=Jgr T be n 0:=by
 apply Xv
 intro i
 by_cases hi:i<be
 . rw [Jiw hi,U4,if_pos hi];rfl
 . rw [Qx (by rw [X3];omega),Qx (by rw [Jc0];omega)]
theorem Jw0 (N:Names m n be T) {i:Nat}(hi:i<m):Yk T n m (T.b i)=T.e i n:=by
 unfold Yk
 rw [Tb.Yd (a:=i) hi λ j hj hne=>if_neg λ e=>hne (N.bi j i hj hi e),if_pos rfl]
theorem Jyt (N:Names m n be T) {i:Nat}(hi:i<m):∀ c,c<=i->Yk T n c (T.b i)=0:=λ c hc=>by
 unfold Yk
 exact Wr λ j hj=>if_neg λ e=>by have:=N.bi j i (by omega) hi e;omega
theorem Jli {ν:Nat}(h:∀ i,i<m->T.b i≠ν):Yk T n m ν = 0:=Wr λ i hi=>if_neg (h i hi)
theorem J0m (N:Names m n be T) {j:Nat}(hj:j<n):Yk T n m (T.f j)=0:=Jli λ i hi=>N.ne i j hi hj
theorem Jrc (N:Names m n be T) {i:Nat}(hi:i<m):(Jgr T be n i).set (T.b i) (T.e i n)=Jgr T be n (i+1):=by
 apply Xv
 intro ν
 by_cases hν:ν < be
 . rw [Jiw hν,J16,Jc0,Jiw hν]
   have st:Yk T n (i+1) ν = Yk T n i ν + (if T.b i = ν then T.e i n else 0):=rfl
   rw [st]
   by_cases e:T.b i = ν
   . rw [if_pos e,if_pos e,if_pos (N.bl i hi),<- e,Jyt N hi i (Qm _)]
     congr 1
     omega
   . rw [if_neg e,if_neg e,J2n]
 . rw [Qx (by rw [Qq,Jc0];omega),Qx (by rw [Jc0];omega)]
theorem Jyu (f:Tb.Joq m n T) (ν:Nat):0<=Yk T n m ν:=by
 unfold Yk
 have:∀ M,M<=m->0<=Tb.Jq M (λ i=>if T.b i = ν then T.e i n else 0):=by
  intro M
  induction M with
  | zero=>intro _;exact Uk _
  | succ M ih=>
   intro hM
   have a:=ih (by omega)
   have b:0<=(if T.b M = ν then T.e M n else 0):=by
    split
    . exact f M (by omega)
    . exact Uk _
   show 0<=Tb.Jq M (λ i=>if T.b i = ν then T.e i n else 0)+(if T.b M = ν then T.e M n else 0)
   omega
 exact this m (Qm _)
theorem Jrd (sh:Shape m n T) (N:Names m n be T) (ν:Nat):(Yk T n m ν).natAbs<2^4000:=by
 by_cases h:∃ i,i<m/\T.b i = ν
 . obtain ⟨i,hi,rfl⟩:=h
   rw [Jw0 N hi]
   exact Jir sh hi (Qm _)
 . rw [Jli λ i hi e=>h ⟨i,hi,e⟩]
   exact J3j _
theorem J0n (h:Tb.TabOk m n c rhs T):T.L m c W rhs=T.obj m n W:=by
 unfold Tb.Tab.L Tb.Tab.obj
 exact Tb.Jk λ i hi=>by rw [h.el i hi]
theorem Jvt (N:Names m n be T) {k:Nat}:T.obj m n [k]=Yk T n m k:=by
 unfold Tb.Tab.obj Yk
 refine Tb.Jk λ i _=>?_
 unfold Tb.ind
 simp only [Qu]
theorem Jvu (h:Tb.TabOk m n c rhs T) (N:Names m n be T) {r:Nat}(hr:r<m):T.q*rhs r=T.tot m n λ ν=>Yk T n m ν * c ν r:=by
 rw [h.qq,h.base.cra rhs r hr]
 unfold Tb.Tab.tot
 rw [Wr (n:=n) (f:=λ j=>(λ ν=>Yk T n m ν * c ν r) (T.f j)) λ j hj=>by show Yk T n m (T.f j)*_=0;rw [J0m N hj,Xs],J2n]
 exact Tb.Jk λ i hi=>by show _=Yk T n m (T.b i)*c (T.b i) r;rw [Jw0 N hi,h.at_b hi,h.el i hi]
end
structure SdOk (R U room:Int) (nums:List Int):Prop where
 a0:0<=room
 a1:room<R
 len:(nums.length:Int)=U
 nn:∀ x∈nums,0<=x
 bd:∀ x∈nums,x<=10^99
noncomputable def rhS (U room:Int) (nums:List Int):Tb.Vec:=λ r=>if (r:Int)<U then nums.getD r 0 else if (r:Int)-U=room then 1 else 0
noncomputable def Jdl (R U:Int) (ws:List Way) (room:Int) (nums:List Int) (ks:List Nat):Tb.Tab:=Tb.Bc ws.length (U+R).toNat (Zf U ws) (rhS U room nums) ks
structure ToldG (R U:Int) (ws:List Way) (room:Int) (nums:List Int) (ks:List Nat) (T:Tb.Tab):Prop where
 ok:BookOk R U ws
 sd:SdOk R U room nums
 kept:KeptG (U+R).toNat ks.length (ws.length+(U+R).toNat) (Zf U ws) (rhS U room nums) (Jdl R U ws room nums ks) T
 nd:ks.Nodup
 lt:∀ k∈ks,k<ws.length
section
variable {R U:Int}{ws:List Way}{room:Int}{nums:List Int}{ks W:List Nat}{T T':Tb.Tab}
theorem Jov (s:SdOk R U room nums) (r:Nat):0<=rhS U room nums r:=by
 unfold rhS
 split
 . rename_i h
   have:=s.len
   have hr:r<nums.length:=by omega
   rw [Qd,Qg hr]
   exact s.nn _ (Q8 hr)
 . split<;>decide
theorem Jp9 (ok:BookOk R U ws) (s:SdOk R U room nums):SmallG (U+R).toNat (Zf U ws) (rhS U room nums):=by
 refine ⟨(Jit ok).c,λ r _=>?_,λ r _=>Jov s r⟩
 have h0:=Jov s r
 have h1:rhS U room nums r<=10^99:=by
  unfold rhS
  split
  . rename_i h
    have:=s.len
    have hr:r<nums.length:=by omega
    rw [Qd,Qg hr]
    exact s.bd _ (Q8 hr)
  . split<;>decide
 have h2:(10:Int)^99<=((10^100:Nat):Int):=by decide
 omega
theorem Jow (ok:BookOk R U ws) (s:SdOk R U room nums) (nd:ks.Nodup) (lt:∀ k∈ks,k<ws.length):ToldG R U ws room nums ks (Jdl R U ws room nums ks):=by
 have tk:Tb.TabOk (U+R).toNat ks.length (Zf U ws) (rhS U room nums) (Jdl R U ws room nums ks):=Tb.Js7 (W1 _) nd lt
 refine ⟨ok,s,⟨tk,?_,λ _=>rfl,λ i hi=>?_⟩,nd,lt⟩
 . refine Jms tk (λ i hi=>?_) (λ j hj=>?_)
   . show (Tb.Bc _ _ _ _ _).b i<_
     rw [Tb.Jet hi];omega
   . have:(Jdl R U ws room nums ks).f j=ks.getD j 0:=rfl
     rw [this]
     have:=lt _ (Jfu hj)
     omega
 . have:(Jdl R U ws room nums ks).e i ks.length=rhS U room nums i:=by
    unfold Tb.Tab.e
    rw [show (Jdl R U ws room nums ks).row i=_ from Tb.Jde hi,Qd,J1p (by rw [Qb];exact Qm _),Qb,Nat.sub_self]
    rfl
   rw [this]
   exact Jov s i
theorem ToldG.m (t:ToldG R U ws room nums ks T):(U+R).toNat<=18:=by have:=t.ok.r1;have:=t.ok.p1;omega
theorem ToldG.n (t:ToldG R U ws room nums ks T):ks.length<=100:=by have:=nodup_le _ _ t.nd t.lt;have:=t.ok.len;omega
theorem ToldG.shape (t:ToldG R U ws room nums ks T):Shape (U+R).toNat ks.length T:=Jbm (Jp9 t.ok t.sd) t.kept.ok t.m t.n
theorem ToldG.fit (t:ToldG R U ws room nums ks T):Fit ws.length (U+R).toNat ks.length (Zf U ws) ks T:=⟨W1 _,t.lt,rfl,λ g=>by rw [t.kept.tot];exact Tb.Jj2 g⟩
theorem ToldG.self (t:ToldG R U ws room nums ks T):KeptG (U+R).toNat ks.length (ws.length+(U+R).toNat) (Zf U ws) (rhS U room nums) T T:=⟨t.kept.ok,t.kept.nm,λ _=>rfl,t.kept.fe⟩
theorem ToldG.next (t:ToldG R U ws room nums ks T) (k:KeptG (U+R).toNat ks.length (ws.length+(U+R).toNat) (Zf U ws) (rhS U room nums) T T'):ToldG R U ws room nums ks T':=⟨t.ok,t.sd,⟨k.ok,k.nm,λ g=>by rw [k.tot,t.kept.tot],k.fe⟩,t.nd,t.lt⟩
theorem ToldG.z (t:ToldG R U ws room nums ks T):Told R U ws ks W (Jdq ks.length T):=⟨t.ok,⟨Jvs t.kept.ok,⟨t.kept.nm.bi,t.kept.nm.fi,t.kept.nm.ne,t.kept.nm.bl,t.kept.nm.fl⟩,λ g=>t.kept.tot g⟩,t.nd,t.lt⟩
theorem Jox {C p fa ba:Addr}{ex:List Addr}{H:Hp}{wv:V}{Q:VK}{E:XK}(t:ToldG R U ws room nums ks T) (hT:TabH C ex p fa ba (Jle R U ws) T H) (hw:Rep (p::fa::ba::ex) H (.list (W.map Jn)) wv)
 (qr:∀ H' T' k v,TabH C ex p fa ba (Jle R U ws) T' H'->ToldG R U ws room nums ks T'->Tb.Ray (U+R).toNat ks.length W T' k->Kp [p,fa,ba] H H'->Rep ex H' (.tuple ((drQ ws (U+R).toNat T' k).map .int)) v->Q v H')
 (ql:∀ H' T',TabH C ex p fa ba (Jle R U ws) T' H'->ToldG R U ws room nums ks T'->Tb.Last (U+R).toNat ks.length W T'->Kp [p,fa,ba] H H'->Q .non H'):Jg9 C [.ref p,wv] H Q E:=by
 rw [Jg7 t.ok] at hT
 have wl:=t.ok.len
 have m18:=t.m
 refine ⟨ex,p,fa,ba,ws.length,ws.length+U.toNat,ws.length+(U+R).toNat,(U+R).toNat,ks.length,Zf U ws,rhS U room nums,T,W,ks,wv,rfl,hT,hw,Jp9 t.ok t.sd,t.m,t.n,by omega,by omega,t.self,t.fit,λ H' T' k v h1 h2 h3 h4 h5=>?_,λ H' T' h1 h2 h3 h4=>?_⟩
 . refine qr H' T' k v (by rw [Jg7 t.ok];exact h1) (t.next h2) h3 h4 ?_
   unfold drQ drL
   rw [Q0]
   exact h5
 . exact ql H' T' (by rw [Jg7 t.ok];exact h1) (t.next h2) h3 h4
theorem Jtz {m n k:Nat}(hk:k<n):drQ ws m (Jdq n T) k=drQ ws m T k:=by
 unfold drQ drL
 rw [show (Jdq n T).dir m k=T.dir m k from funext λ ν=>Jtx hk]
theorem Jm6 (t:ToldG R U ws room nums ks T) {j k:Nat}(ry:Tb.Ray (U+R).toNat ks.length [k] T j) (hk:k<ws.length):RoundK R U ws ks (drQ ws (U+R).toNat T j)/\1<=(drQ ws (U+R).toNat T j).getD k 0:=by
 obtain ⟨rk,ps,_,ν,hν,_,pos⟩:=Jop (t.z (W:=[k])) (Jty ry)
 rw [Qu.mp hν] at pos
 rw [Jtz ry.hk] at rk ps
 exact ⟨rk,ps k hk pos⟩
end
noncomputable def qz (L:List Int) (x:Int):Int:=x/((Zi L:Nat):Int)
structure MostK (R U:Int) (ws:List Way) (room:Int) (nums:List Int) (ks:List Nat) (k:Nat) (n d:Int) (wt ht:List Int) (u:Int) (F:List Int) (e:Int):Prop where
 lw:(wt.length:Int)=U
 lh:(ht.length:Int)=R
 w0:∀ x∈wt,0<=x
 bw:∀ x∈wt,x.natAbs<2^4200
 h0:∀ x∈ht,0<=x
 bh:∀ x∈ht,x.natAbs<2^4200
 kp:∀ i∈ks,0<=Jdo ws wt ht (i:Nat)
 fl:u<=Jdo ws wt ht (k:Nat)
 u1:1<=u/\u.natAbs<2^4200
 d1:1<=d/\d.natAbs<2^4200
 n0:0<=n/\n.natAbs<2^4200
 gc:Xx n.natAbs d.natAbs=1
 wo:Jdv wt ht room nums*d=n*u
 e1:1<=e/\e.natAbs<2^4200
 lF:F.length=ws.length
 F0:∀ x∈F,0<=x
 bF:∀ x∈F,x.natAbs<2^4200
 sub:∀ i:Nat,F.getD i 0≠0->i∈ks
 ou:∀ r:Nat,(r:Int)<R->-(Yy ws F ws.length (r:Nat))-(if (r:Int)=room then e else 0)<=0
 nu:∀ p:Nat,(p:Int)<U->0<=e*nums.getD p 0+(Jl7 ws F p).sum
 fk:F.getD k 0*d=n*e
noncomputable def Je3 (n d:Int) (wt ht:List Int) (u:Int) (F:List Int) (e:Int):J8j:=.tuple [.str "most",.int n,.int d,Ji8 wt ht,.int u,.tuple (F.map .int),.int e]
theorem Jvv (a b:Int):Zi [a,b]=Xx a.natAbs b.natAbs:=by
 show Xx (Xx 0 a.natAbs) b.natAbs=_
 rw [J7v]
theorem Jb3 {L:List Int}{x:Int}(h:x∈L):((Zi L:Nat):Int)*qz L x=x:=by
 unfold qz
 rw [Xb]
 exact Jp0 h
theorem Jyv {a b:Int}(hb:0<b):Xx (qz [a,b] a).natAbs (qz [a,b] b).natAbs=1:=by
 have hg:0<Xx a.natAbs b.natAbs:=Nat.gcd_pos_of_pos_right _ (by omega)
 have e:∀ x:Int,x∈[a,b]->(qz [a,b] x).natAbs=x.natAbs/Xx a.natAbs b.natAbs:=λ x hx=>by
  have h1:=Jb3 hx
  rw [Jvv] at h1
  have h2:Xx a.natAbs b.natAbs*(qz [a,b] x).natAbs=x.natAbs:=by
   rw [<- h1,J2p,h1];rfl
  rw [<- h2,Nat.mul_div_cancel_left _ hg]
 rw [e a (by simp),e b (by simp)]
 exact Nat.coprime_div_gcd_div_gcd hg
theorem Jt0 {L:List Int}{x y:Int}(hy:y∈L) (y0:y≠0) (h:0<=x):0<=qz L x:=Jyq (by have:=Jb1 hy y0;omega) h
theorem Joy {L:List Int}{x:Int}(h:x∈L) (h0:0<x):1<=qz L x:=by
 have e:=Jb3 h
 have:0<((Zi L:Nat):Int)*qz L x:=by omega
 exact J51 this (by have:=Jb1 h (by omega);omega)
theorem Jbn {L:List Int}{x y:Int}{b:Nat}(hy:y∈L) (y0:y≠0) (h:x.natAbs<b):(qz L x).natAbs<b:=Jj6 (by have:=Jb1 hy y0;omega) h
section
variable {R U:Int}{ws:List Way}{room:Int}{nums:List Int}{ks:List Nat}{T:Tb.Tab}
noncomputable def Jca (ws:List Way) (m n:Nat) (T:Tb.Tab):List Int:=(Qf ws.length).map (Yk T n m)
theorem Jt1 {m n i:Nat}(h:i<ws.length):Yk T n m i∈Jca ws m n T:=Qo.mpr ⟨i,Q5.mpr h,rfl⟩
theorem Jre (t:ToldG R U ws room nums ks T) {r:Nat}(hr:r<(U+R).toNat):Yk T ks.length (U+R).toNat (ws.length+r)=T.q*rhS U room nums r-Tb.Jq ws.length λ i=>Yk T ks.length (U+R).toNat i*Zf U ws i r:=by
 have e:=Jvu t.kept.ok t.kept.nm hr
 have ze:∀ i,i<ws.length->i∉ks->Yk T ks.length (U+R).toNat i*Zf U ws i r=0:=λ i hi hn=>by
  have no:¬ Tb.inN (U+R).toNat ks.length T i:=λ z=>by
   rcases (t.fit.names (λ _=>rfl) i).mp z with ⟨s,_,e⟩ | h
   . omega
   . exact hn h
  rw [Jli λ j hj z=>no (.inl ⟨j,hj,z⟩),Xs]
 rw [t.fit.tot,Jmy t.nd t.lt (F:=λ i=>Yk T ks.length (U+R).toNat i*Zf U ws i r) ze,Tb.Yd (a:=r) hr (λ s hs hne=>?_)] at e
 . rw [(W1 (U:=U) (ws:=ws) (U+R).toNat).un r hr] at e
   have:Tb.Z6 r r=1:=if_pos rfl
   rw [this] at e
   omega
 . rw [(W1 (U:=U) (ws:=ws) (U+R).toNat).un s hs]
   have:Tb.Z6 s r=0:=if_neg (Qj hne)
   rw [this,Xl]
theorem Ja0 {f:Int->Int}{L:List Int}{i:Nat}(h:i<L.length):(L.map f).getD i 0=f (L.getD i 0):=by
 rw [Qd,Qk,Qd,Qg h];rfl
theorem Jm7 {n s:Nat}{W:List Nat}(h:s<(U+R).toNat):(shL R U ws n W T).getD s 0=T.share (U+R).toNat n W (ws.length+s):=by
 unfold shL
 rw [Qd,Qk,Xi h];rfl
theorem Jj8 {m n i:Nat}(h:i<ws.length):(Jca ws m n T).getD i 0=Yk T n m i:=by
 unfold Jca
 rw [Qd,Qk,Xi h];rfl
theorem Je4 {m n:Nat}:(Jca ws m n T).length=ws.length:=by unfold Jca;rw [Qb,Qw]
theorem Jrf (t:ToldG R U ws room nums ks T) {k:Nat}(kl:k<ws.length) {wt ht:List Int}{g:Int}(lw:(wt.length:Int)=U)
 (hw:∀ p:Nat,(p:Int)<U->g*wt.getD p 0=T.share (U+R).toNat ks.length [k] (ws.length+p)) (hh:∀ a:Nat,(a:Int)<R->g*ht.getD a 0=T.share (U+R).toNat ks.length [k] (ws.length+(U.toNat+a))):g*Jdv wt ht room nums=Yk T ks.length (U+R).toNat k:=by
 have r0:=t.ok.r0
 have p0:=t.ok.p0
 have a0:=t.sd.a0
 have a1:=t.sd.a1
 have C:=W1 (U:=U) (ws:=ws) (U+R).toNat
 have e:Tb.Jq (U+R).toNat (λ s=>rhS U room nums s*T.share (U+R).toNat ks.length [k] (ws.length+s))=Yk T ks.length (U+R).toNat k:=by
  rw [<- Jvt t.kept.nm,<- J0n t.kept.ok,Tb.Jwv t.kept.ok]
  refine Tb.Jk λ s hs=>?_
  rw [Tb.Jpx t.kept.ok ((t.fit.names (λ _=>rfl) _).mpr (.inl ⟨s,hs,rfl⟩)) (.inl (by rw [Qu];omega)),C.un s hs]
 rw [show (U+R).toNat=U.toNat+R.toNat by omega,Jd2] at e
 rw [<- show (U+R).toNat=U.toNat+R.toNat by omega] at e
 rw [<- e]
 unfold Jdv Jhn
 rw [<- Bd,J2m,<- Tb.Ze,show wt.length=U.toNat by omega,Int.add_comm]
 congr 1
 . refine Tb.Jk λ s hs=>?_
   have:rhS U room nums s=nums.getD s 0:=if_pos (by omega)
   rw [this,<- hw s (by omega),<- Xq,Xb]
 . have e3:∀ i,i<R.toNat->rhS U room nums (U.toNat+i)*T.share (U+R).toNat ks.length [k] (ws.length+(U.toNat+i))=if i=room.toNat then T.share (U+R).toNat ks.length [k] (ws.length+(U.toNat+i)) else 0:=λ i hi=>by
    unfold rhS
    rw [if_neg (by omega)]
    by_cases c:i=room.toNat
    . rw [if_pos (by omega),if_pos c,Uu]
    . rw [if_neg (by omega),if_neg c,Xs]
   rw [Tb.Jk e3,Tb.Yd (a:=room.toNat) (by omega) (λ i _ h=>if_neg h),if_pos rfl,<- hh _ (by omega)]
theorem Jw1 {a b x n d u c q:Int}(ha:0<a) (hb:0<b) (h1:a*x=c) (h2:b*n=c) (h3:b*d=q) (h4:a*u=q):x*d=n*u:=by
 have e:(a*b)*(x*d)=(a*b)*(n*u):=by
  have e1:(a*b)*(x*d)=(a*x)*(b*d):=by rw [Xq,Xq,Ut b]
  have e2:(a*b)*(n*u)=(b*n)*(a*u):=by rw [Xb a b,Xq,Xq,Ut a]
  rw [e1,e2,h1,h2,h3,h4]
 exact J5u (J4b (J54 ha hb)) e
theorem Jrg (t:ToldG R U ws room nums ks T) {k:Nat}(hk:k∈ks) (l:Tb.Last (U+R).toNat ks.length [k] T) {nd us ec:List Int}(hnd:nd=[Yk T ks.length (U+R).toNat k,T.q]) (hus:us=T.q::shL R U ws ks.length [k] T) (hec:ec=T.q::Jca ws (U+R).toNat ks.length T) :
 MostK R U ws room nums ks k (qz nd (Yk T ks.length (U+R).toNat k)) (qz nd T.q) (((shL R U ws ks.length [k] T).take U.toNat).map (qz us)) (((shL R U ws ks.length [k] T).drop U.toNat).map (qz us)) (qz us T.q) ((Jca ws (U+R).toNat ks.length T).map (qz ec)) (qz ec T.q):=by
 have r0:=t.ok.r0
 have p0:=t.ok.p0
 have a0:=t.sd.a0
 have a1:=t.sd.a1
 have kl:=t.lt k hk
 have q0:=t.kept.ok.qpos
 have sh:=t.shape
 have hT:=t.kept.ok
 have C:=W1 (U:=U) (ws:=ws) (U+R).toNat
 have un:∀ s,s<(U+R).toNat->Tb.inN (U+R).toNat ks.length T (ws.length+s):=λ s hs=>(t.fit.names (λ _=>rfl) _).mpr (.inl ⟨s,hs,rfl⟩)
 have qn:T.q∈nd:=by rw [hnd];simp
 have cn:Yk T ks.length (U+R).toNat k∈nd:=by rw [hnd];simp
 have qu:T.q∈us:=by rw [hus];simp
 have qe:T.q∈ec:=by rw [hec];simp
 have sl:=Jp5 (R:=R) (U:=U) (ws:=ws) (n:=ks.length) (W:=[k]) (T:=T)
 have su:∀ s,s<(U+R).toNat->T.share (U+R).toNat ks.length [k] (ws.length+s)∈us:=λ s hs=>by rw [hus];exact Ql _ (Jvq hs)
 have ce:∀ i,i<ws.length->Yk T ks.length (U+R).toNat i∈ec:=λ i hi=>by rw [hec];exact Ql _ (Jt1 hi)
 have qs:T.q.natAbs<2^4200:=by
  have h1:=sh.q1
  have:T.q.natAbs<2^4000:=by
   have h:((T.q.natAbs:Nat):Int)<((2^4000:Nat):Int):=by
    rw [Uy (by omega)]
    exact_mod_cast h1
   exact_mod_cast h
  exact Qz this (Ws (by decide))
 have vs:∀ ν,(Yk T ks.length (U+R).toNat ν).natAbs<2^4200:=λ ν=>Qz (Jrd sh t.kept.nm ν) (Ws (by decide))
 have vn:∀ ν,0<=Yk T ks.length (U+R).toNat ν:=Jyu t.kept.fe
 have ms:∀ x∈shL R U ws ks.length [k] T,0<=qz us x/\(qz us x).natAbs<2^4200:=λ x hx=>by
  obtain ⟨s,hs,rfl⟩:=Qo.mp hx
  have hs:=Q5.mp hs
  exact ⟨Jt0 qu (by omega) (Tb.Js9 hT l (un s hs)),Jbn qu (by omega) (Qz (Jmz sh hT (un s hs)) (Ws (by decide)))⟩
 have lw:(((((shL R U ws ks.length [k] T).take U.toNat).map (qz us)).length:Nat):Int)=U:=by rw [Qb,J20,sl];omega
 have gw:∀ p:Nat,(p:Int)<U->((Zi us:Nat):Int)*(((shL R U ws ks.length [k] T).take U.toNat).map (qz us)).getD p 0=T.share (U+R).toNat ks.length [k] (ws.length+p):=λ p hp=>by
  rw [Ja0 (by rw [J20,sl];omega),Qd,List.getElem?_take,if_pos (by omega),<- Qd,Jm7 (by omega)]
  exact Jb3 (su _ (by omega))
 have gh:∀ a:Nat,(a:Int)<R->((Zi us:Nat):Int)*(((shL R U ws ks.length [k] T).drop U.toNat).map (qz us)).getD a 0=T.share (U+R).toNat ks.length [k] (ws.length+(U.toNat+a)):=λ a ha=>by
  rw [Ja0 (by rw [J21,sl];omega),Qd,J4z,<- Qd,Jm7 (by omega)]
  exact Jb3 (su _ (by omega))
 have gu:(0:Int)<((Zi us:Nat):Int):=by have:=Jb1 qu (by omega);omega
 have ge:(0:Int)<((Zi ec:Nat):Int):=by have:=Jb1 qe (by omega);omega
 have gn:(0:Int)<((Zi nd:Nat):Int):=by have:=Jb1 qn (by omega);omega
 have mu:=Jb3 qu
 have mn:=Jb3 cn
 have md:=Jb3 qn
 have me:=Jb3 qe
 have fl:∀ i∈ks,Tb.ind [k] i T.q<=((Zi us:Nat):Int)*Jdo ws (((shL R U ws ks.length [k] T).take U.toNat).map (qz us)) (((shL R U ws ks.length [k] T).drop U.toNat).map (qz us)) (i:Int):=λ i hi=>by
  rw [Jts t.ok (S:=λ s=>T.share (U+R).toNat ks.length [k] (ws.length+s)) (t.lt i hi) lw gw gh]
  exact Tb.Jq4 C hT l un (λ s _=>.inl (by rw [Qu];omega)) ((t.fit.names (λ _=>rfl) _).mpr (.inr hi))
 have wo:=Jrf t kl lw gw gh
 have Fg:∀ i,i<ws.length->((Zi ec:Nat):Int)*((Jca ws (U+R).toNat ks.length T).map (qz ec)).getD i 0=Yk T ks.length (U+R).toNat i:=λ i hi=>by
  rw [Ja0 (by rw [Je4];exact hi),Jj8 hi]
  exact Jb3 (ce i hi)
 have row:∀ r,r<(U+R).toNat->0<=qz ec T.q*rhS U room nums r-Tb.Jq ws.length λ i=>((Jca ws (U+R).toNat ks.length T).map (qz ec)).getD i 0*Zf U ws i r:=λ r hr=>by
  have e:=Jre t hr
  have h0:=vn (ws.length+r)
  have e2:((Zi ec:Nat):Int)*(qz ec T.q*rhS U room nums r-Tb.Jq ws.length λ i=>((Jca ws (U+R).toNat ks.length T).map (qz ec)).getD i 0*Zf U ws i r)=Yk T ks.length (U+R).toNat (ws.length+r):=by
   rw [e,J5z,<- Xq,me,<- Tb.Ze]
   congr 1
   exact Tb.Jk λ i hi=>by rw [<- Xq,Fg i hi]
  rw [<- e2] at h0
  exact J3k h0 ge
 have lF:((Jca ws (U+R).toNat ks.length T).map (qz ec)).length=ws.length:=by rw [Qb,Je4]
 refine ⟨lw,by rw [Qb,J21,sl];omega,λ x hx=>?_,λ x hx=>?_,λ x hx=>?_,λ x hx=>?_,λ i hi=>?_,?_,⟨Joy qu q0,Jbn qu (by omega) qs⟩,⟨Joy qn q0,Jbn qn (by omega) qs⟩,⟨Jt0 qn (by omega) (vn k),Jbn qn (by omega) (vs k)⟩,by rw [hnd];exact Jyv q0,?_,⟨Joy qe q0,Jbn qe (by omega) qs⟩,lF,λ x hx=>?_,λ x hx=>?_,λ i hi=>?_,λ r hr=>?_,λ p hp=>?_,?_⟩
 . obtain ⟨y,hy,rfl⟩:=Qo.mp hx
   exact (ms y (J7w hy)).1
 . obtain ⟨y,hy,rfl⟩:=Qo.mp hx
   exact (ms y (J7w hy)).2
 . obtain ⟨y,hy,rfl⟩:=Qo.mp hx
   exact (ms y (J7x hy)).1
 . obtain ⟨y,hy,rfl⟩:=Qo.mp hx
   exact (ms y (J7x hy)).2
 . have h1:=fl i hi
   have i0:0<=Tb.ind [k] i T.q:=by unfold Tb.ind;split<;>omega
   exact J3k (Int.le_trans i0 h1) gu
 . have h1:=fl k hk
   unfold Tb.ind at h1
   rw [if_pos (Qu.mpr rfl),<- mu] at h1
   exact Int.le_of_mul_le_mul_left h1 gu
 . exact Jw1 gu gn wo mn md mu
 . obtain ⟨y,hy,rfl⟩:=Qo.mp hx
   obtain ⟨s,_,rfl⟩:=Qo.mp hy
   exact Jt0 qe (by omega) (vn s)
 . obtain ⟨y,hy,rfl⟩:=Qo.mp hx
   obtain ⟨s,_,rfl⟩:=Qo.mp hy
   exact Jbn qe (by omega) (vs s)
 . have il:i<ws.length:=J2r λ z=>hi (by rw [Qd,Qx (by omega)];rfl)
   refine J2r λ z=>hi ?_
   have no:¬ Tb.inN (U+R).toNat ks.length T i:=λ y=>by
    rcases (t.fit.names (λ _=>rfl) i).mp y with ⟨s,_,e⟩ | h
    . omega
    . exact z h
   have v0:=Jli (T:=T) (n:=ks.length) (m:=(U+R).toNat) (ν:=i) λ j hj y=>no (.inl ⟨j,hj,y⟩)
   rw [Ja0 (by rw [Je4];exact il),Jj8 il,v0]
   exact J7t _
 . have h:=row (U.toNat+r) (by omega)
   have e:Tb.Jq ws.length (λ i=>((Jca ws (U+R).toNat ks.length T).map (qz ec)).getD i 0*Zf U ws i (U.toNat+r)) = -(Yy ws ((Jca ws (U+R).toNat ks.length T).map (qz ec)) ws.length (r:Nat)):=by
    rw [Jh5,<- Bd,<- Tb.Wb]
    refine Tb.Jk λ i hi=>?_
    rw [Jfv hi (by omega)]
    unfold Jss
    rw [<- J2o,Int.neg_sub]
   rw [e] at h
   have e2:qz ec T.q*rhS U room nums (U.toNat+r)=if (r:Int)=room then qz ec T.q else 0:=by
    unfold rhS
    rw [if_neg (by omega)]
    by_cases c:(r:Int)=room
    . rw [if_pos (by omega),if_pos c,J2x]
    . rw [if_neg (by omega),if_neg c,Xl]
   rw [e2] at h
   generalize (if (r:Int)=room then qz ec T.q else 0)=z at h ⊢
   omega
 . have h:=row p (by omega)
   have e:Tb.Jq ws.length (λ i=>((Jca ws (U+R).toNat ks.length T).map (qz ec)).getD i 0*Zf U ws i p) = -(Jl7 ws ((Jca ws (U+R).toNat ks.length T).map (qz ec)) p).sum:=by
    unfold Jl7
    rw [<- Bd,<- Tb.Wb]
    refine Tb.Jk λ i hi=>?_
    rw [Jis hi hp,J2o]
   rw [e] at h
   have:rhS U room nums p=nums.getD p 0:=if_pos hp
   rw [this] at h
   omega
 . exact Jw1 ge gn (Fg k kl) mn md me
end
end My
namespace L2
open PySem
theorem Jix {X:Cx}{o:Expr}{n:Str}{es:List Expr}{t:TA}{te:TE}{pos:Pos}(ha:PEs X (.Attribute o n pos) te) (hr:PAs X es t):PAs X (.Attribute o n pos::es) (Yp te t):=⟨Vu ha.out hr.out⟩
end L2
namespace My
open L2
noncomputable def Z5 (R room:Int) (ws:List Way):List Nat:=(Qf ws.length).filter λ k=>Pw (Jai ws (nI (Qf ws.length))) R.toNat room.toNat (Jg ws (k:Int)).a.toNat
theorem Jlj {R room:Int}{ws:List Way}:∀ k∈Z5 R room ws,k<ws.length:=λ k h=>Q5.mp (X8.mp h).1
theorem Jvw {R room:Int}{ws:List Way}:(Z5 R room ws).Nodup:=List.Nodup.sublist List.filter_sublist J7y
theorem Jm8 {R room:Int}{ws:List Way}:(Z5 R room ws).length<=ws.length:=by
 have:=List.length_filter_le (λ k:Nat=>Pw (Jai ws (nI (Qf ws.length))) R.toNat room.toNat (Jg ws (k:Int)).a.toNat) (Qf ws.length)
 rw [Qw] at this
 exact this
def Be:GSn:=λ as n Q=>∃ (R U:Int) (ws:List Way) (room:Int),as=[.d (J2 R U ws),.d (.int room)]/\BookOk R U ws/\(0<=room/\room<R)/\Q ((Z5 R room ws).map Jn) n
noncomputable def Jj9 (R U:Int) (ws:List Way):J8j:=Je3 0 1 (Qp U.toNat 0) (Qp R.toNat 0) 1 (Qp ws.length 0) 1
def Jiy:GSp:=λ as n Q=>∃ (R U:Int) (ws:List Way),as=[.d (J2 R U ws)]/\BookOk R U ws/\Q (Jj9 R U ws) n
def Jiz:GSn:=λ as n Q=>∃ (R U:Int) (ws:List Way) (room:Int) (nums:List Int),as=[.d (J2 R U ws),.d (Yl room nums)]/\BookOk R U ws/\SdOk R U room nums/\Q (((Qf (U+R).toNat).map (rhS U room nums)).map .int) n
def Jlk (C:Addr):Sp:=λ vs H Q _=>∃ (ex:List Addr) (x dx:Addr) (R U:Int) (ws:List Way) (room:Int) (nums:List Int) (ks:List Nat) (bv sv tv:V),vs=[.ref x,bv,sv,tv]/\H x=some (.ins C dx [])/\Alc ex H/\x∉ex/\Rep (x::ex) H (J2 R U ws) bv/\Rep (x::ex) H (.list (ks.map Jn)) sv/\Rep (x::ex) H (Yl room nums) tv/\BookOk R U ws/\SdOk R U room nums/\(∀ k∈ks,k<ws.length)/\ks.length<=100 /\
 ∀ H' fa ba,H fa=none->H ba=none->TabH C ex x fa ba (Jle R U ws) (Jdl R U ws room nums ks) H'->Kp [x] H H'->Q .non H'
def Jt2 (C:Addr):GSn:=λ as n' Q=>∃ (T:Tb.Tab) (m n nw nr be:Nat),as=[.d (Zy C ⟨(nw:Int),(nr:Int),(be:Int)⟩ T)]/\Shape m n T/\Names m n be T/\nw<=be/\be<=1000/\Q (((Qf nw).map (Yk T n m)).map .int) n'
def Jb4 (C:Addr):GSp:=λ as n' Q=>∃ (R U:Int) (ws:List Way) (room:Int) (nums:List Int) (ks:List Nat) (k:Nat) (T:Tb.Tab),as=[.d (Zy C (Jle R U ws) T),.d (Jn k)]/\ToldG R U ws room nums ks T/\k∈ks/\Tb.Last (U+R).toNat ks.length [k] T/\∀ n d wt ht u F e,MostK R U ws room nums ks k n d wt ht u F e->Q (Je3 n d wt ht u F e) n'
noncomputable def Jt3 (cs:List Int):J8j:=.tuple [.str "none",.tuple (cs.map .int)]
def Jd4:GSp:=λ as n Q=>∃ (R U:Int) (ws:List Way) (room:Int) (nums:List Int) (k:Nat),as=[.d (J2 R U ws),.d (Yl room nums),.d (Jn k)]/\BookOk R U ws/\SdOk R U room nums/\k<ws.length/\(k∉Z5 R room ws->Q (Jj9 R U ws) n) /\
 (k∈Z5 R room ws->(∀ m d wt ht u F e,MostK R U ws room nums (Z5 R room ws) k m d wt ht u F e->Q (Je3 m d wt ht u F e) n)/\∀ cs,RoundK R U ws (Z5 R room ws) cs->1<=cs.getD k 0->Q (Jt3 cs) n)
theorem Jyw {S:Src}{ex:List Addr}{env:List Vl}{σ:L2.St}{H:Hp}{n i:Nat}{te:TE}{r:TS}{D:Ends}{gn:GN} [N:NV te gn] (P:List J8j->Nat->Prop) (E:Ev S ex env σ H n) (h:gn env n P) (q:∀ ds n' a vs H',P ds n'->Y6 S n' H H'->H a=none->H' a=some (.lst vs)->vs.length<=sizeLine->Reps (a::ex) H' ds vs->r D (σ.set i (some (.ref a))) H'):Ja5 (Jfd te (B9 i)) r D σ H:=
 show te σ H (λ v H2=>r D (σ.set i (some v)) H2) from N.nv E h q
theorem Jt4 {ex:List Addr}{H:Hp}{ks:List Nat}{vs:List V}(r:Reps ex H (ks.map Jn) vs):vs=ks.map Y4:=by
 have:=Reps.ints_inv (ns:=ks.map λ k:Nat=>(k:Int)) (vs:=vs) (by rw [Q0];exact r)
 rw [this,Q0];rfl
def Ja1:GSp:=λ as n Q=>∃ (R U:Int) (ws:List Way) (room:Int) (nums:List Int) (ks:List Nat) (k:Nat) (m d:Int) (wt ht:List Int) (u:Int) (F:List Int) (e:Int),as=[.d (J2 R U ws),.d (Yl room nums),.d (.list (ks.map Jn)),.d (.tuple (F.map .int)),.d (.int e)]/\BookOk R U ws/\SdOk R U room nums/\MostK R U ws room nums ks k m d wt ht u F e/\Q (.bool true) n
noncomputable instance:Scal Ja1:=⟨λ {as n P} h=>by obtain ⟨a1,a2,a3,a4,a5,a6,a7,a8,a9,a10,a11,a12,a13,a14,e,h1,h2,h3,q⟩:=h;exact ⟨a1,a2,a3,a4,a5,a6,a7,a8,a9,a10,a11,a12,a13,a14,e,h1,h2,h3,rfl,q⟩⟩
def Jdh:GSp:=λ as n Q=>∃ a b:Int,as=[.d (.int a),.d (.int b)]/\0<=a/\0<=b/\a.natAbs<2^9000/\b.natAbs<2^9000/\Q (.int ((Xx a.natAbs b.natAbs:Nat):Int)) n
noncomputable instance:Scal Jdh:=⟨λ {as n P} h=>by obtain ⟨a,b,e,h1,h2,h3,h4,q⟩:=h;exact ⟨a,b,e,h1,h2,h3,h4,rfl,q⟩⟩
def Ja2:GSp:=λ as n Q=>∃ (R U:Int) (ws:List Way) (room:Int) (nums:List Int) (k:Nat) (m d:Int) (wt ht:List Int) (u:Int) (F:List Int) (e:Int),as=[.d (J2 R U ws),.d (Yl room nums),.d (Jn k),.d (Je3 m d wt ht u F e)]/\BookOk R U ws/\SdOk R U room nums/\k<ws.length/\k∈Z5 R room ws/\MostK R U ws room nums (Z5 R room ws) k m d wt ht u F e/\Q (.bool true) n
noncomputable instance:Scal Ja2:=⟨λ {as n P} h=>by obtain ⟨a1,a2,a3,a4,a5,a7,a8,a9,a10,a11,a12,a13,a14,e,h1,h2,h3,h4,h5,q⟩:=h;exact ⟨a1,a2,a3,a4,a5,a7,a8,a9,a10,a11,a12,a13,a14,e,h1,h2,h3,h4,h5,rfl,q⟩⟩
def Jyx (R U:Int) (ws:List Way) (room:Int) (nums:List Int) (k:Nat) (ans:J8j):Prop:=(k∉Z5 R room ws/\ans=Jj9 R U ws)\/(k∈Z5 R room ws/\((∃ m d wt ht u F e,MostK R U ws room nums (Z5 R room ws) k m d wt ht u F e/\ans=Je3 m d wt ht u F e)\/∃ cs,RoundK R U ws (Z5 R room ws) cs/\1<=cs.getD k 0/\ans=Jt3 cs))
def Jdi:GSp:=λ as n Q=>∃ (R U:Int) (ws:List Way) (room:Int) (nums:List Int) (k:Nat) (ans:J8j),as=[.d (J2 R U ws),.d (Yl room nums),.d (Jn k),.d ans]/\BookOk R U ws/\SdOk R U room nums/\k<ws.length/\Jyx R U ws room nums k ans/\Q (.bool true) n
noncomputable instance:Scal Jdi:=⟨λ {as n P} h=>by obtain ⟨a1,a2,a3,a4,a5,a6,a7,e,h1,h2,h3,h4,q⟩:=h;exact ⟨a1,a2,a3,a4,a5,a6,a7,e,h1,h2,h3,h4,rfl,q⟩⟩
theorem Joz {R U room:Int}{ws:List Way}(ok:BookOk R U ws) (h0:0<=room) (h1:room<R) {l:List Int}(M:MetOk ws (nI (Qf ws.length)) room l) {k:Nat}(hk:k<ws.length):((Jg ws (k:Int)).a∈l)↔Pw (Jai ws (nI (Qf ws.length))) R.toNat room.toNat (Jg ws (k:Int)).a.toNat=true:=by
 have es:∀ e∈Jai ws (nI (Qf ws.length)),e.1<R.toNat/\e.2<R.toNat:=λ e he=>by
  unfold Jai at he
  obtain ⟨i,hi,rfl⟩:=Qo.mp he
  obtain ⟨j,hj,rfl⟩:=Qo.mp hi
  have:=Q5.mp hj
  have wok:=ok.ways _ (Yx (k:=(j:Int)) (Xj j) (by omega))
  have a0:=wok.a0
  have a1:=wok.a1
  have b0:=wok.b0
  have b1:=wok.b1
  exact ⟨by omega,by omega⟩
 have wok:=ok.ways _ (Yx (k:=(k:Int)) (Xj k) (by omega))
 have a0:=wok.a0
 rw [Jxq es]
 constructor
 . intro h
   exact (M.rt _ h).2
 . intro h
   have key:∀ y,Rt (Jai ws (nI (Qf ws.length))) room.toNat y->((y:Nat):Int)∈l:=by
    intro y hy
    induction hy with
    | refl=>rw [Uz h0];exact M.me
    | step _ he ih=>
     unfold Jai at he
     obtain ⟨i,hi,e⟩:=Qo.mp he
     have hi':=hi
     obtain ⟨j,hj,rfl⟩:=Qo.mp hi
     have jl:=Q5.mp hj
     have wok:=ok.ways _ (Yx (k:=(j:Int)) (Xj j) (by omega))
     have a0:=wok.a0
     have b0:=wok.b0
     have e1:=congrArg Prod.fst e
     have e2:=congrArg Prod.snd e
     dsimp only at e1 e2
     have:=M.all _ hi' (by rw [<- Uz a0,e1];exact ih)
     rw [<- Uz b0,e2] at this
     exact this
   have:=key _ h
   rwa [Uz a0] at this
theorem Jm9 {R U:Int}{ws:List Way}{room:Int}{nums:List Int}{ks:List Nat}{k:Nat}{m d:Int}{wt ht:List Int}{u:Int}{F:List Int}{e:Int}(M:MostK R U ws room nums ks k m d wt ht u F e):(Jdv wt ht room nums).natAbs<2^9000:=by
 have h1:=congrArg Int.natAbs M.wo
 rw [J2p,J2p] at h1
 have h2:(Jdv wt ht room nums).natAbs<=(Jdv wt ht room nums).natAbs*d.natAbs:=Nat.le_mul_of_pos_right _ (by have:=M.d1.1;omega)
 have h3:m.natAbs*u.natAbs<=2^4200*2^4200:=J4d (Um M.n0.2) (Um M.u1.2)
 rw [<- Nat.pow_add] at h3
 have h4:2^(4200+4200)<2^9000:=Nat.pow_lt_pow_right (by decide) (by decide)
 exact Ug (Xc h2 (by rw [h1];exact h3)) h4
theorem Jha {ν:Nat}{ks:List Nat}:inD (Jn ν) (ks.map Jn)=decide (ν∈ks):=by
 have:=Jmj (k:=(ν:Int)) (ns:=nI ks)
 unfold nI at this
 rw [Q0] at this
 rw [show ks.map Jn=ks.map (Qi∘λ k:Nat=>(k:Int)) from rfl,this]
 exact decide_eq_decide.mpr ⟨λ h=>by obtain ⟨k,hk,e⟩:=Qo.mp h;rwa [<- show k = ν by exact_mod_cast e],λ h=>Qo.mpr ⟨ν,h,rfl⟩⟩
theorem Jdj {ks:List Nat}:(ks.map Jn).all W6=true:=X7.mpr λ x hx=>by obtain ⟨k,_,rfl⟩:=Qo.mp hx;rfl
theorem Jvx {R U:Int}{ws:List Way}(ok:BookOk R U ws):Jr7 (Jj9 R U ws):=by
 have r1:=ok.r1
 have p1:=ok.p1
 have wl:=ok.len
 have sm:∀ (h n:Nat),n<=60->SD (h+1) 700 (.tuple ((Qp n (0:Int)).map .int)):=λ h n hn=>SD.tup ((SDs.smalls (h:=h) (zs:=Qp n (0:Int)) λ z hz=>by rw [List.eq_of_mem_replicate hz];decide).mono (Qm _) (by rw [X3];omega))
 have s1:SD 2 1500 (Ji8 (Qp U.toNat 0) (Qp R.toNat 0)):=(SD.tup (SDs.cons (sm 0 _ (by omega)) (SDs.cons (sm 0 _ (by omega)) (SDs.nil (n:=0))))).mono (Qm _) (by decide)
 have i0:∀ x:Int,-1000<x->x<1000->SD 2 10 (.int x):=λ x h0 h1=>SD.small h0 h1 (Qm _)
 have st:SD 2 5 (.str "most"):=SD.str (by decide +kernel) (by decide +kernel)
 exact (SD.tup (SDs.cons st (SDs.cons (i0 0 (by decide) (by decide)) (SDs.cons (i0 1 (by decide) (by decide)) (SDs.cons s1 (SDs.cons (i0 1 (by decide) (by decide)) (SDs.cons (sm 1 _ (by omega)) (SDs.cons (i0 1 (by decide) (by decide)) (SDs.nil (n:=0)))))))))).show (by decide) (by decide)
end My
set_option synthInstance.maxSize 100000
set_option synthInstance.maxHeartbeats 4000000
namespace My
open L2
noncomputable def top (i:Nat):Stmt:=J8h.main.body.getD i (.Pass ⟨0,0,0,0⟩)
noncomputable def Jgs (i j:Nat):Stmt:=(Ju6 (top i)).getD j (.Pass ⟨0,0,0,0⟩)
noncomputable abbrev Jd5:Stmt:=top 5
noncomputable abbrev Jb5:Stmt:=top 6
noncomputable abbrev Jfy:Stmt:=top 7
noncomputable abbrev Bf:Stmt:=top 9
noncomputable abbrev Wm:Stmt:=top 10
noncomputable abbrev Zm:Stmt:=top 12
noncomputable abbrev Vf:Stmt:=top 14
noncomputable abbrev Zg:Stmt:=Jgs 15 0
noncomputable abbrev Wn:Stmt:=Jgs 15 1
noncomputable abbrev W2:Stmt:=Jgs 15 2
noncomputable abbrev Wt:Stmt:=Jgs 15 3
noncomputable abbrev Y9:Stmt:=Jgs 15 4
noncomputable abbrev Wu:Stmt:=Jgs 15 5
noncomputable abbrev Wv:Stmt:=Jgs 15 6
noncomputable abbrev Vm:Stmt:=Jgs 15 7
noncomputable abbrev W7:Stmt:=Jgs 15 8
noncomputable abbrev Bx:Stmt:=Jgs 15 9
noncomputable abbrev By:Stmt:=Jgs 15 11
noncomputable abbrev W8:Stmt:=Jgs 15 12
noncomputable abbrev Jb6:Stmt:=top 17
noncomputable abbrev Jfz:Stmt:=top 18
noncomputable abbrev Jc1:Stmt:=top 19
noncomputable abbrev Jc2:Stmt:=top 20
noncomputable abbrev Jd6:Stmt:=top 22
noncomputable abbrev Jd7:Stmt:=top 23
noncomputable abbrev Jd8:Stmt:=top 24
noncomputable abbrev Ja3:Stmt:=top 25
noncomputable abbrev B3:Stmt:=top 26
noncomputable abbrev Jb7:Stmt:=top 27
noncomputable abbrev Jc3:Stmt:=top 28
noncomputable abbrev Vg:Stmt:=top 29
noncomputable abbrev B4:Stmt:=top 30
noncomputable abbrev Jd9:Stmt:=top 31
noncomputable abbrev Jb8:Stmt:=top 32
noncomputable abbrev Bg:Stmt:=top 33
noncomputable abbrev B5:Stmt:=top 34
noncomputable abbrev Jf0:Stmt:=top 35
noncomputable abbrev Vx:Stmt:=top 36
noncomputable abbrev W3:Stmt:=top 37
noncomputable abbrev W4:Stmt:=top 38
noncomputable abbrev Jb9:Stmt:=top 39
noncomputable abbrev Jc4:Stmt:=top 40
noncomputable abbrev Je5:Stmt:=top 41
structure Txt (mg:Str->Option J8i):Prop where
 b_isinstance:mg "isinstance" = none
 b_int:mg "int" = none
 b_bool:mg "bool" = none
 b_str:mg "str" = none
 b_tuple:mg "tuple" = none
 b_len:mg "len" = none
 b_all:mg "all" = none
 b_sum:mg "sum" = none
 b_range:mg "range" = none
 b_list:mg "list" = none
 b_zip:mg "zip" = none
 b_enumerate:mg "enumerate" = none
 b_min:mg "min" = none
 b_max:mg "max" = none
 b_abs:mg "abs" = none
 b_repr:mg "repr" = none
section
variable {P:J8n}{w:J8m}{K:Qc}{mg:Str->Option J8i}{base:Heap}
theorem Jna:FnScope ["_law_script"] ["_law_script"] (Je Jd6):=⟨rfl,rfl,rfl,by decide +kernel,rfl,by decide +kernel,by decide +kernel⟩
theorem Jnb (T:Txt mg) (D:Def K mg "_law_tape" Jd6 ["_law_script"]):Cal P w K mg base "_law_tape" 1 ["_law_script"] (Jko K):=by
 refine D.cal λ f fd F=>F.ok Jna (λ vs H Q E h=>?_) (λ cdv A outer s H vs Q E hr h=>?_)
 . obtain ⟨a,ns,rfl,_⟩:=h
   rfl
 obtain ⟨a,ns,rfl,hS,hlen,q⟩:=h
 refine ⟨_,(@Jf _ _ _ (@Ju _ _ _ _ (@PEs.out _ _ _ (Ye (Z4 (J3 (Yj Wy rfl T.b_list J82 (J9 (Bn Jat (pv 0) Jaq (Jas Jd)) Jc))) (Jl Jz (Jl Jz Jr))))))),?_⟩
 obtain ⟨ms,ems,lms⟩:=Jqn ns none (some 63)
 refine ⟨_,rfl,_,rfl,a,_,rfl,hS,λ l1 hl1=>?_⟩
 rw [ems]
 refine ⟨l1,_,rfl,.inl (SqL.of Jj),λ l2 hl2=>⟨V6 (Q1 rfl),λ p hp=>?_⟩⟩
 have n1:l2≠l1:=λ z=>by rw [z,Jj] at hl2;cases hl2
 have n2:p≠l2:=λ z=>by rw [z,Jj] at hp;cases hp
 have n3:p≠l1:=λ z=>by rw [z,Jh (Qj n1),Jj] at hp;cases hp
 rw [Jh n1] at hl2
 rw [Jh n2,Jh n3] at hp
 refine q p l2 _ (λ b o e _=>?_) hp hl2 ⟨ms,0,0,Jj,by rw [Jh (Qj n2),Jj],by omega,by decide,by decide⟩
 rw [Jh (Jx e hp),Jh (Jx e hl2),Jh (Jx e hl1)];exact e
theorem Ww:FnScope ["_law_tape_here","_law_many","_law_digit","_law_at","_law_cell","_law_mixed"] ["_law_tape_here","_law_many"] (Je Jd7):=⟨rfl,rfl,rfl,by decide +kernel,rfl,by decide +kernel,by decide +kernel⟩
theorem Jnc (T:Txt mg) (D:Def K mg "_law_draw" Jd7 ["_law_tape_here","_law_many"]):Cal P w K mg base "_law_draw" 1 ["_law_tape_here","_law_many"] Jn5:=by
 refine D.cal λ f fd F=>F.ok Ww (λ vs H Q E h=>?_) (λ cdv A outer s H vs Q E hr h=>?_)
 . obtain ⟨p,c,n,m,rfl,_⟩:=h
   rfl
 obtain ⟨p,c,n,m,rfl,J,hn,h0,h1,q⟩:=h
 refine ⟨_,(@Ja _ _ _ _ _ (Y5 (Jy Jlt (Ji Js (pv 0) Jd (λ _ _=>rfl)) Jd (J4 _)) (@Ja _ _ _ _ _ (J5 (i:=2) Ww.nd rfl (Qa rfl) (Jo Bs (Ji Js (pv 0) Jd (λ _ _=>rfl)) (pv 1)))
  (@Ja _ _ _ _ _ (Yi (Jo Jbf (Ji Js (pv 0) Jd (λ _ _=>rfl)) (pv 1)) (Za (pv 0) Jd Yh (λ v=>V8 _ _ _ _ _ _ v)))
  (@Jf _ _ _ (@Ju _ _ _ _ (pv 2))))) Ya)
  (@Ja _ _ _ _ _ (J5 (i:=3) Ww.nd rfl (Qa rfl) (Ji Js (pv 0) Jd (λ _ _=>rfl)))
  (@Ja _ _ _ _ _ (Yi (Jo Zu (pv 3) Jd) (Za (pv 0) Jd Yh (λ v=>V8 _ _ _ _ _ _ v)))
  (@Ja _ _ _ _ _ (J5 (i:=4) Ww.nd rfl (Qa rfl) Jd)
  (@Ja _ _ _ _ _ (Y5 (Jy Jlt (Jw J1 rfl T.b_len Xm (J9 (Ji Js (pv 0) Jd (λ _ _=>rfl)) Jc)) Jd (J4 _)) (@Jf _ _ _ (J5 (i:=4) Ww.nd rfl (Qa rfl) (Ji Js (Ji Js (pv 0) Jd (λ _ _=>rfl)) (Jo Bs (pv 3) (Jw J1 rfl T.b_len Xm (J9 (Ji Js (pv 0) Jd (λ _ _=>rfl)) Jc))) (λ _ _=>rfl)))) Ya)
  (@Ja _ _ _ _ _ (Y5 (PW.pt (Jhb (Jy B0 (pv 3) (Jw J1 rfl T.b_len Xm (J9 (Ji Js (pv 0) Jd (λ _ _=>rfl)) Jc)) (J4 _)) (Jec (Jy Jv4 (pv 4) (Jo Jkf Jd Jd) (J4 _))))) (@Ja _ _ _ _ _ (Yi (Jo Jbf (pv 4) (pv 1)) (Za (pv 0) Jd Yh (λ v=>V8 _ _ _ _ _ _ v)))
  (@Jf _ _ _ (@Ju _ _ _ _ (Jo Bs (pv 4) (pv 1))))) Ya)
  (@Ja _ _ _ _ _ (J5 (i:=5) Ww.nd rfl (Qa rfl) (Jo Bs (Jo Jff (Jo Zu (Jo Bs (pv 4) Jd) Jd) (Jo Zu (Jo Zu (Jo Jff (Jo Jff Jd (pv 3)) (pv 3)) (Jo Jff Jd (pv 3))) Jd)) Jd))
  (@Ja _ _ _ _ _ (J5 (i:=5) Ww.nd rfl (Qa rfl) (Jo Bs (Jo Zu (Jo Zu (Jo Jff (pv 5) (pv 5)) (Jo Jff Jd (pv 3))) (Jo Bs (pv 4) Jd)) Jd))
  (@Jf _ _ _ (@Ju _ _ _ _ (Jo Bs (Jo Jbf (pv 5) Jd) (pv 1)))))))))))),?_⟩
 have npc:=J.ne
 obtain ⟨ns,k,g,hp,hc,hl,k0,k1⟩:=J.ex
 refine Vi (λ σ' H'=>σ'=[some (.ref p),some (.int m),none,none,none,none]/\H=H') (λ N hN=>?_) ?_
 . refine ⟨_,rfl,p,_,2,_,rfl,rfl,SqL.of hp,rfl,_,_,rfl,rfl,_,rfl,Z3 (λ cc=>?_) (λ cc=>hN _ _ ⟨rfl,rfl⟩)⟩
   refine ⟨_,rfl,p,_,2,_,rfl,rfl,SqL.of hp,rfl,_,rfl,_,_,rfl,rfl,h0,?_⟩
   refine ⟨_,rfl,p,_,2,_,rfl,rfl,SqL.of hp,rfl,_,rfl,_,_,rfl,rfl,Jbg h0 h1,_,rfl,p,_,2,2,rfl,rfl,hp,rfl,?_⟩
   refine ⟨_,rfl,q _ _ (J1s _ (by omega)) (J19 _ h0) ⟨ns,k,_,Jj,by rw [Jh (Qj npc)];exact hc,hl,k0,by omega⟩ (Kp.at (by simp) _)⟩
 rintro _ _ ⟨rfl,rfl⟩
 refine Vi (λ σ' H'=>σ'=[some (.ref p),some (.int m),none,some (.int k),none,none]/\H=H') (λ N hN=>⟨_,rfl,p,_,1,_,rfl,rfl,SqL.of hp,rfl,hN _ _ ⟨rfl,rfl⟩⟩) ?_
 rintro _ _ ⟨rfl,rfl⟩
 refine Vi (λ σ' H'=>σ'=[some (.ref p),some (.int m),none,some (.int k),none,none]/\H' p=some (.lst [.ref c,.int (k+1),.int g])/\H' c=some (.lst (ns.map V.int))/\Kp [p,c] H H') (λ N hN=>?_) ?_
 . refine ⟨_,rfl,_,_,rfl,rfl,_,rfl,p,_,1,1,rfl,rfl,hp,rfl,hN _ _ ⟨rfl,Jj,by rw [Jh (Qj npc)];exact hc,Kp.at (by simp) _⟩⟩
 rintro _ H1 ⟨rfl,hp1,hc1,kp1⟩
 have nl:((ns.map V.int).length:Int)=ns.length:=by rw [Qb]
 refine Vi (λ σ' H'=>σ'=[some (.ref p),some (.int m),none,some (.int k),some (.int 0),none]/\H1=H') (λ N hN=>hN _ _ ⟨rfl,rfl⟩) ?_
 rintro _ _ ⟨rfl,rfl⟩
 refine Vi (λ σ' H'=>∃ x:Int,σ'=[some (.ref p),some (.int m),none,some (.int k),some (.int x),none]/\H1=H') (λ N hN=>?_) ?_
 . refine ⟨_,rfl,p,_,0,_,rfl,rfl,SqL.of hp1,rfl,c,_,rfl,.inl (SqL.of hc1),_,_,rfl,rfl,_,rfl,Z3 (λ cc=>?_) (λ cc=>hN _ _ ⟨0,rfl,rfl⟩)⟩
   have cc:(0:Int)<ns.length:=by simpa using cc
   refine ⟨_,rfl,p,_,0,_,rfl,rfl,SqL.of hp1,rfl,_,rfl,_,rfl,p,_,0,_,rfl,rfl,SqL.of hp1,rfl,c,_,rfl,.inl (SqL.of hc1),_,_,rfl,rfl,by rw [nl];exact cc,?_⟩
   obtain ⟨x,hx,_⟩:=Jzf (P:=λ _=>True) ns (i:=k%((ns.map V.int).length:Int)) (by simp) (J1s _ (by rw [nl];omega)) (by rw [nl];exact J19 _ cc)
   exact ⟨c,_,_,_,rfl,rfl,SqL.of hc1,hx,hN _ _ ⟨x,rfl,rfl⟩⟩
 rintro _ _ ⟨x,rfl,rfl⟩
 refine Vi (λ σ' H'=>σ'=[some (.ref p),some (.int m),none,some (.int k),some (.int x),none]/\H1=H') (λ N hN=>?_) ?_
 . refine ⟨_,rfl,_,rfl,p,_,0,_,rfl,rfl,SqL.of hp1,rfl,c,_,rfl,.inl (SqL.of hc1),_,_,rfl,rfl,_,rfl,?_⟩
   refine Z3 (λ cc=>?_) (λ cc=>We (hN _ _ ⟨rfl,rfl⟩))
   refine ⟨_,rfl,_,_,rfl,rfl,⟨by decide,by decide,by decide⟩,_,_,rfl,rfl,_,rfl,Z3 (λ cc=>?_) (λ cc=>hN _ _ ⟨rfl,rfl⟩)⟩
   refine ⟨_,rfl,_,rfl,_,_,rfl,rfl,Jbg h0 h1,_,rfl,p,_,2,2,rfl,rfl,hp1,rfl,?_⟩
   refine ⟨_,rfl,_,rfl,_,_,rfl,rfl,h0,?_⟩
   exact q _ _ (J1s _ (by omega)) (J19 _ h0) ⟨ns,k+1,_,Jj,by rw [Jh (Qj npc)];exact hc1,hl,by omega,by omega⟩ (kp1.trans (Kp.at (by simp) _))
 rintro _ _ ⟨rfl,rfl⟩
 have kb:k<2^41:=by omega
 refine Vi (λ σ' H'=>∃ y:Int,σ'=[some (.ref p),some (.int m),none,some (.int k),some (.int x),some (.int y)]/\H1=H'/\0<=y/\y<2147483647) (λ N hN=>?_) ?_
 . refine ⟨_,rfl,_,_,rfl,rfl,(show (0:Int)<1000003 by decide),_,_,rfl,rfl,_,rfl,_,_,rfl,rfl,.inl ⟨by decide,by decide⟩,_,rfl,_,_,rfl,rfl,.inr ⟨by omega,by omega⟩,_,rfl,_,_,rfl,rfl,.inl ⟨by decide,by decide⟩,_,_,rfl,rfl,_,_,rfl,rfl,_,_,rfl,rfl,.inl ⟨?_,?_⟩,_,_,rfl,rfl,(show (0:Int)<2147483647 by decide),hN _ _ ⟨_,rfl,rfl,J1s _ (by decide),J19 _ (by decide)⟩⟩
   all_goals (have:=J1s x (show (1000003:Int)≠0 by decide);have:=J19 x (show (0:Int)<1000003 by decide);omega)
 rintro _ _ ⟨y,rfl,rfl,y0,y1⟩
 refine Vi (λ σ' H'=>∃ y:Int,σ'=[some (.ref p),some (.int m),none,some (.int k),some (.int x),some (.int y)]/\H1=H'/\0<=y) (λ N hN=>?_) ?_
 . refine ⟨_,rfl,_,rfl,_,_,rfl,rfl,.inl ⟨by omega,by omega⟩,_,rfl,_,_,rfl,rfl,.inl ⟨by decide,by decide⟩,_,_,rfl,rfl,_,rfl,_,_,rfl,rfl,(show (0:Int)<65537 by decide),_,_,rfl,rfl,_,_,rfl,rfl,(show (0:Int)<2147483629 by decide),hN _ _ ⟨_,rfl,rfl,J1s _ (by decide)⟩⟩
 rintro _ _ ⟨y,rfl,rfl,y0⟩
 refine ⟨_,rfl,_,_,rfl,rfl,Jbg (by decide) (by decide +kernel),_,rfl,_,_,rfl,rfl,h0,?_⟩
 exact q _ _ (J1s _ (by omega)) (J19 _ h0) ⟨ns,k+1,g,hp1,hc1,hl,by omega,by omega⟩ kp1
theorem Jc5:FnScope ["_law_tape_here","_law_way","_law_some"] ["_law_tape_here"] (Je Jd8):=⟨rfl,rfl,rfl,by decide +kernel,rfl,by decide +kernel,by decide +kernel⟩
theorem Jnd (T:Txt mg) (D:Def K mg "_law_gain" Jd8 ["_law_tape_here"]) (Ga:Cal P w K mg base "_law_draw" 1 ["_law_tape_here","_law_many"] (Jm Jdz)):Cal P w K mg base "_law_gain" 2 ["_law_tape_here"] (Jm Je0):=by
 refine D.cal λ f fd F=>F.ok Jc5 (Yb ?_) (λ cdv A outer s H vs Q E hr h=>?_)
 . rintro as n P ⟨rfl,_⟩
   rfl
 refine ⟨_,(@Ja _ _ _ _ _ (J5 (i:=1) Jc5.nd rfl (Qa rfl) (Yw Ga (hr.mono (by decide)) rfl (Jb (pv 0) (Zc Jd Jc))))
  (@Ja _ _ _ _ _ (Y5 (Jy Jbc (pv 1) Jd (J4 _)) (@Ja _ _ _ _ _ (@B2 _ _ 2 _ _ _ _ Jc5.nd rfl (Qa rfl) (Ye (Wc (J3 (Jo Vr (Yw Ga (hr.mono (by decide)) rfl (Jb (pv 0) (Zc Jd Jc))) Jd)) (Wc (J3 (Jo Vr (Yw Ga (hr.mono (by decide)) rfl (Jb (pv 0) (Zc Jd Jc))) Jd)) Jr))) rfl (Qa rfl))
  (@Jf _ _ _ (@Ju _ _ _ _ (Ji Js (pv 2) (Jo Jbf (Yw Ga (hr.mono (by decide)) rfl (Jb (pv 0) (Zc Jd Jc))) Jd) (λ _ _=>rfl))))) Ya)
  (@Jf _ _ _ (@Ju _ _ _ _ (Ji Js (@PEs.out _ _ _ (Ye (Jl Jz (Jl Jz (Vp (J3 (Bl Wp Jd)) (Vp (J3 (Bl Wp Jd)) (Vp (J3 (Bl Wp Jd)) (Jl Jz (Jl Jz (Jl Jz (Vp (J3 (Bl Wp Jd)) Jr))))))))))) (pv 1) (λ _ _=>rfl)))))),J8 h ?_⟩
 rintro as n P ⟨rfl,hn,q⟩
 refine ⟨rfl,10,rfl,by omega,by decide,by decide +kernel,λ r r0 r1=>⟨[.tape,.d (.int r),.jnk],.eq rfl,?_⟩⟩
 refine Jgi (Z3 (λ c=>?_) (λ c=>⟨_,.refl,?_⟩))
 . refine ⟨19,rfl,by omega,by decide,by decide +kernel,λ z z0 z1=>⟨195,rfl,by omega,by decide,by decide +kernel,λ y y0 y1=>⟨V6 (Q1 rfl),⟨_,.refl,3,rfl,by omega,by decide,by decide +kernel,λ v v0 v1=>?_⟩⟩⟩⟩
   have:v/2=0\/v/2=1:=by omega
   refine ⟨Jbg (by decide) (by decide +kernel),?_⟩
   rcases this with h | h
   . exact ⟨.int (z-9),by show atI [Qi (z-9),.int (y-97)] (v/2)=_;rw [h];rfl,q _ _ (by omega) (by omega) (by omega)⟩
   . exact ⟨.int (y-97),by show atI [Qi (z-9),.int (y-97)] (v/2)=_;rw [h];rfl,q _ _ (by omega) (by omega) (by omega)⟩
 . have hr9:r≠9:=of_decide_eq_false c
   refine ⟨V6 (Q1 rfl),?_⟩
   have:r=0\/r=1\/r=2\/r=3\/r=4\/r=5\/r=6\/r=7\/r=8:=by omega
   rcases this with rfl | rfl | rfl | rfl | rfl | rfl | rfl | rfl | rfl<;>exact ⟨_,rfl,q _ _ (by decide) (by decide) (by omega)⟩
theorem Jll:FnScope ["_law_tape_here","_law_purses"] ["_law_tape_here","_law_purses"] (Je Ja3):=⟨rfl,rfl,rfl,by decide +kernel,rfl,by decide +kernel,by decide +kernel⟩
theorem Jlm (T:Txt mg) (D:Def K mg "_law_gains" Ja3 ["_law_tape_here","_law_purses"]) (G3:Cal P w K mg base "_law_gain" 2 ["_law_tape_here"] (Jm Je0)):Cal P w K mg base "_law_gains" 3 ["_law_tape_here","_law_purses"] (Jm Jdg):=by
 refine D.cal λ f fd F=>F.ok Jll (Yb ?_) (λ cdv A outer s H vs Q E hr h=>?_)
 . rintro as n P ⟨U,rfl,_⟩
   rfl
 refine ⟨_,(@Jf _ _ _ (@Ju _ _ _ _ (Yj Yu rfl T.b_tuple J8x (Jgy (Zo (sc:=(Je Ja3)) (N:=["_law_tape_here","_law_purses"]) (N':=["_law_p","_law_tape_here"]) (k:=1) (idx:=[0]) rfl (by exact ⟨rfl,by decide +kernel,by decide +kernel,by decide +kernel,by decide +kernel,by decide +kernel,rfl,rfl⟩) rfl rfl (Yr rfl T.b_range (Jb (pv 1) Jc)) (λ _ _ _ _=>(J0 (i:=0) (show (["_law_p","_law_tape_here"]:List Str).Nodup by decide +kernel) rfl (Qa rfl) (Qv rfl))) (λ _ _ _ _=>Y7) (λ _ _ _ _=>(Yw G3 (hr.mono (by decide)) rfl (Jb (pv 1) Jc)))) Jc)))),J8 h ?_⟩
 rintro as n P ⟨U,rfl,hn,u0,u1,q⟩
 have hs:sizeLine=16777216:=J8p
 refine ⟨rfl,U,rfl,⟨by omega,by omega⟩,⟨rfl,by rw [Yn];omega⟩,?_⟩
 refine Jmd 4 (n+24) (λ y=>∃ i:Int,y = .int i/\-97<=i/\i<=97) (λ x _ k K hk h=>Bt ⟨rfl,by omega,λ r m r0 r1 hm=>h _ _ ⟨r,rfl,r0,r1⟩ hm⟩) (by rw [Yn];omega) (λ ys k hy hg hk=>?_)
 rw [Yn] at hy hk
 obtain ⟨f,rfl,hf⟩:=Jx2 ys _ hy hg
 exact q f k hf (by omega)
theorem Zw:FnScope ["_law_tape_here","_law_rooms","_law_purses","_law_ways","_law_pair","_law_extra","_law_room","_law_one","_law_step"] ["_law_tape_here","_law_rooms","_law_purses"] (Je B3):=⟨rfl,rfl,rfl,by decide +kernel,rfl,by decide +kernel,by decide +kernel⟩
theorem Jjc (T:Txt mg) (D:Def K mg "_law_nested" B3 ["_law_tape_here","_law_rooms","_law_purses"]) (Gf:Cal P w K mg base "_law_gains" 3 ["_law_tape_here","_law_purses"] (Jm Jdg)) (Ga:Cal P w K mg base "_law_draw" 1 ["_law_tape_here","_law_many"] (Jm Jdz)):Cal P w K mg base "_law_nested" 4 ["_law_tape_here","_law_rooms","_law_purses"] (Y8 Jd3):=by
 refine D.cal λ f fd F=>F.ok Zw (Wz ?_) (λ cdv A outer s H vs Q E hr h=>?_)
 . rintro as n P ⟨R,U,rfl,_⟩
   rfl
 refine ⟨_,(@Ja _ _ _ _ _ (@B2 _ _ 3 _ _ _ _ Zw.nd rfl (Qa rfl) (Ye Jr) rfl (Qa rfl))
  (@Ja _ _ _ _ _ (@B2 _ _ 4 _ _ _ _ Zw.nd rfl (Qa rfl) (Ye (Z4 (J3 (Yw Gf (hr.mono (by decide)) rfl (Jb (pv 0) (Jb (pv 2) Jc)))) Jr)) rfl (Qa rfl))
  (@Ja _ _ _ _ _ (Jbp (Jjp J2s J2t J2u Vo (pv 4) (Z0 (Yj Yu rfl T.b_tuple J8x (Jgy (Zo (sc:=(Je B3)) (N:=["_law_tape_here","_law_rooms","_law_purses","_law_ways","_law_pair","_law_extra","_law_room","_law_one","_law_step"]) (N':=["_law_number"]) (k:=1) (idx:=[]) rfl (by exact ⟨rfl,by decide +kernel,by decide +kernel,by decide +kernel,by decide +kernel,by decide +kernel,rfl,rfl⟩) rfl rfl (Jke (Ji Js (pv 4) Jd (λ _ _=>rfl))) (λ _ _ _ _=>(J0 (i:=0) (show (["_law_number"]:List Str).Nodup by decide +kernel) rfl (Qa rfl) (Qv rfl))) (λ _ _ _ _=>Y7) (λ _ _ _ _=>(Bl Wp (pv 0)))) Jc)) Jc)))
  (@Ja _ _ _ _ _ (J5 (i:=5) Zw.nd rfl (Qa rfl) (Yw Ga (hr.mono (by decide)) rfl (Jb (pv 0) (Jb (pv 2) Jc))))
  (@Ja _ _ _ _ _ (Zt Xh rfl (Yr rfl T.b_range (Jb (pv 1) Jc)) (J0 (i:=6) Zw.nd rfl (Qa rfl) (Qa rfl))
  (@Ja _ _ _ _ _ (J5 (i:=7) Zw.nd rfl (Qa rfl) (Yj Wy rfl T.b_list J82 (J9 (Ji Js (pv 4) (Jo Bs (pv 6) Jd) (λ _ _=>rfl)) Jc)))
  (@Ja _ _ _ _ _ (Yi (Jo Zu (Ji Js (pv 7) (pv 5) (λ _ _=>rfl)) (Ji Js (@PEs.out _ _ _ (Ye (Jl Jz (Jl Jz (Jl Jz (Jl Jz (Vp (J3 (Bl Wp Jd)) Jr))))))) (Yw Ga (hr.mono (by decide)) rfl (Jb (pv 0) (Zc Jd Jc))) (λ _ _=>rfl))) (Za (pv 7) (pv 5) Yh (λ v=>J6 _ _ _ _ _ v)))
  (@Ja _ _ _ _ _ (Jbp (Jjp J2s J2t J2u Vo (pv 3) (Jch (@PEs.out _ _ _ (Yq (Zd (J3 (pv 6)) (Zd (J3 (pv 6)) (Z4 (J3 (Yj Yu rfl T.b_tuple J8x (Jb (pv 7) Jc))) Jr))))) Jc)))
  (@Ja _ _ _ _ _ (J5 (i:=8) Zw.nd rfl (Qa rfl) (Jo Jaa (@PEs.out _ _ _ (Ye (Jl Jz Jr))) (pv 2)))
  (@Ja _ _ _ _ _ (Yi (Ji Js (@PEs.out _ _ _ (Ye (Vp (J3 (Bl Wp Jd)) (Vp (J3 (Bl Wp Jd)) (Vp (J3 (Bl Wp Jd)) (Jl Jz (Jl Jz Jr))))))) (Yw Ga (hr.mono (by decide)) rfl (Jb (pv 0) (Zc Jd Jc))) (λ _ _=>rfl)) (Za (pv 8) (Yw Ga (hr.mono (by decide)) rfl (Jb (pv 0) (Jb (pv 2) Jc))) Yh (λ v=>Jgn _ _ _ _ _ _ _ v)))
  (@Jf _ _ _ (Jbp (Jjp J2s J2t J2u Vo (pv 3) (Jch (@PEs.out _ _ _ (Yq (Zd (J3 (pv 6)) (Wc (J3 (Jo Bs (Jo Zu (pv 6) Jd) (pv 1))) (Z4 (J3 (Yj Yu rfl T.b_tuple J8x (Jb (pv 8) Jc))) Jr))))) Jc))))))))))
  (@Jf _ _ _ (@Ju _ _ _ _ (pv 3)))))))),Z9 h ?_⟩
 rintro as n P ⟨R,U,rfl,hn,hR,hU,q⟩
 have hs:sizeLine=16777216:=J8p
 refine ⟨rfl,Xu _,⟨[.tape,.d (.int R),.d (.int U),.own [],.jnk,.jnk,.jnk,.jnk,.jnk],.eq rfl,?_⟩⟩
 refine ⟨U,rfl,by omega,by omega,by omega,λ f m hf hm=>⟨V6 (Q1 rfl),⟨[.tape,.d (.int R),.d (.int U),.own [],.own [Jfo U f],.jnk,.jnk,.jnk,.jnk],.eq rfl,?_⟩⟩⟩
 refine ⟨_,rfl,⟨rfl,by rw [Bv];omega⟩,?_⟩
 refine Bb (λ i=>.int (-(f i))) (λ i hi n K hk=>Bt hk) ⟨show 1<sizeLine by omega,⟨[.tape,.d (.int R),.d (.int U),.own [],.own [Jfo U f,Jfo U λ i=>-(f i)],.jnk,.jnk,.jnk,.jnk],.eq rfl,?_⟩⟩
 refine ⟨U,rfl,by omega,by omega,V7 (by omega),λ e e0 e1=>⟨_,.refl,?_⟩⟩
 refine ⟨R,rfl,⟨by omega,by omega⟩,?_⟩
 refine ⟨λ i env k=>∃ (ws:List Way) (x y z:Vl),env=[.tape,.d (.int R),.d (.int U),.own (ws.map Ym),.own [Jfo U f,Jfo U λ i=>-(f i)],.d (.int e),x,y,z]/\ws.length=2*i/\(∀ w∈ws,WayOk R U w)/\k<=n+25+3*i,⟨[],_,_,_,rfl,rfl,(λ w hw=>by cases hw),by omega⟩,?_,?_⟩
 . rintro i x env k hx ⟨ws,_,_,_,rfl,hl,hw,hk⟩
   obtain ⟨hi,rfl⟩:=Jay hx
   have hi12:i<12:=by omega
   obtain ⟨g,hg,hgb⟩:∃ g:Nat->Int,atI [Jfo U f,Jfo U λ i=>-(f i)] ((i:Int)%2)=some (Jfo U g)/\∀ j,j<U.toNat->-97<=g j/\g j<=97:=by
    have:(i:Int)%2=0\/(i:Int)%2=1:=by omega
    rcases this with h | h
    . exact ⟨f,by rw [h];rfl,hf⟩
    . exact ⟨λ i=>-(f i),by rw [h];rfl,λ j hj=>by have:=hf j hj;show -97<=-(f j)/\-(f j)<=97;omega⟩
   refine ⟨show (0:Int)<2 by decide,_,hg,⟨_,.refl,?_⟩⟩
   refine ⟨_,Yc e0 (Ja9 (by omega)),V6 (Q1 rfl),5,rfl,by omega,by decide,by decide +kernel,λ r r0 r1=>?_⟩
   obtain ⟨v,hv,v0,v1⟩:∃ v:Int,atI [Qi 0,.int 0,.int 0,.int 1,.int (-1)] r=some (.int v)/\-1<=v/\v<=1:=by
    have:r=0\/r=1\/r=2\/r=3\/r=4:=by omega
    rcases this with rfl | rfl | rfl | rfl | rfl<;>exact ⟨_,rfl,by decide,by decide⟩
   refine ⟨_,hv,_,Jci e0 (by rw [Bv];omega),?_⟩
   rw [Jba]
   have ge:=hgb e.toNat (by omega)
   have b1:∀ j,j<U.toNat->-99<=putF g e.toNat (g e.toNat+v) j/\putF g e.toNat (g e.toNat+v) j<=99:=Jkv (λ j hj=>by have:=hgb j hj;omega) (by omega)
   generalize putF g e.toNat (g e.toNat+v)=g1 at b1
   refine ⟨_,.fz 7 _ rfl .refl,Vj,by rw [Qb];omega,?_⟩
   refine ⟨[.tape,.d (.int R),.d (.int U),.own ((ws++[Jgj i i U g1]).map Ym),.own [Jfo U f,Jfo U λ i=>-(f i)],.d (.int e),.d (.int i),.d (.list (fl U.toNat g1)),_],.eq (by rw [Xg,J2l,<- Jhy];rfl),?_⟩
   refine ⟨V6 (Q1 rfl),⟨by omega,by omega,by simp;omega⟩,?_⟩
   rw [Jpk]
   refine ⟨_,.refl,V6 (Q1 rfl),5,rfl,by omega,by decide,by decide +kernel,λ r r0 r1=>?_⟩
   obtain ⟨v2,hv2,v20,v21⟩:∃ v:Int,atI [Qi (-1),.int (-1),.int (-1),.int 0,.int 1] r=some (.int v)/\-1<=v/\v<=1:=by
    have:r=0\/r=1\/r=2\/r=3\/r=4:=by omega
    rcases this with rfl | rfl | rfl | rfl | rfl<;>exact ⟨_,rfl,by decide,by decide⟩
   refine ⟨_,hv2,U,rfl,by omega,by omega,V7 (by omega),λ z z0 z1=>⟨_,Jci z0 (by rw [Bv];omega),?_⟩⟩
   rw [Jba]
   have b2:∀ j,j<U.toNat->-99<=putF (λ _=>0) z.toNat v2 j/\putF (λ _=>0) z.toNat v2 j<=99:=Jkv (λ j hj=>by omega) (by omega)
   generalize putF (λ _=>0) z.toNat v2=g2 at b2
   refine ⟨_,.fz 8 _ rfl .refl,show (0:Int)<R by omega,Vj,by rw [Qb,Xp];simp;omega,?_⟩
   refine ⟨ws++[Jgj i i U g1]++[Jgj i ((i+1:Int)%R) U g2],.d (.int i),.d (.list (fl U.toNat g1)),.d (.list (fl U.toNat g2)),?_,by simp;omega,λ w hw'=>?_,by omega⟩
   . rw [Xg (l₂:=[Jgj i ((i+1:Int)%R) U g2]),J2l,<- Jhy];rfl
   . have hmod:0<=(i+1:Int)%R/\(i+1:Int)%R<R:=⟨J1s _ (by omega),J19 _ (by omega)⟩
     rcases Xk.mp hw' with hw' | hw'
     . rcases Xk.mp hw' with hw' | hw'
       . exact hw w hw'
       . rw [Qu.mp hw']
         exact Jhz (by omega) (by omega) (by omega) b1
     . rw [Qu.mp hw']
       exact Jhz (by omega) hmod (by omega) b2
 . rintro env k ⟨ws,_,_,_,rfl,hl,hw,hk⟩
   rw [Yn] at hl hk
   exact ⟨_,.refl,q ws k hw (by omega) (by omega)⟩
theorem Zh:FnScope ["_law_tape_here","_law_most","_law_rooms","_law_purses","_law_ways","_law_down","_law_k","_law_one","_law_at","_law_a","_law_b"] ["_law_tape_here","_law_most"] (Je Jb7):=⟨rfl,rfl,rfl,by decide +kernel,rfl,by decide +kernel,by decide +kernel⟩
theorem Jne (T:Txt mg) (D:Def K mg "_law_book" Jb7 ["_law_tape_here","_law_most"]) (Ga:Cal P w K mg base "_law_draw" 1 ["_law_tape_here","_law_many"] (Jm Jdz)) (G4:Cal P w K mg base "_law_nested" 4 ["_law_tape_here","_law_rooms","_law_purses"] (Y8 Jd3)) (Gf:Cal P w K mg base "_law_gains" 3 ["_law_tape_here","_law_purses"] (Jm Jdg)):Cal P w K mg base "_law_book" 5 ["_law_tape_here","_law_most"] (Jm Jku):=by
 refine D.cal λ f fd F=>F.ok Zh (Yb ?_) (λ cdv A outer s H vs Q E hr h=>?_)
 . rintro as n P ⟨mr,mu,mw,rfl,_⟩
   rfl
 refine ⟨_,(@Ja _ _ _ _ _ (J5 (i:=2) Zh.nd rfl (Qv rfl) (Jo Zu Jd (Yw Ga (hr.mono (by decide)) rfl (Jb (pv 0) (J9 (Ji Jp (pv 1) Jd (λ _ _=>rfl)) Jc)))))
  (@Ja _ _ _ _ _ (J5 (i:=3) Zh.nd rfl (Qa rfl) (Jo Zu Jd (Yw Ga (hr.mono (by decide)) rfl (Jb (pv 0) (J9 (Ji Jp (pv 1) Jd (λ _ _=>rfl)) Jc)))))
  (@Ja _ _ _ _ _ (@B2 _ _ 4 _ _ _ _ Zh.nd rfl (Qa rfl) (Ye Jr) rfl (Qa rfl))
  (@Ja _ _ _ _ _ (Y5 (Jy Jbc (Yw Ga (hr.mono (by decide)) rfl (Jb (pv 0) (Zc Jd Jc))) Jd (J4 _)) (@Jf _ _ _ (J5 (i:=4) Zh.nd rfl (Qa rfl) (Yw G4 (hr.mono (by decide)) rfl (Jb (pv 0) (Jb (pv 2) (Jb (pv 3) Jc)))))) Ya)
  (@Ja _ _ _ _ _ (J5 (i:=5) Zh.nd rfl (Qa rfl) (Yw Ga (hr.mono (by decide)) rfl (Jb (pv 0) (Zc Jd Jc))))
  (@Ja _ _ _ _ _ (Zt Xh rfl (Yr rfl T.b_range (Z0 (Yw Ga (hr.mono (by decide)) rfl (Jb (pv 0) (Z0 (Jw (Jqe rfl) rfl T.b_max boot_max (Zc Jd (Wq (Jo Vr (Jo Zu (Ji Jp (pv 1) Jd (λ _ _=>rfl)) Jd) (Jw J1 rfl T.b_len Xm (Jb (pv 4) Jc))) Jc))) Jc))) Jc)) (J0 (i:=6) Zh.nd rfl (Qa rfl) (Qa rfl))
  (@Ja _ _ _ _ _ (J5 (i:=7) Zh.nd rfl (Qa rfl) (Yj Wy rfl T.b_list J82 (Z0 (Yw Gf (hr.mono (by decide)) rfl (Jb (pv 0) (Jb (pv 3) Jc))) Jc)))
  (@Ja _ _ _ _ _ (Y5 (Jy Jbc (pv 5) Jd (J4 _)) (@Ja _ _ _ _ _ (J5 (i:=8) Zh.nd rfl (Qa rfl) (Yw Ga (hr.mono (by decide)) rfl (Jb (pv 0) (Jb (pv 3) Jc))))
  (@Jf _ _ _ (Yi (Jw (Jqf rfl) rfl T.b_min J9g (J9 (Ji Js (pv 7) (pv 8) (λ _ _=>rfl)) (Jl1 (Bl Wp Jd) Jc))) (Za (pv 7) (pv 8) Yh (λ v=>J6 _ _ _ _ _ v))))) Ya)
  (@Ja _ _ _ _ _ (Yi (Zo (sc:=(Je Jb7)) (N:=["_law_tape_here","_law_most","_law_rooms","_law_purses","_law_ways","_law_down","_law_k","_law_one","_law_at","_law_a","_law_b"]) (N':=["_law_end","_law_tape_here","_law_rooms"]) (k:=1) (idx:=[0,2]) rfl (by exact ⟨rfl,by decide +kernel,by decide +kernel,by decide +kernel,by decide +kernel,by decide +kernel,rfl,rfl⟩) rfl rfl (Yr rfl T.b_range (Zc Jd Jc)) (λ _ _ _ _=>(J0 (i:=0) (show (["_law_end","_law_tape_here","_law_rooms"]:List Str).Nodup by decide +kernel) rfl (Qa rfl) (Qv rfl))) (λ _ _ _ _=>Y7) (λ _ _ _ _=>(Yw Ga (hr.mono (by decide)) rfl (Jb (pv 1) (Jb (pv 2) Jc))))) (Jl4 (K':=K) (i:=9) (j:=10) rfl Zh.nd ⟨rfl,(Qa rfl),(Qa rfl)⟩ ⟨rfl,(Qa rfl),(Qa rfl)⟩ rfl))
  (@Jf _ _ _ (Jbp (Jjp J2s J2t J2u Vo (pv 4) (Jch (@PEs.out _ _ _ (Yq (Zd (J3 (pv 9)) (Zd (J3 (pv 10)) (Z4 (J3 (Yj Yu rfl T.b_tuple J8x (Jb (pv 7) Jc))) Jr))))) Jc))))))))
  (@Jf _ _ _ (@Ju _ _ _ _ (@PEs.out _ _ _ (Yq (Zd (J3 (pv 2)) (Zd (J3 (pv 3)) (Z4 (J3 (Yj Yu rfl T.b_tuple J8x (Jb (pv 4) Jc))) Jr))))))))))))),J8 h ?_⟩
 rintro as n P ⟨mr,mu,mw,rfl,hn,hr,hu,hw,q⟩
 have hs:sizeLine=16777216:=J8p
 refine ⟨rfl,_,rfl,mr,rfl,by omega,by omega,V7 (by omega),λ r r0 r1=>⟨_,.refl,_,rfl,mu,rfl,by omega,by omega,V7 (by omega),λ u u0 u1=>⟨_,.refl,Xu _,?_⟩⟩⟩
 refine ⟨[.tape,.d (.tuple [.int mr,.int mu,.int mw]),.d (.int (1+r)),.d (.int (1+u)),.own [],.jnk,.jnk,.jnk,.jnk,.jnk,.jnk],.eq rfl,?_⟩
 generalize hR:1+r=R
 generalize hU:1+u=U
 refine Jsj (λ e k=>∃ ws:List Way,e=[.tape,.d (.tuple [.int mr,.int mu,.int mw]),.d (.int R),.d (.int U),.own (ws.map Ym),.jnk,.jnk,.jnk,.jnk,.jnk,.jnk]/\(∀ w∈ws,WayOk R U w)/\ws.length<=24/\k<=n+83) (λ N hN=>?_) ?_
 . refine ⟨3,rfl,by omega,by decide,by decide +kernel,λ z z0 z1=>Jgi (Z3 (λ c=>?_) (λ c=>?_))⟩
   . exact ⟨R,U,rfl,by omega,by omega,by omega,λ ws m hw hl hm=>hN _ _ ⟨ws,rfl,hw,hl,by omega⟩⟩
   . exact hN _ _ ⟨[],rfl,(λ w hw=>by cases hw),by decide,by omega⟩
 rintro _ k ⟨ws,rfl,hw0,hl0,hk⟩
 refine ⟨_,.refl,3,rfl,by omega,by decide,by decide +kernel,λ dn d0 d1=>⟨_,.refl,_,rfl,?_⟩⟩
 generalize hmm:(if mw+1-((ws.map Ym).length:Int)>1 then mw+1-((ws.map Ym).length:Int) else 1)=mm
 have hmm2:1<=mm/\mm<=37/\(mm=1\/mm+ws.length=mw+1):=by
  rw [Qb] at hmm
  split at hmm<;>omega
 refine ⟨mm,by rw [<- hmm],by omega,by omega,V7 (by omega),λ t t0 t1=>⟨t,rfl,⟨by omega,by omega⟩,?_⟩⟩
 refine ⟨λ i env k'=>∃ (vs:List Way) (a b c d e:Vl),env=[.tape,.d (.tuple [.int mr,.int mu,.int mw]),.d (.int R),.d (.int U),.own (vs.map Ym),.d (.int dn),a,b,c,d,e]/\(∀ w∈vs,WayOk R U w)/\vs.length=ws.length+i/\k'<=n+85+27*i,⟨ws,_,_,_,_,_,rfl,hw0,rfl,by omega⟩,?_,?_⟩
 . rintro i x env k' hx ⟨vs,xa,xb,xc,xd,xe,rfl,hw,hl,hk'⟩
   obtain ⟨hi,rfl⟩:=Jay hx
   refine ⟨U,rfl,by omega,by omega,by omega,λ f m hf hm=>⟨_,.refl,?_⟩⟩
   refine Jsj (λ e j=>∃ (g:Nat->Int) (x:Vl),e=[.tape,.d (.tuple [.int mr,.int mu,.int mw]),.d (.int R),.d (.int U),.own (vs.map Ym),.d (.int dn),.d (.int i),.own (fl U.toNat g),x,xd,xe]/\(∀ j,j<U.toNat->-99<=g j/\g j<=99)/\j<=m+1) (λ N hN=>?_) ?_
   . refine Jgi (Z3 (λ c=>?_) (λ c=>hN _ _ ⟨f,_,rfl,λ j hj=>by have:=hf j hj;omega,by omega⟩))
     refine ⟨U,rfl,by omega,by omega,V7 (by omega),λ p p0 p1=>⟨_,.refl,_,Yc p0 (Ja9 (by omega)),_,Jci p0 (by rw [Bv];omega),?_⟩⟩
     rw [Jba]
     have fp:=hf p.toNat (by omega)
     exact hN _ _ ⟨_,_,rfl,Jkv (λ j hj=>by have:=hf j hj;omega) (by show -99<=(if (-1:Int)<f p.toNat then (-1:Int) else f p.toNat)/\(if (-1:Int)<f p.toNat then (-1:Int) else f p.toNat)<=99;split<;>omega),by omega⟩
   rintro _ j ⟨g,y,rfl,hg,hj⟩
   refine ⟨_,.fz 7 _ rfl .refl,2,rfl,⟨by decide,by decide⟩,⟨rfl,by rw [Yn];decide⟩,?_⟩
   refine Jmd 1 (m+3) (λ y=>∃ i:Int,y = .int i/\0<=i/\i<=R-1) (λ x _ k K hk h=>Bt ⟨R,rfl,by omega,by omega,V7 (by omega),λ r r0 r1=>h _ _ ⟨r,rfl,r0,by omega⟩ (by omega)⟩) (by rw [Yn];show j+1*2<=m+3;omega) (λ ys k hy hgy hk=>?_)
   rw [Yn] at hy hk
   match ys,hy with
   | [y0,y1],_=>
    obtain ⟨a,rfl,a0,a1⟩:=hgy _ Qn
    obtain ⟨b,rfl,b0,b1⟩:=hgy _ (Ql _ Qn)
    refine ⟨rfl,rfl,⟨_,.refl,Vj,by rw [Qb];omega,?_⟩⟩
    have hk2:k<=j+1*2:=hk
    refine ⟨vs++[Jgj a b U g],.d (.int i),.d (.list (fl U.toNat g)),y,.d (.int a),.d (.int b),?_,λ w hw'=>?_,by simp;omega,by omega⟩
    . rw [Xg,J2l,<- Jhy];rfl
    . rcases Xk.mp hw' with hw' | hw'
      . exact hw w hw'
      . rw [Qu.mp hw']
        exact Jhz (by omega) (by omega) (by omega) hg
 . rintro env k' ⟨vs,_,_,_,_,_,rfl,hw,hl,hk'⟩
   rw [Yn] at hl hk'
   refine ⟨_,.fz 4 _ rfl .refl,Vj,q R U vs k' ⟨by omega,by omega,by omega,by omega,by omega,hw⟩ (by omega) (by omega) (by omega)⟩
theorem Bh:FnScope ["_law_book_here","_law_some","_law_room","_law_found","_law_at","_law_k","_law_a","_law_b","_law_gains_here"] ["_law_book_here","_law_some","_law_room"] (Je Jf0):=⟨rfl,rfl,rfl,by decide +kernel,rfl,by decide +kernel,by decide +kernel⟩
theorem Jo0 (T:Txt mg) (D:Def K mg "_law_met" Jf0 ["_law_book_here","_law_some","_law_room"]):Cal P w K mg base "_law_met" 1 ["_law_book_here","_law_some","_law_room"] (Jm Jsu):=by
 refine D.cal λ f fd F=>F.ok Bh (Yb ?_) (λ cdv A outer s H vs Q E hr h=>?_)
 . rintro as n P ⟨R,U,ws,ks,x,rfl,_⟩
   rfl
 refine ⟨_,(@Ja _ _ _ _ _ (@B2 _ _ 3 _ _ _ _ Bh.nd rfl (Qa rfl) (Ye (Zd (J3 (pv 2)) Jr)) rfl (Qa rfl))
  (@Ja _ _ _ _ _ (J5 (i:=4) Bh.nd rfl (Qa rfl) Jd)
  (@Ja _ _ _ _ _ (Jee Xh (Jy B0 (pv 4) (Jw J1 rfl T.b_len Xm (Jb (pv 3) Jc)) (J4 _))
  (@Ja _ _ _ _ _ (Zt Xh rfl (Bj (pv 1)) (J0 (i:=5) Bh.nd rfl (Qa rfl) (Qa rfl))
  (@Ja _ _ _ _ _ (Yi (Ji Jp (Ji Jp (pv 0) Jd (λ _ _=>rfl)) (pv 5) (λ _ _=>rfl)) (Jbv (K':=K) (i:=6) (j:=7) (m:=8) rfl Bh.nd ⟨rfl,(Qa rfl),(Qa rfl)⟩ ⟨rfl,(Qa rfl),(Qa rfl)⟩ ⟨rfl,(Qa rfl),(Qa rfl)⟩ rfl))
  (@Jf _ _ _ (Y5 (PW.pt (Jhb (Jy Jbc (pv 6) (Ji Js (pv 3) (pv 4) (λ _ _=>rfl)) (J4 _)) (Jec (Jy (Jdp (K':=K) rfl) (pv 7) (pv 3) (by with_unfolding_all rfl))))) (@Jf _ _ _ (Jbp (Jjp J2s J2t J2u Vo (pv 3) (Jb (pv 7) Jc)))) Ya))))
  (@Jf _ _ _ (J5 (i:=4) Bh.nd rfl (Qa rfl) (Jo Zu (pv 4) Jd)))))
  (@Jf _ _ _ (@Ju _ _ _ _ (pv 3)))))),J8 h ?_⟩
 rintro as n P ⟨R,U,ws,ks,x,rfl,ok,hin,hkl,hx,q⟩
 have hs:sizeLine=16777216:=J8p
 have wl:=ok.len
 have r1:=ok.r1
 refine ⟨rfl,by rw [hs];exact Q1 rfl,_,.refl,_,.refl,?_⟩
 refine ⟨λ m env k=>k=n/\∃ (l:List Int) (i:Nat) (a b c d:Vl),env=[.d (J2 R U ws),.d (.list (ks.map .int)),.d (.int x),.own (l.map .int),.d (.int (i:Int)),a,b,c,d]/\MI R ws ks x l i 0/\i<=l.length/\m=R.toNat-i,⟨_,rfl,[x],0,_,_,_,_,rfl,⟨by simp,by simp,λ y hy=>by rw [Qu.mp hy];exact ⟨hx,.refl _⟩,λ p hp=>absurd hp (J2i _),λ p hp=>absurd hp (J2i _)⟩,Xu _,rfl⟩,?_⟩
 rintro m env k ⟨rfl,l,i,a,b,c,d,rfl,mi,hil,rfl⟩
 have ll:=Jh8 mi.nd λ y hy=>(mi.bd y hy).1
 refine Z3 (λ c1=>?_) (λ c1=>?_)
 . have hi:i<l.length:=by
    have:=of_decide_eq_true c1
    rw [Qb] at this
    omega
   refine ⟨λ j env m=>m=k/\∃ (l:List Int) (a b c d:Vl),env=[.d (J2 R U ws),.d (.list (ks.map .int)),.d (.int x),.own (l.map .int),.d (.int (i:Int)),a,b,c,d]/\MI R ws ks x l i j/\i<l.length,⟨rfl,l,_,_,_,_,rfl,mi,hi⟩,?_,?_⟩
   . rintro j y env m hy ⟨rfl,l,a,b,c,d,rfl,mi,hi⟩
     rw [Qk] at hy
     obtain ⟨kk,hkk,rfl⟩:=U7.mp hy
     obtain ⟨k0,k1⟩:=hin kk (Xo hkk)
     have w:=ok.ways _ (Yx k0 k1)
     have ll:=Jh8 mi.nd λ y hy=>(mi.bd y hy).1
     have hli:l[i]? = some (l.getD i 0):=by rw [Qd,Qg hi];rfl
     refine ⟨_,Yc (by decide) rfl,_,Jbw k0 k1,rfl,rfl,_,.refl,_,J0b (Xj _) (by omega),Jgi ?_⟩
     rw [Qy]
     refine Z3 (λ c2=>⟨rfl,Jpo _,?_⟩) (λ c2=>We ?_)
     . have e2:=of_decide_eq_true c2
       show if (!inD (.int (Jg ws kk).b) (l.map .int))=true then _ else _
       rw [Jmj]
       refine Z3 (λ c3=>?_) (λ c3=>?_)
       . have hb:(Jg ws kk).b∉l:=by simpa using c3
         refine ⟨by rw [Qb];omega,rfl,l++[(Jg ws kk).b],.d (.int kk),.d (.int (Jg ws kk).a),.d (.int (Jg ws kk).b),.d (.tuple ((Jg ws kk).g.map Qi)),?_,mi.add hkk (by rw [hli,e2]) hb ⟨w.b0,w.b1⟩,by rw [Xp];omega⟩
         rw [Xg]
         rfl
       . have hb:(Jg ws kk).b∈l:=by simpa using c3
         exact ⟨rfl,l,_,_,_,_,rfl,mi.keep hkk λ _=>hb,hi⟩
     . have e2:=of_decide_eq_false c2
       exact ⟨rfl,l,_,_,_,_,rfl,mi.keep hkk λ e=>absurd (by rw [hli] at e;exact (Xr e).symm) e2,hi⟩
   . rintro env m ⟨rfl,l,a,b,c,d,rfl,mi,hi⟩
     rw [Qb] at mi
     have ll:=Jh8 mi.nd λ y hy=>(mi.bd y hy).1
     refine ⟨_,.refl,R.toNat-(i+1),by omega,rfl,l,i+1,a,b,c,d,rfl,mi.next,by omega,rfl⟩
 . have hi:i=l.length:=by
    have:=of_decide_eq_false c1
    rw [Qb] at this
    omega
   subst hi
   exact ⟨_,.refl,q l mi.fin λ y hy=>(mi.bd y hy).1⟩
theorem Jnf:FnScope ["thing"] ["thing"] (Je Jd5):=⟨rfl,rfl,rfl,by decide +kernel,rfl,by decide +kernel,by decide +kernel⟩
theorem Jng (T:Txt mg) (D:Def K mg "is_whole" Jd5 ["thing"]):Cal P w K mg base "is_whole" 1 ["thing"] (Jm Jax):=by
 refine D.cal λ f fd F=>F.ok Jnf (Yb ?_) (λ cdv A outer s H vs Q E hr h=>?_)
 . rintro as n P ⟨x,rfl,_⟩
   rfl
 refine ⟨_,(@Jf _ _ _ (@Ju _ _ _ _ (Jfc (Jw Bp rfl T.b_isinstance J83 (Jb (pv 0) (Jb (Jao rfl T.b_int J9l (v:=.ty "int") rfl) Jc))) (Jce (Jri (Jw Bp rfl T.b_isinstance J83 (Jb (pv 0) (Jb (Jao rfl T.b_bool boot_bool (v:=.ty "bool") rfl) Jc)))))))),J8 h ?_⟩
 rintro as n P ⟨x,rfl,q⟩
 exact ⟨rfl,rfl,rfl,q⟩
theorem Jjd:FnScope ["thing","least","most"] ["thing","least","most"] (Je Jb5):=⟨rfl,rfl,rfl,by decide +kernel,rfl,by decide +kernel,by decide +kernel⟩
theorem Jje (T:Txt mg) (D:Def K mg "is_between" Jb5 ["thing","least","most"]) (Gg:Cal P w K mg base "is_whole" 1 ["thing"] (Jm Jax)):Cal P w K mg base "is_between" 2 ["thing","least","most"] (Jm Jfp):=by
 refine D.cal λ f fd F=>F.ok Jjd (Yb ?_) (λ cdv A outer s H vs Q E hr h=>?_)
 . rintro as n P ⟨x,a,b,rfl,_⟩
   rfl
 refine ⟨_,(@Jf _ _ _ (@Ju _ _ _ _ (Jfc (Yw Gg (hr.mono (by decide)) rfl (Jb (pv 0) Jc)) (Jce (Jrq Jro Jro (pv 1) (pv 0) (pv 2)))))),J8 h ?_⟩
 rintro as n P ⟨x,a,b,rfl,q⟩
 refine ⟨rfl,x,rfl,?_⟩
 by_cases h:a<=x
 . rw [decide_eq_true h] at q
   show match J5g (decide (a<=x)) with | .bool true=>_ | .bool false=>_ | _=>_
   rw [decide_eq_true h]
   exact q
 . rw [decide_eq_false h] at q
   show match J5g (decide (a<=x)) with | .bool true=>_ | .bool false=>_ | _=>_
   rw [decide_eq_false h]
   exact q
theorem Jo1:FnScope ["book","k"] ["book","k"] (Je Jfy):=⟨rfl,rfl,rfl,by decide +kernel,rfl,by decide +kernel,by decide +kernel⟩
theorem Jo2 (T:Txt mg) (D:Def K mg "has_way" Jfy ["book","k"]) (Gh:Cal P w K mg base "is_between" 2 ["thing","least","most"] (Jm Jfp)):Cal P w K mg base "has_way" 3 ["book","k"] (Jm Jhx):=by
 refine D.cal λ f fd F=>F.ok Jo1 (Yb ?_) (λ cdv A outer s H vs Q E hr h=>?_)
 . rintro as n P ⟨R,U,ws,k,rfl,_⟩
   rfl
 refine ⟨_,(@Jf _ _ _ (@Ju _ _ _ _ (Yw Gh (hr.mono (by decide)) rfl (Jb (pv 1) (Zc Jd (Wq (Jo Vr (Jw J1 rfl T.b_len Xm (J9 (Ji Jp (pv 0) Jd (λ _ _=>rfl)) Jc)) Jd) Jc)))))),J8 h ?_⟩
 rintro as n P ⟨R,U,ws,k,rfl,hk,q⟩
 refine ⟨rfl,_,rfl,k,0,_,rfl,?_⟩
 rw [decide_eq_true hk.1,decide_eq_true (by rw [Qb];omega)]
 exact q
theorem Y2:FnScope ["book","some","rooms","purses","ways","leads","k","a","b","gains","middle","room"] ["book","some"] (Je Zm):=⟨rfl,rfl,rfl,by decide +kernel,rfl,by decide +kernel,by decide +kernel⟩
theorem Jf1 (T:Txt mg) (D:Def K mg "rooms_reached" Zm ["book","some"]):Cal P w K mg base "rooms_reached" 1 ["book","some"] (Jm Jk1):=by
 refine D.cal λ f fd F=>F.ok Y2 (Yb ?_) (λ cdv A outer s H vs Q E hr h=>?_)
 . rintro as n P ⟨R,U,ws,ks,rfl,_⟩
   rfl
 refine ⟨_,(@Ja _ _ _ _ _ (Yi (pv 0) (Jbv (K':=K) (i:=2) (j:=3) (m:=4) rfl Y2.nd ⟨rfl,(Qv rfl),(Qa rfl)⟩ ⟨rfl,(Qa rfl),(Qa rfl)⟩ ⟨rfl,(Qa rfl),(Qa rfl)⟩ rfl))
  (@Ja _ _ _ _ _ (Juy (Jgg (i:=5) (sc:=(Je Zm)) (N:=["book","some","rooms","purses","ways","leads","k","a","b","gains","middle","room"]) (N':=["room","rooms"]) (k:=1) (idx:=[2]) rfl Y2.nd rfl rfl (by exact ⟨rfl,by decide +kernel,by decide +kernel,by decide +kernel,by decide +kernel,by decide +kernel,rfl,rfl⟩) rfl rfl (Yr rfl T.b_range (Jb (pv 2) Jc)) (λ _ _ _ _=>(J0 (i:=0) (show (["room","rooms"]:List Str).Nodup by decide +kernel) rfl (Qv rfl) (Qa rfl))) (λ _ _ _ _=>Y7) (λ _ _ _ _=>(Zo (sc:=Jup _ (Je Zm)) (N:=["room","rooms"]) (N':=["other","room"]) (k:=1) (idx:=[0]) rfl (by exact ⟨rfl,by decide +kernel,by decide +kernel,by decide +kernel,by decide +kernel,by decide +kernel,rfl,rfl⟩) (Jxr rfl) rfl (by exact (Yr rfl T.b_range (Jb (pv 1) Jc))) (λ _ _ _ _=>(J0 (i:=0) (show (["other","room"]:List Str).Nodup by decide +kernel) rfl (Qa rfl) (Qv rfl))) (λ _ _ _ _=>Y7) (λ _ _ _ _=>(Wj Jbc (pv 1) (pv 0) (J4 _)))))))
  (@Ja _ _ _ _ _ (Zt Xh rfl (Bj (pv 1)) (J0 (i:=6) Y2.nd rfl (Qa rfl) (Qa rfl))
  (@Ja _ _ _ _ _ (Yi (Ji Jp (pv 4) (pv 6) (λ _ _=>rfl)) (Jbv (K':=K) (i:=7) (j:=8) (m:=9) rfl Y2.nd ⟨rfl,(Qa rfl),(Qa rfl)⟩ ⟨rfl,(Qa rfl),(Qa rfl)⟩ ⟨rfl,(Qa rfl),(Qa rfl)⟩ rfl))
  (@Jf _ _ _ (Yi V1 (Za (Ji Js (pv 5) (pv 7) (λ _ _=>rfl)) (pv 8) Yh (λ v=>J6 _ _ _ _ _ v))))))
  (@Ja _ _ _ _ _ (Zt Xh rfl (Yr rfl T.b_range (Jb (pv 2) Jc)) (J0 (i:=10) Y2.nd rfl (Qa rfl) (Qa rfl))
  (@Jf _ _ _ (Zt Xh rfl (Yr rfl T.b_range (Jb (pv 2) Jc)) (J0 (i:=11) Y2.nd rfl (Qa rfl) (Qa rfl))
  (@Jf _ _ _ (Y5 (Z2 (Ji Js (Ji Js (pv 5) (pv 11) (λ _ _=>rfl)) (pv 10) (λ _ _=>rfl))) (@Jf _ _ _ (Jpl (Yi (Zo (sc:=(Je Zm)) (N:=["book","some","rooms","purses","ways","leads","k","a","b","gains","middle","room"]) (N':=["now","then"]) (k:=2) (idx:=[]) rfl (by exact ⟨rfl,by decide +kernel,by decide +kernel,by decide +kernel,by decide +kernel,by decide +kernel,rfl,rfl⟩) rfl rfl (Ju0 (Juo (K':=K) rfl rfl T.b_zip (J9 (Ji Js (pv 5) (pv 11) (λ _ _=>rfl)) (J9 (Ji Js (pv 5) (pv 10) (λ _ _=>rfl)) Jc)))) (λ _ _ _ _=>(Z1 (K':=K) (i:=0) (j:=1) rfl (show (["now","then"]:List Str).Nodup by decide +kernel) ⟨rfl,(Qa rfl),(Qv rfl)⟩ ⟨rfl,(Qa rfl),(Qv rfl)⟩ rfl)) (λ _ _ _ _=>Y7) (λ _ _ _ _=>(Jv1 (pv 0) (Jce (pv 1))))) (Za (pv 5) (pv 11) Yh (λ v=>J6 _ _ _ _ _ v))))) Ya)))))
  (@Jf _ _ _ (@Ju _ _ _ _ (pv 5))))))),J8 h ?_⟩
 rintro as n P ⟨R,U,ws,ks,rfl,ok,hk,q⟩
 have r0:=ok.r0
 have r1:=ok.r1
 have hs:sizeLine=16777216:=J8p
 have hR:((R.toNat:Nat):Int)=R:=Uz (by omega)
 refine ⟨rfl,rfl,rfl,⟨_,.refl,?_⟩⟩
 refine ⟨R,rfl,⟨by omega,by omega⟩,⟨rfl,by rw [Yn];omega,?_⟩,?_⟩
 . unfold Ji5
   rw [X7]
   intro x hx
   obtain ⟨b,_,rfl⟩:=Qo.mp hx
   rfl
 refine Jmi (λ a=>Jag R.toNat (pw0 []) a) (Qf R.toNat) (λ i hi K hK=>?_) ?_
 . refine ⟨R,rfl,⟨by omega,by omega⟩,⟨rfl,by rw [Yn];omega⟩,?_⟩
   refine Bb (λ j=>.bool (pw0 [] i j)) (λ j hj n K hK=>Bt (Jgi ?_)) hK
   have:decide ((0+(i:Int))=0+(j:Int))=pw0 [] i j:=by
    unfold pw0
    rw [decide_eq_false (p:=(i,j)∈[]) (by simp),J39]
    exact decide_eq_decide.mpr (by omega)
   rw [this]
   exact hK
 intro ps hps
 refine ⟨_,.refl,?_⟩
 refine ⟨λ i env n'=>n'=n/\∃ (ps:List (Addr×List J8j)) (x6 x7 x8 x9:Vl),env=[.d (J2 R U ws),.d (.list (ks.map .int)),.d (.int R),.d (.int U),.d (.tuple (ws.map Ym)),.own2 none ps,x6,x7,x8,x9,.jnk,.jnk]/\ps.map (·.2)=Bw R.toNat (pw0 (Jai ws (ks.take i))),⟨rfl,ps,_,_,_,_,rfl,hps⟩,?_,?_⟩
 . rintro i x env n' hx ⟨rfl,ps,x6,x7,x8,x9,rfl,hps⟩
   rw [Qk] at hx
   obtain ⟨k,hki,rfl⟩:=U7.mp hx
   obtain ⟨k0,k1⟩:=hk k (Xo hki)
   have wok:=ok.ways _ (Yx k0 k1)
   have a0:=wok.a0
   have a1:=wok.a1
   have b0:=wok.b0
   have b1:=wok.b1
   have ha:(Jg ws k).a.toNat<R.toNat:=by omega
   have hb:(Jg ws k).b.toNat<R.toNat:=by omega
   obtain ⟨p,hp,ep⟩:=Jmg hps (Jbi (f:=pw0 (Jai ws (ks.take i))) ha)
   refine ⟨_,Jbw k0 k1,rfl,rfl,⟨_,.refl,?_⟩⟩
   refine ⟨_,p,Jcg a0 (by rw [Jh3 hps,Jah];omega),hp,_,Jcg b0 (by rw [ep,Jcp];omega),rfl,_,_,_,_,_,rfl,?_⟩
   rw [Jq0 hki,ep]
   exact Jmh hps (Ju2 ha hb)
 . rintro env _ ⟨rfl,ps,x6,x7,x8,x9,rfl,hps⟩
   rw [Qb,J55,Jx9] at hps
   refine ⟨_,.refl,R,rfl,⟨by omega,by omega⟩,λ m env k=>k=_/\∃ (ps:List (Addr×List J8j)) (x6 x7 x8 x9 x10 x11:Vl),env=[.d (J2 R U ws),.d (.list (ks.map .int)),.d (.int R),.d (.int U),.d (.tuple (ws.map Ym)),.own2 none ps,x6,x7,x8,x9,x10,x11]/\ps.map (·.2)=Bw R.toNat (Pw (Jai ws ks) m),⟨rfl,ps,_,_,_,_,_,_,rfl,hps⟩,?_,?_⟩
   . rintro m x env _ hx ⟨rfl,ps,x6,x7,x8,x9,x10,x11,rfl,hps⟩
     obtain ⟨hm,rfl⟩:=Jpn hx
     refine ⟨R,rfl,⟨by omega,by omega⟩,λ r env k=>k=_/\∃ (ps:List (Addr×List J8j)) (x11:Vl),env=[.d (J2 R U ws),.d (.list (ks.map .int)),.d (.int R),.d (.int U),.d (.tuple (ws.map Ym)),.own2 none ps,x6,x7,x8,x9,.d (.int m),x11]/\ps.map (·.2)=Bw R.toNat (pwR (Jai ws ks) m r),⟨rfl,ps,_,rfl,by rw [J0a];exact hps⟩,?_,?_⟩
     . rintro r x env _ hx ⟨rfl,ps,x11,rfl,hps⟩
       obtain ⟨hr',rfl⟩:=Jpn hx
       refine ⟨_,Jkz hps (Xj r) (by omega),_,Jsp (Xj m) (by omega),Z3 (λ c=>?_) (λ c=>?_)⟩
       . rw [Qy,Qy,Jh4] at c
         refine ⟨_,Jkz hps (Xj r) (by omega),_,Jkz hps (Xj m) (by omega),_,_,_,_,rfl,rfl,rfl,⟨Jjz,Jjz⟩,⟨rfl,?_⟩,?_⟩
         . rw [Jpm,Qb,Qw];omega
         rw [Qy,Qy,Jpm]
         refine Bb (λ b=>.bool (pwR (Jai ws ks) m r r b||pwR (Jai ws ks) m r m b)) (λ j hj n K hK=>⟨rfl,rfl,Bt (Z3 (λ e=>?_) (λ e=>?_))⟩) ?_
         . rw [e,J7z] at hK;exact hK
         . rw [e,J70] at hK;exact hK
         . exact ⟨r,by rw [Jcg (Xj r) (by rw [Jh3 hps,Jah];omega),Qy],λ b=>⟨rfl,_,_,rfl,Jmh hps (Ju3 hr' c)⟩⟩
       . rw [Qy,Qy,Jh4] at c
         exact ⟨rfl,ps,_,rfl,by rw [hps];exact Jx8 c⟩
     . rintro env _ ⟨rfl,ps,x11,rfl,hps⟩
       rw [Yn,Ju4] at hps
       exact ⟨rfl,ps,_,_,_,_,_,_,rfl,hps⟩
   . rintro env _ ⟨rfl,ps,x6,x7,x8,x9,x10,x11,rfl,hps⟩
     rw [Yn] at hps
     refine ⟨_,.fz2 5 ps rfl .refl,?_⟩
     show P _ _
     rw [Jsq hps]
     exact q
theorem Zp:FnScope ["numbers","divisor","number","rest"] ["numbers"] (Je Bf):=⟨rfl,rfl,rfl,by decide +kernel,rfl,by decide +kernel,by decide +kernel⟩
theorem Je6 (T:Txt mg) (D:Def K mg "common_divisor" Bf ["numbers"]):Cal P w K mg base "common_divisor" 1 ["numbers"] (Jm Jeu):=by
 refine D.cal λ f fd F=>F.ok Zp (Yb ?_) (λ cdv A outer s H vs Q E hr h=>?_)
 . rintro as n P ⟨ns,rfl,_⟩
   rfl
 refine ⟨_,(@Ja _ _ _ _ _ (J5 (i:=1) Zp.nd rfl (Qa rfl) Jd)
  (@Ja _ _ _ _ _ (Zt Xh rfl (Bj (pv 0)) (J0 (i:=2) Zp.nd rfl (Qa rfl) (Qa rfl))
  (@Ja _ _ _ _ _ (J5 (i:=3) Zp.nd rfl (Qa rfl) (Jw Jrs rfl T.b_abs boot_abs (Jb (pv 2) Jc)))
  (@Jf _ _ _ (Jee Xh (Jy Jlt (pv 3) Jd (J4 _))
  (@Jf _ _ _ (Jkd (i:=1) (j:=3) rfl Zp.nd rfl rfl (by decide) rfl rfl (Jb (pv 3) (Wq (Jo Bs (pv 1) (pv 3)) Jc)) rfl))))))
  (@Jf _ _ _ (@Ju _ _ _ _ (pv 1))))),J8 h ?_⟩
 rintro as n P ⟨ns,rfl,q⟩
 refine ⟨rfl,_,.refl,?_⟩
 refine ⟨λ i env n'=>n'=n/\∃ x y:Vl,env=[.d (.list (ns.map .int)),.d (.int ((Zi (ns.take i):Nat):Int)),x,y],⟨rfl,_,_,rfl⟩,?_,?_⟩
 . rintro i x env n' hx ⟨rfl,_,_,rfl⟩
   rw [Qk] at hx
   obtain ⟨k,hk,rfl⟩:=U7.mp hx
   refine ⟨_,.refl,?_⟩
   refine ⟨λ m env j=>j=n'/\∃ g:Nat,env=[.d (.list (ns.map .int)),.d (.int ((g:Nat):Int)),.d (.int k),.d (.int ((m:Nat):Int))]/\Xx g m=Zi (ns.take (i+1)),⟨k.natAbs,rfl,Zi (ns.take i),?_,(Jtc hk).symm⟩,?_⟩
   . show [Vl.d (.list (ns.map .int)),_,_,Vl.d (.int (if k<0 then -k else k))]=_
     rw [show (if k<0 then -k else k)=(k.natAbs:Int) by split<;>omega]
   . rintro m _ _ ⟨rfl,g,rfl,hg⟩
     refine Z3 (λ c=>?_) (λ c=>?_)
     . have hm:0<m:=by have:=of_decide_eq_true c;omega
       refine ⟨by omega,_,_,rfl,g%m,Nat.mod_lt _ hm,rfl,m,?_,?_⟩
       . rfl
       . rw [<- hg,Nat.gcd_comm m,<- Nat.gcd_rec,Nat.gcd_comm]
     . have hm:m=0:=by have:=of_decide_eq_false c;omega
       subst hm
       rw [Nat.gcd_zero_right] at hg
       exact ⟨rfl,_,_,by rw [hg]⟩
 . rintro env n' ⟨rfl,_,_,rfl⟩
   rw [Qb,J55]
   exact ⟨_,.refl,q⟩
theorem Jam:FnScope ["numbers","divisor"] ["numbers"] (Je Wm):=⟨rfl,rfl,rfl,by decide +kernel,rfl,by decide +kernel,by decide +kernel⟩
theorem Jea (T:Txt mg) (D:Def K mg "without_divisor" Wm ["numbers"]) (Gi:Cal P w K mg base "common_divisor" 1 ["numbers"] (Jm Jeu)):Cal P w K mg base "without_divisor" 2 ["numbers"] (Y8 Jg3):=by
 refine D.cal λ f fd F=>F.ok Jam (Wz ?_) (λ cdv A outer s H vs Q E hr h=>?_)
 . rintro as n P ⟨ns,rfl,_⟩
   rfl
 refine ⟨_,(@Ja _ _ _ _ _ (J5 (i:=1) Jam.nd rfl (Qv rfl) (Yw Gi (hr.mono (by decide)) rfl (Jb (pv 0) Jc)))
  (@Jf _ _ _ (@Ju _ _ _ _ (Zo (sc:=(Je Wm)) (N:=["numbers","divisor"]) (N':=["number","divisor"]) (k:=1) (idx:=[1]) rfl (by exact ⟨rfl,by decide +kernel,by decide +kernel,by decide +kernel,by decide +kernel,by decide +kernel,rfl,rfl⟩) rfl rfl (Bj (pv 0)) (λ _ _ _ _=>(J0 (i:=0) (show (["number","divisor"]:List Str).Nodup by decide +kernel) rfl (Qa rfl) (Qv rfl))) (λ _ _ _ _=>Y7) (λ _ _ _ _=>(Jo Jbf (pv 0) (pv 1))))))),Z9 h ?_⟩
 rintro as n P ⟨ns,rfl,hl,h0,h1,q⟩
 have hs:sizeLine=16777216:=J8p
 refine ⟨rfl,ns,rfl,_,.refl,⟨rfl,by rw [Qb];omega⟩,?_⟩
 refine W0 (f:=Qi) (λ x=>.int (x/((Zi ns:Nat):Int))) (λ x hx n K hk=>Bt ⟨Jbg (by omega) h1,hk⟩) ?_
 rw [Q0] at q
 exact q
theorem Vy:FnScope ["self","other","row","place","by","times","fresh"] ["self","other","row","place"] (Je W2):=⟨rfl,rfl,rfl,by decide +kernel,rfl,by decide +kernel,by decide +kernel⟩
theorem Je7 {C:Addr}(T:Txt mg) (Y:TableOk K C) (D:DefM K C "without" "Table.without" W2 ["self","other","row","place"]):Wh P w K mg base C "without" 1 ["self","other","row","place"] (Y8 (Jog C)):=by
 refine D.cal Y.c λ f fd F=>F.ok Vy (Wz ?_) (λ cdv A outer s H vs Q E hr h=>?_)
 . rintro as n P ⟨z,T,other,row,k,rfl,_⟩
   rfl
 refine ⟨_,(@Ja _ _ _ _ _ (Yi (@PEs.out _ _ _ (Yq (Jau (J3 (Ji Js (pv 2) (pv 3) (λ _ _=>rfl))) (Jau (J3 (Ji Js (pv 1) (pv 3) (λ _ _=>rfl))) Jr)))) (Z1 (K':=K) (i:=4) (j:=5) rfl Vy.nd ⟨rfl,(Qv rfl),(Qa rfl)⟩ ⟨rfl,(Qv rfl),(Qa rfl)⟩ rfl))
  (@Ja _ _ _ _ _ (V5 (i:=6) (sc:=(Je W2)) (N:=["self","other","row","place","by","times","fresh"]) (N':=["number","more","by","times","self"]) (k:=2) (idx:=[4,5,0]) rfl Vy.nd rfl rfl (by exact ⟨rfl,by decide +kernel,by decide +kernel,by decide +kernel,by decide +kernel,by decide +kernel,rfl,rfl⟩) rfl rfl (Jad rfl T.b_zip (Jb (pv 1) (Jb (pv 2) Jc))) (λ _ _ _ _=>(Z1 (K':=K) (i:=0) (j:=1) rfl (show (["number","more","by","times","self"]:List Str).Nodup by decide +kernel) ⟨rfl,(Qa rfl),(Qv rfl)⟩ ⟨rfl,(Qa rfl),(Qv rfl)⟩ rfl)) (λ _ _ _ _=>Y7) (λ _ _ _ _=>(Jo Jbf (Jo Vr (Jo Wl (pv 2) (pv 0)) (Jo Wl (pv 3) (pv 1))) (J7 (K':=K) rfl (pv 4)))))
  (@Ja _ _ _ _ _ (Yi (Bl Wp (pv 5)) (Za (pv 6) (pv 3) Yh (λ v=>J6 _ _ _ _ _ v)))
  (@Jf _ _ _ (@Ju _ _ _ _ (pv 6)))))),Z9 h ?_⟩
 rintro as n P ⟨z,T,other,row,k,rfl,k1,k2,ol,so,sr,q0,q1,q⟩
 have hs:sizeLine=16777216:=J8p
 have big:∀ {x:Int},x.natAbs<2^4000->x.natAbs<2^9000:=λ h=>Qz h (J3e (by decide) (by decide))
 have a1:atI (row.map Qi) ((k:Nat):Int)=some (.int (row.getD k 0)):=Yc (by omega) (by rw [Qy,Qk,Qg k2,Qd,Qg k2];rfl)
 have a2:atI (other.map Qi) ((k:Nat):Int)=some (.int (other.getD k 0)):=Yc (by omega) (by rw [Qy,Qk,Qg k1,Qd,Qg k1];rfl)
 have by1:(row.getD k 0).natAbs<2^4000:=sr _ (by rw [Qd,Qg k2];exact Q8 _)
 have by2:(other.getD k 0).natAbs<2^4000:=so _ (by rw [Qd,Qg k1];exact Q8 _)
 refine ⟨rfl,_,a1,_,a2,Jcl,rfl,rfl,⟨[.d (Zy C z T),.d (Y0 other),.d (Y0 row),.d (Jn k),.d (.int (row.getD k 0)),.d (.int (other.getD k 0)),.jnk],.eq rfl,?_⟩⟩
 refine ⟨_,_,_,_,rfl,rfl,rfl,⟨rfl,by rw [Vv,Qb];omega⟩,?_⟩
 rw [Jbj]
 refine W0 (f:=λ p:Int×Int=>Us [.int p.1,.int p.2]) (λ p=>.int ((row.getD k 0*p.1-other.getD k 0*p.2)/T.q)) (λ p hp n K hk=>⟨rfl,rfl,Bt ⟨Y1 (big by1) (big (so _ (J1o hp).1)),Y1 (big by2) (big (sr _ (J1o hp).2)),?_⟩⟩) ?_
 . exact Jmq Y ⟨Jbg q0 (Int.lt_of_lt_of_le q1 (by decide +kernel)),hk⟩
 refine ⟨_,.refl,k,V9 (by omega) (by rw [Qb,J5y];omega),_,.refl,?_⟩
 have e:((other.zip row).map λ p=>Qi ((row.getD k 0*p.1-other.getD k 0*p.2)/T.q)).set k (.int (-(other.getD k 0)))=(Tb.Jct T.q row other k).map .int:=by
  unfold Tb.Jct
  rw [X5,List.zip,J71,J71]
 show P (List.set _ k _) n
 rw [e]
 exact q
theorem Vh:FnScope ["self","wanted","told","name","row"] ["self","wanted"] (Je Wt):=⟨rfl,rfl,rfl,by decide +kernel,rfl,by decide +kernel,by decide +kernel⟩
theorem Jgt {C:Addr}(T:Txt mg) (Y:TableOk K C) (D:DefM K C "rises" "Table.rises" Wt ["self","wanted"]):Wh P w K mg base C "rises" 1 ["self","wanted"] (Y8 (Jg5 C)):=by
 refine D.cal Y.c λ f fd F=>F.ok Vh (Wz ?_) (λ cdv A outer s H vs Q E hr h=>?_)
 . rintro as n P ⟨z,T,m,n,W,rfl,_⟩
   rfl
 refine ⟨_,(@Ja _ _ _ _ _ (V5 (i:=2) (sc:=(Je Wt)) (N:=["self","wanted","told","name","row"]) (N':=["name","wanted","self"]) (k:=1) (idx:=[1,0]) rfl Vh.nd rfl rfl (by exact ⟨rfl,by decide +kernel,by decide +kernel,by decide +kernel,by decide +kernel,by decide +kernel,rfl,rfl⟩) rfl rfl (Bj (J7 (K':=K) rfl (pv 0))) (λ _ _ _ _=>(J0 (i:=0) (show (["name","wanted","self"]:List Str).Nodup by decide +kernel) rfl (Qa rfl) (Qv rfl))) (λ _ _ _ _=>Y7) (λ _ _ _ _=>(Jhc (Jy (Jh6 (K':=K) rfl) (pv 0) (pv 1) (by with_unfolding_all rfl)) (J7 (K':=K) rfl (pv 2)) Jd)))
  (@Ja _ _ _ _ _ (Zt Xh rfl (Jad rfl T.b_zip (Vu (J7 (K':=K) rfl (pv 0)) (Vu (J7 (K':=K) rfl (pv 0)) Jc))) (Z1 (K':=K) (i:=3) (j:=4) rfl Vh.nd ⟨rfl,(Qa rfl),(Qa rfl)⟩ ⟨rfl,(Qa rfl),(Qa rfl)⟩ rfl)
  (@Jf _ _ _ (Y5 (Jy Jfi (pv 3) (pv 1) (by with_unfolding_all rfl)) (@Jf _ _ _ (V5 (i:=2) (sc:=(Je Wt)) (N:=["self","wanted","told","name","row"]) (N':=["rise","number"]) (k:=2) (idx:=[]) rfl Vh.nd rfl rfl (by exact ⟨rfl,by decide +kernel,by decide +kernel,by decide +kernel,by decide +kernel,by decide +kernel,rfl,rfl⟩) rfl rfl (Jvb (Jad rfl T.b_zip (Jb (pv 2) (Jb (pv 4) Jc)))) (λ _ _ _ _=>(Z1 (K':=K) (i:=0) (j:=1) rfl (show (["rise","number"]:List Str).Nodup by decide +kernel) ⟨rfl,(Qa rfl),(Qv rfl)⟩ ⟨rfl,(Qa rfl),(Qv rfl)⟩ rfl)) (λ _ _ _ _=>Y7) (λ _ _ _ _=>(Jo Vr (pv 0) (pv 1))))) Ya)))
  (@Jf _ _ _ (@Ju _ _ _ _ (pv 2))))),Z9 h ?_⟩
 rintro as n' P ⟨z,T,m,n,W,rfl,sh,q⟩
 have hs:sizeLine=16777216:=J8p
 have mm:=sh.mm
 have nn:=sh.nn
 have isin:∀ ν:Nat,inD (Jn ν) (W.map Jn)=decide (ν∈W):=λ ν=>by
  have:=Jmj (k:=(ν:Int)) (ns:=W.map λ k:Nat=>(k:Int))
  rw [Q0] at this
  rw [show W.map Jn=W.map (Qi∘λ k:Nat=>(k:Int)) from rfl,this]
  exact decide_eq_decide.mpr ⟨λ h=>by obtain ⟨k,hk,e⟩:=Qo.mp h;rwa [<- show k = ν by exact_mod_cast e],λ h=>Qo.mpr ⟨ν,h,rfl⟩⟩
 have scw:(W.map Jn).all W6=true:=X7.mpr λ x hx=>by obtain ⟨k,_,rfl⟩:=Qo.mp hx;rfl
 refine ⟨rfl,Jg4 Y ⟨⟨rfl,by rw [Qb,sh.lf];omega⟩,?_⟩⟩
 refine W0 (f:=Jn) (λ ν=>.int (Tb.ind W ν T.q)) (λ ν hν n K hk=>Bt ⟨rfl,scw,?_⟩) ?_
 . show if inD (Jn ν) (W.map Jn)=true then _ else _
   rw [isin]
   unfold Tb.ind at hk
   refine Z3 (λ c=>Jmq Y ?_) (λ c=>?_)
   . rw [if_pos (of_decide_eq_true c)] at hk
     exact hk
   . rw [if_neg (of_decide_eq_false c)] at hk
     exact hk
 rw [show T.fr.map (λ ν=>Qi (Tb.ind W ν T.q))=(tl T n W 0).map .int by rw [<- Jvd sh,Q0];rfl]
 refine ⟨_,.refl,Jcy Y (Jaz Y ⟨_,_,_,_,rfl,rfl,rfl,?_⟩)⟩
 refine ⟨λ i env k=>k=n'/\∃ x y:Vl,env=[.d (Zy C z T),.d (.list (W.map Jn)),.own ((tl T n W i).map .int),x,y],⟨rfl,_,_,rfl⟩,?_,?_⟩
 . rintro i x env k hx ⟨rfl,_,_,rfl⟩
   obtain ⟨hi,rfl⟩:=Joj sh hx
   refine ⟨rfl,rfl,rfl,scw,?_⟩
   show if inD (Jn (T.b i)) (W.map Jn)=true then _ else _
   rw [isin]
   refine Z3 (λ c=>?_) (λ c=>⟨rfl,_,_,by rw [Jyg (of_decide_eq_false c)];rfl⟩)
   refine ⟨⟨rfl,?_⟩,?_⟩
   . rw [Vv,Qb,Qb]
     unfold tl
     rw [Qb,Qw]
     omega
   . rw [Jbj]
     refine W0 (f:=λ p:Int×Int=>Us [.int p.1,.int p.2]) (λ p=>.int (p.1-p.2)) (λ p hp n K hk=>⟨rfl,rfl,Bt hk⟩) ⟨rfl,.d (Jn (T.b i)),.d (Y0 (T.row i)),?_⟩
     rw [<- J0j sh hi (of_decide_eq_true c),Q0]
     rfl
 . rintro env k ⟨rfl,_,_,rfl⟩
   refine ⟨_,.refl,?_⟩
   have:(Ba (T.bd.map Jn) (T.rows.map Y0)).length=m:=by rw [Vv,Qb,Qb,sh.lb,sh.lr];omega
   rw [this]
   exact q
theorem Vd:FnScope ["self","wanted","names"] ["self","wanted"] (Je Y9):=⟨rfl,rfl,rfl,by decide +kernel,rfl,by decide +kernel,by decide +kernel⟩
theorem Jbb {C:Addr}(T:Txt mg) (Y:TableOk K C) (D:DefM K C "place_to_raise" "Table.place_to_raise" Y9 ["self","wanted"]) (c_Table__rises:Wh P w K mg base C "rises" 1 ["self","wanted"] (Y8 (Jg5 C))):Wh P w K mg base C "place_to_raise" 2 ["self","wanted"] (Jm (Jdf C)):=by
 refine D.cal Y.c λ f fd F=>F.ok Vd (Yb ?_) (λ cdv A outer s H vs Q E hr h=>?_)
 . rintro as n P ⟨z,T,m,n,W,rfl,_⟩
   rfl
 refine ⟨_,(@Ja _ _ _ _ _ (V5 (i:=2) (sc:=(Je Y9)) (N:=["self","wanted","names"]) (N':=["place","rise","self"]) (k:=2) (idx:=[0]) rfl Vd.nd rfl rfl (by exact ⟨rfl,by decide +kernel,by decide +kernel,by decide +kernel,by decide +kernel,by decide +kernel,rfl,rfl⟩) rfl rfl (Jkn rfl T.b_enumerate (Z0 (Jgo c_Table__rises (hr.mono (by decide)) (pv 0) (Jb (pv 1) Jc)) Jc)) (λ _ _ _ _=>(Z1 (K':=K) (i:=0) (j:=1) rfl (show (["place","rise","self"]:List Str).Nodup by decide +kernel) ⟨rfl,(Qa rfl),(Qv rfl)⟩ ⟨rfl,(Qa rfl),(Qv rfl)⟩ rfl)) (λ _ _ _ _=>Jda (Jy Jlt (pv 1) Jd (J4 _))) (λ _ _ _ _=>(@PEs.out _ _ _ (Yq (Jau (J3 (Ji (Jl3 (K':=K) rfl) (J7 (K':=K) rfl (pv 2)) (pv 0) (λ _ _=>rfl))) (Zd (J3 (pv 0)) Jr))))))
  (@Jf _ _ _ (@Ju _ _ _ _ (Jhc (Jx3 (pv 2) (λ _=>rfl)) (Ji Jp (Jw (Jq5 rfl hr.units) rfl T.b_min J9g (Jb (pv 2) Jc)) Jd (λ _ _=>rfl)) Br)))),J8 h ?_⟩
 rintro as n' P ⟨z,T,m,n,W,rfl,sh,inj,q1,q2⟩
 have hs:sizeLine=16777216:=J8p
 have mm:=sh.mm
 have nn:=sh.nn
 refine ⟨rfl,?_⟩
 refine ⟨Jb2 (m:="rises") (by decide),z,T,m,n,W,rfl,sh,_,_,rfl,rfl,?_⟩
 rw [Jve]
 refine ⟨⟨rfl,by rw [Qb,Qw];omega⟩,?_⟩
 have fat:∀ {j:Nat},j<n->atI (T.fr.map Jn) ((j:Nat):Int)=some (Jn (T.f j)):=λ {j} hj=>by
  have h1:j<T.fr.length:=by rw [sh.lf];exact hj
  refine Yc (by omega) ?_
  unfold Tb.Tab.f
  rw [Qy,Qk,Qg h1,Qd,Qg h1]
  rfl
 refine Jen (p:=λ j=>decide (0<T.rise m W j)) (h:=λ j=>Jig ((T.f j:Int),(j:Int))) (λ j hj K k1 k2=>⟨rfl,rfl,Z3 (λ c=>Jg4 Y ⟨_,fat (Q5.mp hj),Jcl,k1 c⟩) (λ c=>k2 c)⟩) ?_
 refine ⟨_,.fz 2 _ rfl .refl,?_⟩
 have mem:∀ {j:Nat},j∈(Qf n).filter (λ j=>decide (0<T.rise m W j))↔j<n/\0<T.rise m W j:=λ {j}=>by rw [X8,Q5,decide_eq_true_iff]
 have nd:((Qf n).filter λ j=>decide (0<T.rise m W j)).Nodup:=J7y.filter _
 generalize (Qf n).filter (λ j=>decide (0<T.rise m W j))=js at *
 have nrm:js.map (λ j=>Jig ((T.f j:Int),(j:Int)))=(js.map λ j=>((T.f j:Int),(j:Int))).map Jig:=by rw [Q0];rfl
 rw [nrm]
 by_cases hn:js=[]
 . subst hn
   refine Vc rfl (q2 λ j hj=>?_)
   have:=mt (λ h=>mem.mpr ⟨hj,h⟩) (X4)
   omega
 . refine Jjw ?_ ⟨_,rfl,by simpa using hn,?_,λ r hr hmin=>⟨_,rfl,?_⟩⟩
   . cases js with
     | nil=>exact absurd rfl hn
     | cons a l=>rfl
   . rw [Q0]
     refine J5q.mpr (nd.imp_of_mem λ {a b} ha hb hne e=>hne ?_)
     have e:(T.f a:Int)=(T.f b:Int):=e
     exact inj a b (mem.mp ha).1 (mem.mp hb).1 (by exact_mod_cast e)
   . obtain ⟨k,hk,rfl⟩:=Qo.mp hr
     refine q1 k (mem.mp hk).1 (mem.mp hk).2 λ j hj hp=>?_
     have:(T.f k:Int)<=(T.f j:Int):=hmin _ (Qo.mpr ⟨j,mem.mpr ⟨hj,hp⟩,rfl⟩)
     exact_mod_cast this
theorem Wi:FnScope ["self","at","other","place","row","than","soon","late"] ["self","at","other","place"] (Je Wu):=⟨rfl,rfl,rfl,by decide +kernel,rfl,by decide +kernel,by decide +kernel⟩
theorem Jcb {C:Addr}(T:Txt mg) (Y:TableOk K C) (D:DefM K C "comes_first" "Table.comes_first" Wu ["self","at","other","place"]):Wh P w K mg base C "comes_first" 1 ["self","at","other","place"] (Jm (Jla C)):=by
 refine D.cal Y.c λ f fd F=>F.ok Wi (Yb ?_) (λ cdv A outer s H vs Q E hr h=>?_)
 . rintro as n P ⟨z,T,m,n,a,o,k,rfl,_⟩
   rfl
 refine ⟨_,(@Ja _ _ _ _ _ (Jkd (i:=4) (j:=5) rfl Wi.nd rfl rfl (by decide) rfl rfl (J9 (Ji Js (J7 (K':=K) rfl (pv 0)) (pv 1) (λ _ _=>rfl)) (J9 (Ji Js (J7 (K':=K) rfl (pv 0)) (pv 2) (λ _ _=>rfl)) Jc)) rfl)
  (@Ja _ _ _ _ _ (Jkd (i:=6) (j:=7) rfl Wi.nd rfl rfl (by decide) rfl rfl (Wq (Jo Wl (Ji Js (pv 4) (Bl Wp Jd) (λ _ _=>rfl)) (Ji Js (pv 5) (pv 3) (λ _ _=>rfl))) (Wq (Jo Wl (Ji Js (pv 5) (Bl Wp Jd) (λ _ _=>rfl)) (Ji Js (pv 4) (pv 3) (λ _ _=>rfl))) Jc)) rfl)
  (@Jf _ _ _ (@Ju _ _ _ _ (Jv1 (Wj B0 (pv 6) (pv 7) (J4 _)) (Jce (Jfc (Wj Jbc (pv 6) (pv 7) (J4 _)) (Jce (Wj B0 (Ji Js (J7 (K':=K) rfl (pv 0)) (pv 1) (λ _ _=>rfl)) (Ji Js (J7 (K':=K) rfl (pv 0)) (pv 2) (λ _ _=>rfl)) (J4 _)))))))))),J8 h ?_⟩
 rintro as n' P ⟨z,T,m,n,a,o,k,rfl,sh,ha,ho,hk,q⟩
 refine ⟨rfl,Jaz Y ⟨_,Jij sh ha,Jaz Y ⟨_,Jij sh ho,_,_,rfl,⟨[.d (Zy C z T),.d (Jn a),.d (Jn o),.d (Jn k),.d (Y0 (T.row a)),.d (Y0 (T.row o)),.jnk,.jnk],.eq rfl,?_⟩⟩⟩⟩
 refine ⟨_,Jok sh ha,_,Jvf sh ho (by omega),Y1 (Jg6 sh ha (Qm _)) (Jg6 sh ho (by omega)),_,Jok sh ho,_,Jvf sh ha (by omega),Y1 (Jg6 sh ho (Qm _)) (Jg6 sh ha (by omega)),_,_,rfl,⟨[.d (Zy C z T),.d (Jn a),.d (Jn o),.d (Jn k),.d (Y0 (T.row a)),.d (Y0 (T.row o)),.d (.int (T.e a n*T.e o k)),.d (.int (T.e o n*T.e a k))],.eq rfl,?_⟩⟩
 unfold Jii at q
 generalize T.e a n*T.e o k=soon at *
 generalize T.e o n*T.e a k=late at *
 refine Z3 (λ c1=>?_) (λ c1=>?_)
 . rw [c1,J7z] at q
   exact q
 . rw [c1,J70] at q
   refine Jgi (Z3 (λ c2=>?_) (λ c2=>?_))
   . rw [c2,J5m] at q
     refine Jcy Y ⟨_,Jwy sh ha,Jcy Y ⟨_,Jwy sh ho,?_⟩⟩
     show P (.bool (decide ((T.b a:Int)<(T.b o:Int)))) n'
     rw [show decide ((T.b a:Int)<(T.b o:Int))=decide (T.b a<T.b o) from decide_eq_decide.mpr ⟨λ h=>by omega,λ h=>by omega⟩]
     exact q
   . rw [c2,J3l] at q
     exact q
theorem Zk:FnScope ["self","place","first","at","row"] ["self","place"] (Je Wv):=⟨rfl,rfl,rfl,by decide +kernel,rfl,by decide +kernel,by decide +kernel⟩
theorem Jcc {C:Addr}(T:Txt mg) (Y:TableOk K C) (D:DefM K C "row_to_free" "Table.row_to_free" Wv ["self","place"]) (c_Table__comes_first:Wh P w K mg base C "comes_first" 1 ["self","at","other","place"] (Jm (Jla C))):Wh P w K mg base C "row_to_free" 2 ["self","place"] (Jm (Jft C)):=by
 refine D.cal Y.c λ f fd F=>F.ok Zk (Yb ?_) (λ cdv A outer s H vs Q E hr h=>?_)
 . rintro as n P ⟨z,T,m,n,k,rfl,_⟩
   rfl
 refine ⟨_,(@Ja _ _ _ _ _ (J5 (i:=2) Zk.nd rfl (Qa rfl) Br)
  (@Ja _ _ _ _ _ (Zt Xh rfl (Jkn rfl T.b_enumerate (Vu (J7 (K':=K) rfl (pv 0)) Jc)) (Z1 (K':=K) (i:=3) (j:=4) rfl Zk.nd ⟨rfl,(Qa rfl),(Qa rfl)⟩ ⟨rfl,(Qa rfl),(Qa rfl)⟩ rfl)
  (@Jf _ _ _ (Y5 (PW.pt (Jhb (Jy Jlt (Ji Js (pv 4) (pv 1) (λ _ _=>rfl)) Jd (J4 _)) (Jec (PW.pt (V2 (Jy Jhd (pv 2) Br (J4 _)) (B8 (Z2 (Jgo c_Table__comes_first (hr.mono (by decide)) (pv 0) (Jb (pv 3) (Jb (pv 2) (Jb (pv 1) Jc))))))))))) (@Jf _ _ _ (J5 (i:=2) Zk.nd rfl (Qa rfl) (pv 3))) Ya)))
  (@Jf _ _ _ (@Ju _ _ _ _ (pv 2))))),J8 h ?_⟩
 rintro as n' P ⟨z,T,m,n,k,rfl,sh,hk,q⟩
 refine ⟨rfl,_,.refl,Jaz Y ⟨_,_,rfl,rfl,?_⟩⟩
 refine ⟨λ i env j=>j=n'/\∃ x y:Vl,env=[.d (Zy C z T),.d (Jn k),.d (Jyh (rf T n k i)),x,y],⟨rfl,_,_,rfl⟩,?_,?_⟩
 . rintro i x env j hx ⟨rfl,_,_,rfl⟩
   obtain ⟨hi,rfl⟩:=Jvg sh hx
   refine ⟨rfl,rfl,_,Jvf sh hi (by omega),?_⟩
   refine Z3 (λ c=>?_) (λ c=>?_)
   . have c:=of_decide_eq_true c
     cases e:rf T n k i with
     | none=>
      refine ⟨rfl,Bt ⟨rfl,.d (Jn i),.d (Y0 (T.row i)),?_⟩⟩
      rw [show rf T n k (i+1)=some i by rw [rf,e];simp only;rw [if_pos c]]
      rfl
     | some o=>
      have ho:=Jtg k e
      refine ⟨rfl,We ⟨Jb2 (m:="comes_first") (by decide),z,T,m,n,i,o,k,rfl,sh,hi,by omega,hk,?_⟩⟩
      refine Z3 (λ c2=>⟨rfl,.d (Jn i),.d (Y0 (T.row i)),?_⟩) (λ c2=>⟨rfl,.d (Jn i),.d (Y0 (T.row i)),?_⟩)
      . rw [show rf T n k (i+1)=some i by rw [rf,e];simp only;rw [if_pos ⟨c,c2⟩]]
        rfl
      . rw [show rf T n k (i+1)=some o by rw [rf,e];simp only;rw [if_neg λ z=>by rw [z.2] at c2;cases c2]]
        rfl
   . have c:=of_decide_eq_false c
     refine ⟨rfl,.d (Jn i),.d (Y0 (T.row i)),?_⟩
     rw [show rf T n k (i+1)=rf T n k i by
      rw [rf]
      cases rf T n k i with
      | none=>simp only;rw [if_neg c]
      | some o=>simp only;rw [if_neg λ z=>c z.1]]
     rfl
 . rintro env j ⟨rfl,_,_,rfl⟩
   have:(Jck (T.rows.map Y0)).length=m:=by unfold Jck;rw [J67,Qb,sh.lr]
   rw [this]
   exact ⟨_,.refl,q⟩
theorem Jbo:FnScope ["self","shares","purses"] ["self","shares"] (Je By):=⟨rfl,rfl,rfl,by decide +kernel,rfl,by decide +kernel,by decide +kernel⟩
theorem Jf2 {C:Addr}(T:Txt mg) (Y:TableOk K C) (D:DefM K C "as_sum" "Table.as_sum" By ["self","shares"]):Wh P w K mg base C "as_sum" 1 ["self","shares"] (Jm (Jlb C)):=by
 refine D.cal Y.c λ f fd F=>F.ok Jbo (Yb ?_) (λ cdv A outer s H vs Q E hr h=>?_)
 . rintro as n P ⟨z,T,u,xs,rfl,_⟩
   rfl
 refine ⟨_,(@Ja _ _ _ _ _ (J5 (i:=2) Jbo.nd rfl (Qa rfl) (Jo Vr (J7 (K':=K) rfl (pv 0)) (J7 (K':=K) rfl (pv 0))))
  (@Jf _ _ _ (@Ju _ _ _ _ (@PEs.out _ _ _ (Yq (Z4 (J3 (Yj Yu rfl T.b_tuple J8x (J9 (Bn Jat (pv 1) Jaq (Jas (pv 2))) Jc))) (Z4 (J3 (Yj Yu rfl T.b_tuple J8x (J9 (Bn Jat (pv 1) (Jas (pv 2)) Jaq) Jc))) Jr))))))),J8 h ?_⟩
 rintro as n' P ⟨z,T,u,xs,rfl,hu,hl,q⟩
 refine ⟨rfl,J0i Y (Jp3 Y ⟨[.d (Zy C z T),.d (Y0 xs),.d (Jn u)],.eq (by rw [hu];rfl),?_⟩)⟩
 have hs:sizeLine=16777216:=J8p
 refine ⟨Jcl,?_⟩
 rw [Jfl,Jfm,<- J10,<- J3a]
 exact q
theorem W9:FnScope ["self","place","told","name","row"] ["self","place"] (Je Vm):=⟨rfl,rfl,rfl,by decide +kernel,rfl,by decide +kernel,by decide +kernel⟩
theorem Jdm {C:Addr}(T:Txt mg) (Y:TableOk K C) (D:DefM K C "counts_by" "Table.counts_by" Vm ["self","place"]) (Gb:Cal P w K mg base "without_divisor" 2 ["numbers"] (Y8 Jg3)):Wh P w K mg base C "counts_by" 3 ["self","place"] (Jm (Jev C)):=by
 refine D.cal Y.c λ f fd F=>F.ok W9 (Yb ?_) (λ cdv A outer s H vs Q E hr h=>?_)
 . rintro as n P ⟨T,m,n,k,nw,nr,be,rfl,_⟩
   rfl
 refine ⟨_,(@Ja _ _ _ _ _ (J5 (i:=2) W9.nd rfl (Qa rfl) (Jo Jaa (@PEs.out _ _ _ (Ye (Jl Jz Jr))) (J7 (K':=K) rfl (pv 0))))
  (@Ja _ _ _ _ _ (Yi (J7 (K':=K) rfl (pv 0)) (Za (pv 2) (Ji Js (J7 (K':=K) rfl (pv 0)) (pv 1) (λ _ _=>rfl)) Yh ))
  (@Ja _ _ _ _ _ (Zt Xh rfl (Jad rfl T.b_zip (Vu (J7 (K':=K) rfl (pv 0)) (Vu (J7 (K':=K) rfl (pv 0)) Jc))) (Z1 (K':=K) (i:=3) (j:=4) rfl W9.nd ⟨rfl,(Qa rfl),(Qa rfl)⟩ ⟨rfl,(Qa rfl),(Qa rfl)⟩ rfl)
  (@Jf _ _ _ (Yi (Bl Wp (Ji Js (pv 4) (pv 1) (λ _ _=>rfl))) (Za (pv 2) (pv 3) Yh (λ v=>J6 _ _ _ _ _ v)))))
  (@Jf _ _ _ (@Ju _ _ _ _ (Yj Yu rfl T.b_tuple J8x (Z0 (Yw Gb (hr.mono (by decide)) rfl (J9 (Bn Jat (pv 2) Jaq (Jas (J7 (K':=K) rfl (pv 0)))) Jc)) Jc))))))),J8 h ?_⟩
 rintro as n' P ⟨T,m,n,k,nw,nr,be,rfl,sh,N,hk,h1,h2,g0,g1,q⟩
 have hs:sizeLine=16777216:=J8p
 have one:(1:Nat)<=sizeLine:=by rw [hs];decide
 refine ⟨rfl,one,Jtf Y ⟨⟨by show (-2^63:Int)<=(be:Int);omega,by show (be:Int)<2^63;omega,by show 1*(be:Int).toNat<=_;omega⟩,?_⟩⟩
 rw [show ((be:Nat):Int).toNat=be from Qy _,Jco]
 refine ⟨_,.refl,Jmq Y (Jg4 Y ⟨_,J0k sh hk,T.f k,V9 (by omega) (by rw [X3];have:=N.fl k hk;omega),?_⟩)⟩
 rw [show (Qp be (Qi 0)).set (T.f k) (.int T.q)=(dl T be k 0).map .int by rw [<- Jvh (N.fl k hk),X5,J17]]
 refine ⟨[.d (Zy C ⟨(nw:Int),(nr:Int),(be:Int)⟩ T),.d (Jn k),.own ((dl T be k 0).map .int),.jnk,.jnk],.eq rfl,Jcy Y (Jaz Y ⟨_,_,_,_,rfl,rfl,rfl,?_⟩)⟩
 refine ⟨λ i env j=>j=n'/\∃ x y:Vl,env=[.d (Zy C ⟨(nw:Int),(nr:Int),(be:Int)⟩ T),.d (Jn k),.own ((dl T be k i).map .int),x,y],⟨rfl,_,_,rfl⟩,?_,?_⟩
 . rintro i x env j hx ⟨rfl,_,_,rfl⟩
   obtain ⟨hi,rfl⟩:=Joj sh hx
   refine ⟨rfl,rfl,_,Jvf sh hi (by omega),T.b i,V9 (by omega) (by rw [Qb,Jik];have:=N.bl i hi;omega),rfl,.d (Jn (T.b i)),.d (Y0 (T.row i)),?_⟩
   rw [<- Jvi N hk hi,X5]
   rfl
 . rintro env j ⟨rfl,_,_,rfl⟩
   have lz:(Ba (T.bd.map Jn) (T.rows.map Y0)).length=m:=by rw [Vv,Qb,Qb,sh.lb,sh.lr];omega
   rw [lz]
   have cut:Jei ((dl T be k m).map Qi) none (some ((nw:Nat):Int))=((Qf nw).map (T.dir m k)).map .int:=by
    rw [Jfl,Jvj,<- J10,<- J10,J72,J33 h1]
   refine ⟨_,.refl,Jp3 Y ⟨(Qf nw).map (T.dir m k),by rw [cut],by rw [Qb,Qw];omega,g0,g1,?_⟩⟩
   rw [Q0]
   exact q
theorem W5:FnScope ["self","wanted","told","name","rise"] ["self","wanted"] (Je Bx):=⟨rfl,rfl,rfl,by decide +kernel,rfl,by decide +kernel,by decide +kernel⟩
theorem Jf3 {C:Addr}(T:Txt mg) (Y:TableOk K C) (D:DefM K C "shares" "Table.shares" Bx ["self","wanted"]) (c_Table__rises:Wh P w K mg base C "rises" 1 ["self","wanted"] (Y8 (Jg5 C))):Wh P w K mg base C "shares" 2 ["self","wanted"] (Y8 (Jim C)):=by
 refine D.cal Y.c λ f fd F=>F.ok W5 (Wz ?_) (λ cdv A outer s H vs Q E hr h=>?_)
 . rintro as n P ⟨T,m,n,nw,nr,be,W,rfl,_⟩
   rfl
 refine ⟨_,(@Ja _ _ _ _ _ (J5 (i:=2) W5.nd rfl (Qa rfl) (Jo Jaa (@PEs.out _ _ _ (Ye (Jl Jz Jr))) (J7 (K':=K) rfl (pv 0))))
  (@Ja _ _ _ _ _ (Zt Xh rfl (Bj (pv 1)) (J0 (i:=3) W5.nd rfl (Qa rfl) (Qa rfl))
  (@Jf _ _ _ (Yi (J7 (K':=K) rfl (pv 0)) (Za (pv 2) (pv 3) Yh (λ v=>J6 _ _ _ _ _ v)))))
  (@Ja _ _ _ _ _ (Zt Xh rfl (Jad rfl T.b_zip (Vu (J7 (K':=K) rfl (pv 0)) (Z0 (Jgo c_Table__rises (hr.mono (by decide)) (pv 0) (Jb (pv 1) Jc)) Jc))) (Z1 (K':=K) (i:=3) (j:=4) rfl W5.nd ⟨rfl,(Qa rfl),(Qa rfl)⟩ ⟨rfl,(Qa rfl),(Qa rfl)⟩ rfl)
  (@Jf _ _ _ (Yi (Bl Wp (pv 4)) (Za (pv 2) (pv 3) Yh (λ v=>J6 _ _ _ _ _ v)))))
  (@Jf _ _ _ (@Ju _ _ _ _ (Bn Jat (pv 2) (Jas (J7 (K':=K) rfl (pv 0))) Jaq)))))),Z9 h ?_⟩
 rintro as n' P ⟨T,m,n,nw,nr,be,W,rfl,sh,N,hw,h1,h2,q⟩
 have hs:sizeLine=16777216:=J8p
 have one:(1:Nat)<=sizeLine:=by rw [hs];decide
 refine ⟨rfl,one,Jtf Y ⟨⟨by show (-2^63:Int)<=(be:Int);omega,by show (be:Int)<2^63;omega,by show 1*(be:Int).toNat<=_;omega⟩,?_⟩⟩
 rw [show ((be:Nat):Int).toNat=be from Qy _,Jco,show Qp be (Qi 0)=(wl T.q be []).map .int by rw [<- Jyj,J17]]
 refine ⟨_,.refl,?_⟩
 refine Jsj (λ e j=>j=n'/\∃ x:Vl,e=[.d (Zy C ⟨(nw:Int),(nr:Int),(be:Int)⟩ T),.d (.list (W.map Jn)),.own ((wl T.q be W).map .int),x,.jnk]) (λ M hM=>?_) ?_
 . refine ⟨λ i env j=>j=n'/\∃ x:Vl,env=[.d (Zy C ⟨(nw:Int),(nr:Int),(be:Int)⟩ T),.d (.list (W.map Jn)),.own ((wl T.q be (W.take i)).map .int),x,.jnk],⟨rfl,_,rfl⟩,?_,?_⟩
   . rintro i x env j hx ⟨rfl,_,rfl⟩
     rw [Qk] at hx
     obtain ⟨w0,hw0,rfl⟩:=U7.mp hx
     have lt:=hw w0 (Xo hw0)
     refine Jmq Y ⟨w0,V9 (by omega) (by rw [Qb,Jil];omega),rfl,.d (Jn w0),?_⟩
     rw [J5n,hw0]
     show _=[_,_,Vl.own ((wl T.q be (W.take i++[w0])).map .int),_,_]
     rw [<- Jvk lt,X5]
     rfl
   . rintro env j ⟨rfl,x,rfl⟩
     rw [Qb,J55]
     exact hM _ _ ⟨rfl,x,rfl⟩
 rintro _ j ⟨rfl,x,rfl⟩
 rw [Jvl (m:=m)]
 refine ⟨_,.refl,Jg4 Y ⟨Jb2 (m:="rises") (by decide),_,T,m,n,W,rfl,sh,_,_,_,_,rfl,rfl,rfl,?_⟩⟩
 refine ⟨λ i env k=>k=j/\∃ x y:Vl,env=[.d (Zy C ⟨(nw:Int),(nr:Int),(be:Int)⟩ T),.d (.list (W.map Jn)),.own ((sl T m be W i).map .int),x,y],⟨rfl,_,_,rfl⟩,?_,?_⟩
 . rintro i x env k hx ⟨rfl,_,_,rfl⟩
   obtain ⟨hi,rfl⟩:=Jyk sh hx
   refine ⟨rfl,rfl,T.f i,V9 (by omega) (by rw [Qb,Jlc];have:=N.fl i hi;omega),rfl,.d (Jn (T.f i)),.d (.int (T.rise m W i)),?_⟩
   rw [<- Jvm N hi,X5]
   rfl
 . rintro env k ⟨rfl,_,_,rfl⟩
   have lz:(Ba (T.fr.map Jn) (((Qf n).map (T.rise m W)).map .int)).length=n:=by rw [Vv,Qb,Qb,Qb,Qw,sh.lf];omega
   rw [lz]
   refine ⟨_,.refl,Jp3 Y ?_⟩
   show P (Jei ((sl T m be W n).map Qi) (some ((nw:Nat):Int)) none) k
   rw [Jfm,<- J3a]
   exact q
theorem Vn:FnScope ["self","at","place","row","rows"] ["self","at","place"] (Je Wn):=⟨rfl,rfl,rfl,by decide +kernel,rfl,by decide +kernel,by decide +kernel⟩
theorem Jeb {C:Addr}(T:Txt mg) (Y:TableOk K C) (D:DefM K C "exchange" "Table.exchange" Wn ["self","at","place"]) (c_Table__without:Wh P w K mg base C "without" 1 ["self","other","row","place"] (Y8 (Jog C))):Wh P w K mg base C "exchange" 2 ["self","at","place"] (Jym C):=by
 refine D.cal Y.c λ f fd F=>F.ok Vn (λ vs H Q E h=>by obtain ⟨xx,p,fa,ba,z,T,m,n,l,k,rfl,_⟩:=h;rfl) (λ cdv A outer s H vs Q E hr h=>?_)
 refine ⟨_,(@Ja _ _ _ _ _ (J5 (i:=3) Vn.nd rfl (Qv rfl) (Ji Js (J7 (K':=K) rfl (pv 0)) (pv 1) (λ _ _=>rfl)))
  (@Ja _ _ _ _ _ (Jtm (V5 (i:=4) (sc:=(Je Wn)) (N:=["self","at","place","row","rows"]) (N':=["other","self","row","place"]) (k:=1) (idx:=[0,3,2]) rfl Vn.nd rfl rfl (by exact ⟨rfl,by decide +kernel,by decide +kernel,by decide +kernel,by decide +kernel,by decide +kernel,rfl,rfl⟩) rfl rfl (Bj (J7 (K':=K) rfl (pv 0))) (λ _ _ _ _=>(J0 (i:=0) (show (["other","self","row","place"]:List Str).Nodup by decide +kernel) rfl (Qa rfl) (Qv rfl))) (λ _ _ _ _=>Y7) (λ _ _ _ _=>(Jgo c_Table__without (hr.mono (by decide)) (pv 1) (Jb (pv 0) (Jb (pv 2) (Jb (pv 3) Jc)))))))
  (@Ja _ _ _ _ _ (Jpl (Yi (Yj Wy rfl T.b_list J82 (Jb (pv 3) Jc)) (Za (pv 4) (pv 1) Yh (λ v=>J6 _ _ _ _ _ v))))
  (@Ja _ _ _ _ _ (Yi (J7 (K':=K) rfl (pv 0)) (Za (Ji Js (pv 4) (pv 1) (λ _ _=>rfl)) (pv 2) Yh (λ v=>J6 _ _ _ _ _ v)))
  (@Ja _ _ _ _ _ (Jbq (pv 0) (pv 4) rfl)
  (@Ja _ _ _ _ _ (Jbq (pv 0) (Ji Js (pv 3) (pv 2) (λ _ _=>rfl)) rfl)
  (@Jf _ _ _ (Yi (@PEs.out _ _ _ (Yq (Jau (J3 (Ji Js (J7 (K':=K) rfl (pv 0)) (pv 1) (λ _ _=>rfl))) (Jau (J3 (Ji Js (J7 (K':=K) rfl (pv 0)) (pv 2) (λ _ _=>rfl))) Jr)))) (Jkc (n:=2) rfl (Zb (Za (J7 (K':=K) rfl (pv 0)) (pv 2) Yh (λ v=>J6 _ _ _ _ _ v)) (Zb (Za (J7 (K':=K) rfl (pv 0)) (pv 1) Yh (λ v=>J6 _ _ _ _ _ v)) Jed))))))))))),?_⟩
 obtain ⟨xx,p,fa,ba,z,T,m,n,l,k,rfl,hT,sh,hl,hk,q⟩:=h
 have hs:sizeLine=16777216:=J8p
 have mm:=sh.mm
 have nn:=sh.nn
 refine J1m (Jyn (N:=["self","at","place","row","rows"]) (as:=[.pin (.ref p) (Zy C z T),.d (Jn l),.d (Jn k)]) (P:=Jwz C p z T l k) ⟨⟨rfl,Rep.nil (hT.rep (by rw [sh.lf];omega) (by rw [sh.lb];omega))⟩,⟨_,rfl,.int _⟩,⟨_,rfl,.int _⟩,trivial⟩ rfl ?_ (λ ex env σ H' n' A hP=>Jvn Y hT sh hl hk A hP q))
 have hlr:l<T.rows.length:=by rw [sh.lr];exact hl
 refine Jaz Y ⟨_,Jij sh hl,_,.refl,Jaz Y ⟨⟨rfl,by rw [Qb,sh.lr];omega⟩,?_⟩⟩
 refine Jmv (λ o=>(Tb.Jct T.q (T.row l) o k).map .int) T.rows (λ o ho K hK=>⟨Jb2 (m:="without") (by decide),z,T,o,T.row l,k,rfl,?_,?_,?_,sh.small o ho,sh.small _ ?_,sh.q0,sh.q1,hK⟩) ?_
 . obtain ⟨i,hi⟩:=Uj.mp ho
   have il:=(Qs.mp hi).1
   rw [sh.lr] at il
   have:=sh.lw i il
   unfold Tb.Tab.row at this
   rw [Qd,hi] at this
   have this:o.length=n+1:=this
   omega
 . rw [sh.lw l hl];omega
 . obtain ⟨i,hi⟩:=Uj.mp ho
   have il:=(Qs.mp hi).1
   rw [sh.lr] at il
   have:=sh.lw i il
   unfold Tb.Tab.row at this
   rw [Qd,hi] at this
   have this:o.length=n+1:=this
   omega
 . unfold Tb.Tab.row
   rw [Qd,Qg hlr]
   exact Q8 _
 intro ps hps
 have lps:ps.length=T.rows.length:=by have:=congrArg J2z hps;rwa [Qb,Qb] at this
 refine ⟨_,.refl,?_⟩
 refine ⟨l,V9 (by omega) (by omega),λ b=>?_⟩
 refine ⟨_,.refl,Jmq Y ⟨l,(b,(T.row l).map .int),V9 (by omega) (by rw [Qq];omega),by rw [Q9 (by omega)],k,V9 (by omega) (by rw [Qb,sh.lw l hl];omega),?_⟩⟩
 refine ⟨_,rfl,?_⟩
 rw [J7i,X5,hps]
 unfold Tb.Tab.ex
 rw [X5,X5,Q0]
 rfl
theorem Zq:FnScope ["self","wanted","place","at"] ["self","wanted"] (Je W7):=⟨rfl,rfl,rfl,by decide +kernel,rfl,by decide +kernel,by decide +kernel⟩
theorem Jc6 {C:Addr}(T:Txt mg) (Y:TableOk K C) (D:DefM K C "find_round" "Table.find_round" W7 ["self","wanted"]) (c_Table__place_to_raise:Wh P w K mg base C "place_to_raise" 2 ["self","wanted"] (Jm (Jdf C))) (c_Table__row_to_free:Wh P w K mg base C "row_to_free" 2 ["self","place"] (Jm (Jft C))) (c_Table__counts_by:Wh P w K mg base C "counts_by" 3 ["self","place"] (Jm (Jev C))) (c_Table__exchange:Wh P w K mg base C "exchange" 2 ["self","at","place"] (Jym C)):Wh P w K mg base C "find_round" 4 ["self","wanted"] (Jg9 C):=by
 refine D.cal Y.c λ f fd F=>F.ok Zq (λ vs H Q E h=>by obtain ⟨ex,p,fa,ba,nw,nr,be,m,n,c,rhs,T,W,some,wv,rfl,_⟩:=h;rfl) (λ cdv A outer s H vs Q E hr h=>?_)
 refine ⟨_,(@Ja _ _ _ _ _ (J5 (i:=2) Zq.nd rfl (Qa rfl) (Jgo c_Table__place_to_raise (hr.mono (by decide)) (pv 0) (Jb (pv 1) Jc)))
  (@Ja _ _ _ _ _ (Jee Xh (Jy Jua (pv 2) Br (J4 _))
  (@Ja _ _ _ _ _ (J5 (i:=3) Zq.nd rfl (Qa rfl) (Jgo c_Table__row_to_free (hr.mono (by decide)) (pv 0) (Jb (pv 2) Jc)))
  (@Ja _ _ _ _ _ (Y5 (Jy Jhd (pv 3) Br (J4 _)) (@Jf _ _ _ (@Ju _ _ _ _ (Jgo c_Table__counts_by (hr.mono (by decide)) (pv 0) (Jb (pv 2) Jc)))) Ya)
  (@Ja _ _ _ _ _ (Jbp (Jgo c_Table__exchange (hr.mono (by decide)) (pv 0) (Jb (pv 3) (Jb (pv 2) Jc))))
  (@Jf _ _ _ (J5 (i:=2) Zq.nd rfl (Qa rfl) (Jgo c_Table__place_to_raise (hr.mono (by decide)) (pv 0) (Jb (pv 1) Jc))))))))
  (@Jf _ _ _ (@Ju _ _ _ _ Br)))),?_⟩
 obtain ⟨ex,p,fa,ba,nw,nr,be,m,n,c,rhs,T0,W,ways,wv,rfl,hT,hw,S,hm,hn,h1,h2,hk,fit,qr,ql⟩:=h
 have t0:TurnG C ex p fa ba ⟨(nw:Int),(nr:Int),(be:Int)⟩ m n be c rhs W T0 H wv 0 T0 H:=⟨hT,hk,.refl,hw,λ _=>T0,λ _=>0,λ _=>0,Jq9 hk.ok hk.fe,rfl,λ _ _=>hk.nm⟩
 let Pl:V->Tb.Tab->Prop:=λ pv T'=>(pv = .non/\Tb.Last m n W T')\/∃ k,pv=Y4 k/\k<n/\0<T'.rise m W k/\∀ j,j<n->0<T'.rise m W j->T'.f k<=T'.f j
 show Ja5 _ _ _ [some (.ref p),some wv,none,none] H
 refine Vi (λ σ' H'=>∃ pv,σ'=[some (.ref p),some wv,some pv,none]/\TurnG C ex p fa ba ⟨(nw:Int),(nr:Int),(be:Int)⟩ m n be c rhs W T0 H wv 0 T0 H'/\Pl pv T0) (λ N hN=>?_) ?_
 . exact Jgl S hm hn t0 rfl rfl (λ k H' a b c kp=>hN _ _ ⟨Y4 k,rfl,t0.keep kp,.inr ⟨k,rfl,a,b,c⟩⟩) (λ H' hl kp=>hN _ _ ⟨.non,rfl,t0.keep kp,.inl ⟨rfl,hl⟩⟩)
 rintro σ' H' ⟨pv,rfl,t1,pl⟩
 refine Vi (λ σ2 H2=>∃ N T',TurnG C ex p fa ba ⟨(nw:Int),(nr:Int),(be:Int)⟩ m n be c rhs W T0 H wv N T' H2/\Tb.Last m n W T') (λ N hN=>?_) ?_
 . refine ⟨λ μ σ2 H2=>∃ pv av N T',σ2=[some (.ref p),some wv,some pv,av]/\TurnG C ex p fa ba ⟨(nw:Int),(nr:Int),(be:Int)⟩ m n be c rhs W T0 H wv N T' H2/\Pl pv T'/\μ = be^m-N,⟨_,pv,none,0,T0,rfl,t1,pl,rfl⟩,?_⟩
   rintro μ σ2 H2 ⟨pv,av,N1,T1,rfl,t2,pl,rfl⟩
   rcases pl with ⟨rfl,hl⟩ | ⟨k,rfl,a,b,cf⟩
   . exact ⟨_,rfl,rfl,_,rfl,Vc (by simp) (hN _ _ ⟨N1,T1,t2,hl⟩)⟩
   . refine ⟨_,rfl,rfl,_,rfl,Jjw (by simp) ⟨λ σ' H'=>∃ μ',μ'<be^m-N1/\∃ pv av N T',σ'=[some (.ref p),some wv,some pv,av]/\TurnG C ex p fa ba ⟨(nw:Int),(nr:Int),(be:Int)⟩ m n be c rhs W T0 H wv N T' H'/\Pl pv T'/\μ'=be^m-N,λ σ' H' h=>h,?_⟩⟩
     refine Vi (λ σ' H'=>∃ av',σ'=[some (.ref p),some wv,some (Y4 k),some av']/\TurnG C ex p fa ba ⟨(nw:Int),(nr:Int),(be:Int)⟩ m n be c rhs W T0 H wv N1 T1 H'/\((av' = .non/\rf T1 n k m=none)\/∃ l,av'=Y4 l/\rf T1 n k m=some l)) (λ M hM=>?_) ?_
     . exact Jou S hm hn t2 rfl rfl a (λ l H' e kp=>hM _ _ ⟨_,rfl,t2.keep kp,.inr ⟨l,rfl,e⟩⟩) (λ H' e kp=>hM _ _ ⟨_,rfl,t2.keep kp,.inl ⟨rfl,e⟩⟩)
     rintro σ3 H3 ⟨av',rfl,t3,hf⟩
     rcases hf with ⟨rfl,e⟩ | ⟨l,rfl,e⟩
     . refine ⟨_,rfl,rfl,_,rfl,Jjw (by simp) ?_⟩
       have ry:=Jyl a b e
       have sh:=Jbm S t3.k.ok hm hn
       have hs:sizeLine=16777216:=J8p
       obtain ⟨dx,rv,o1,o2⟩:=t3.h.o
       obtain ⟨j,hj,jp⟩:=Jp4 fit t3.k.tot t3.k.ok ry
       have jn:=fit.sm j hj
       have jm:T1.dir m k j∈(Qf nw).map (T1.dir m k):=Qo.mpr ⟨j,Q5.mpr jn,rfl⟩
       have jb:(T1.dir m k j).natAbs<2^9000:=Qz (Jj5 sh t3.k.ok a ((fit.names t3.k.tot j).mpr (.inr hj))) (J3e (by decide) (by decide))
       have j0:T1.dir m k j≠0:=by omega
       refine ⟨_,rfl,p,dx,_,rfl,o1,rfl,_,rfl,?_⟩
       refine Jew (sp:=Jev C) (E:=E0) (vs:=[Y4 k]) (as:=[.d (Jn k)]) t3.h (by rw [sh.lf];omega) (by rw [sh.lb];omega) ⟨⟨_,rfl,.int _⟩,trivial⟩ (P:=λ d _=>d = .tuple (((Qf nw).map (T1.dir m k)).map λ x=>.int (x/((Zi ((Qf nw).map (T1.dir m k)):Nat):Int)))) ⟨T1,m,n,k,nw,nr,be,rfl,sh,t3.k.nm,a,h1,h2,Jb1 jm j0,Jtn jm j0 jb,rfl⟩ λ d n' v H' hp kp r=>?_
       subst hp
       exact qr H' T1 k v (t3.keep kp).h t3.k ry (t3.keep kp).kp r
     . refine ⟨_,rfl,rfl,_,rfl,Vc (by simp) ?_⟩
       have st:=Jtw a b cf e
       have sh:=Jbm S t3.k.ok hm hn
       obtain ⟨dx,rv,o1,o2⟩:=t3.h.o
       unfold Jo5
       dsimp only
       refine Vi (λ σ' H'=>σ'=[some (.ref p),some wv,some (Y4 k),some (Y4 l)]/\TurnG C ex p fa ba ⟨(nw:Int),(nr:Int),(be:Int)⟩ m n be c rhs W T0 H wv (N1+1) (T1.ex l k) H') (λ M hM=>?_) ?_
       . exact ⟨_,rfl,p,dx,_,rfl,o1,rfl,_,rfl,_,rfl,ex,p,fa,ba,_,T1,m,n,l,k,rfl,t3.h,sh,st.hl,a,λ H' hT' kp=>hM _ _ ⟨rfl,t3.next st hT' kp⟩⟩
       rintro σ4 H4 ⟨rfl,t4⟩
       have few:=t4.few
       refine Jgl S hm hn t4 rfl rfl (λ k' H' a b c kp=>⟨_,?_,Y4 k',_,_,_,rfl,t4.keep kp,.inr ⟨k',rfl,a,b,c⟩,rfl⟩) (λ H' hl kp=>⟨_,?_,.non,_,_,_,rfl,t4.keep kp,.inl ⟨rfl,hl⟩,rfl⟩)
       . omega
       . omega
 . rintro σ2 H2 ⟨N,T',t,hl⟩
   exact ql H2 T' t.h t.k hl t.kp
theorem Bi:FnScope ["book","stand","rooms","purses","ways","room","numbers"] ["book","stand"] (Je Vf):=⟨rfl,rfl,rfl,by decide +kernel,rfl,by decide +kernel,by decide +kernel⟩
theorem Jf4 (T:Txt mg) (D:Def K mg "first_numbers" Vf ["book","stand"]):Cal P w K mg base "first_numbers" 1 ["book","stand"] (Y8 Jiz):=by
 refine D.cal λ f fd F=>F.ok Bi (Wz ?_) (λ cdv A outer s H vs Q E hr h=>?_)
 . rintro as n P ⟨R,U,ws,room,nums,rfl,_⟩
   rfl
 refine ⟨_,(@Ja _ _ _ _ _ (Yi (pv 0) (Jbv (K':=K) (i:=2) (j:=3) (m:=4) rfl Bi.nd ⟨rfl,(Qa rfl),(Qa rfl)⟩ ⟨rfl,(Qa rfl),(Qa rfl)⟩ ⟨rfl,(Qa rfl),(Qa rfl)⟩ rfl))
  (@Ja _ _ _ _ _ (Y5 (Jy Jhd (pv 1) Br (J4 _)) (@Jf _ _ _ (@Ju _ _ _ _ (Jo Jaa (@PEs.out _ _ _ (Ye (Jl Jz Jr))) (Jo Zu (pv 3) (pv 2))))) Ya)
  (@Ja _ _ _ _ _ (Yi (pv 1) (Z1 (K':=K) (i:=5) (j:=6) rfl Bi.nd ⟨rfl,(Qv rfl),(Qa rfl)⟩ ⟨rfl,(Qa rfl),(Qa rfl)⟩ rfl))
  (@Jf _ _ _ (@Ju _ _ _ _ (Jo Jfj (Yj Wy rfl T.b_list J82 (Jb (pv 6) Jc)) (Zo (sc:=(Je Vf)) (N:=["book","stand","rooms","purses","ways","room","numbers"]) (N':=["other","room"]) (k:=1) (idx:=[5]) rfl (by exact ⟨rfl,by decide +kernel,by decide +kernel,by decide +kernel,by decide +kernel,by decide +kernel,rfl,rfl⟩) rfl rfl (Yr rfl T.b_range (Jb (pv 2) Jc)) (λ _ _ _ _=>(J0 (i:=0) (show (["other","room"]:List Str).Nodup by decide +kernel) rfl (Qa rfl) (Qv rfl))) (λ _ _ _ _=>Y7) (λ _ _ _ _=>(Yj Jfg rfl T.b_int J9l (Jn2 (Wj Jbc (pv 0) (pv 1) (J4 _)) Jc)))))))))),Z9 h ?_⟩
 rintro as n P ⟨R,U,ws,room,nums,rfl,ok,sd,q⟩
 have hs:sizeLine=16777216:=J8p
 have one:(1:Nat)<=sizeLine:=by rw [hs];decide
 have r0:=ok.r0
 have r1:=ok.r1
 have p0:=ok.p0
 have p1:=ok.p1
 have sl:=sd.len
 refine ⟨rfl,rfl,rfl,_,.refl,rfl,We ⟨_,.refl,?_⟩⟩
 refine ⟨rfl,rfl,_,.refl,R,rfl,⟨by omega,by omega⟩,⟨rfl,by rw [Yn];omega⟩,?_⟩
 refine Bb (λ i=>.int (if decide ((i:Int)=room)=true then 1 else 0)) (λ i hi n K hK=>Bt ?_) ?_
 . rw [show ((i:Nat):Int)=0+(i:Int) from (J2k _).symm] at hK
   exact hK
 . have e:nums.map Qi++(Qf R.toNat).map (λ i=>.int (if decide ((i:Int)=room)=true then 1 else 0))=((Qf (U+R).toNat).map (rhS U room nums)).map .int:=by
    rw [show (U+R).toNat=U.toNat+R.toNat by omega,J50,Xg,Xg,Q0,Q0,Q0]
    congr 1
    . apply Xv
      intro i
      rw [Qk,Qk]
      by_cases hi:i<U.toNat
      . have il:i<nums.length:=by omega
        rw [Xi hi,Qg il]
        show some (Qi nums[i])=some (Qi (rhS U room nums i))
        unfold rhS
        rw [if_pos (by omega),Qd,Qg il];rfl
      . rw [Qx (by omega),Qx (by rw [Qw];omega)];rfl
    . refine U0 λ i hi=>?_
      show Qi _=Qi (rhS U room nums (U.toNat+i))
      have h1:rhS U room nums (U.toNat+i)=if (i:Int)=room then 1 else 0:=by
       unfold rhS
       rw [if_neg (by omega),show ((U.toNat+i:Nat):Int)-U=(i:Int) by omega]
      rw [h1]
      simp only [decide_eq_true_eq]
   rw [e]
   refine ⟨by rw [Qb,Qb,Qw];omega,q⟩
theorem Vz:FnScope ["self","book","some","stand","rooms","purses","ways","rows"] ["self","book","some","stand"] (Je Zg):=⟨rfl,rfl,rfl,by decide +kernel,rfl,by decide +kernel,by decide +kernel⟩
theorem Ji0 {C:Addr}(T:Txt mg) (Y:TableOk K C) (D:DefI2 K mg "Table" C "Table.__init__" Zg ["self","book","some","stand"]) (Gj:Cal P w K mg base "first_numbers" 1 ["book","stand"] (Y8 Jiz)):Jmw P w K mg base "Table" C 2 ["self","book","some","stand"] (Jlk C):=by
 refine D.cal λ f fd F=>F.ok Vz (λ vs H Q E h=>by obtain ⟨ex,x,dx,R,U,ws,room,nums,ks,bv,sv,tv,rfl,_⟩:=h;rfl) (λ cdv A outer s H vs Q E hr h=>?_)
 refine ⟨_,(@Ja _ _ _ _ _ (Yi (pv 1) (Jbv (K':=K) (i:=4) (j:=5) (m:=6) rfl Vz.nd ⟨rfl,(Qa rfl),(Qa rfl)⟩ ⟨rfl,(Qa rfl),(Qa rfl)⟩ ⟨rfl,(Qv rfl),(Qa rfl)⟩ rfl))
  (@Ja _ _ _ _ _ (Jbq (pv 0) (Jw J1 rfl T.b_len Xm (Jb (pv 6) Jc)) rfl)
  (@Ja _ _ _ _ _ (Jbq (pv 0) (Jo Zu (Jw J1 rfl T.b_len Xm (Jb (pv 6) Jc)) (pv 5)) rfl)
  (@Ja _ _ _ _ _ (Jbq (pv 0) (Jo Zu (Jo Zu (Jw J1 rfl T.b_len Xm (Jb (pv 6) Jc)) (pv 5)) (pv 4)) rfl)
  (@Ja _ _ _ _ _ (Jbq (pv 0) (Yj Wy rfl T.b_list J82 (Jb (pv 2) Jc)) rfl)
  (@Ja _ _ _ _ _ (Jbq (pv 0) (Jjb rfl rfl T.b_list rfl T.b_range (Vu (J7 (K':=K) rfl (pv 0)) (Vu (J7 (K':=K) rfl (pv 0)) Jc))) rfl)
  (@Ja _ _ _ _ _ (Jgg (i:=7) (sc:=(Je Zg)) (N:=["self","book","some","stand","rooms","purses","ways","rows"]) (N':=["p","some","ways"]) (k:=1) (idx:=[2,6]) rfl Vz.nd rfl rfl (by exact ⟨rfl,by decide +kernel,by decide +kernel,by decide +kernel,by decide +kernel,by decide +kernel,rfl,rfl⟩) rfl rfl (Yr rfl T.b_range (Jb (pv 5) Jc)) (λ _ _ _ _=>(J0 (i:=0) (show (["p","some","ways"]:List Str).Nodup by decide +kernel) rfl (Qv rfl) (Qa rfl))) (λ _ _ _ _=>Y7) (λ _ _ _ _=>(Zo (sc:=Jup _ (Je Zg)) (N:=["p","some","ways"]) (N':=["k","ways","p"]) (k:=1) (idx:=[2,0]) rfl (by exact ⟨rfl,by decide +kernel,by decide +kernel,by decide +kernel,by decide +kernel,by decide +kernel,rfl,rfl⟩) (Jxr rfl) rfl (by exact (Jmx (K':=K) rfl (pv 1))) (λ _ _ _ _=>(J0 (i:=0) (show (["k","ways","p"]:List Str).Nodup by decide +kernel) rfl (Qa rfl) (Qv rfl))) (λ _ _ _ _=>Y7) (λ _ _ _ _=>(Bl Wp (Ji (Ve (K':=K) rfl) (Ji (Ve (K':=K) rfl) (Ji (Ve (K':=K) rfl) (pv 1) (pv 0) (λ _ _=>rfl)) Jd (λ _ _=>rfl)) (pv 2) (λ _ _=>rfl)))))))
  (@Ja _ _ _ _ _ (Jw9 (i:=7) Vz.nd rfl (Qa rfl) (Jsa (sc:=(Je Zg)) (N:=["self","book","some","stand","rooms","purses","ways","rows"]) (N':=["room","some","ways"]) (k:=1) (idx:=[2,6]) rfl (by exact ⟨rfl,by decide +kernel,by decide +kernel,by decide +kernel,by decide +kernel,by decide +kernel,rfl,rfl⟩) rfl rfl (Yr rfl T.b_range (Jb (pv 4) Jc)) (λ _ _ _ _=>(J0 (i:=0) (show (["room","some","ways"]:List Str).Nodup by decide +kernel) rfl (Qv rfl) (Qa rfl))) (λ _ _ _ _=>Y7) (λ _ _ _ _=>(Zo (sc:=Jup _ (Je Zg)) (N:=["room","some","ways"]) (N':=["k","ways","room"]) (k:=1) (idx:=[2,0]) rfl (by exact ⟨rfl,by decide +kernel,by decide +kernel,by decide +kernel,by decide +kernel,by decide +kernel,rfl,rfl⟩) (Jxr rfl) rfl (by exact (Jmx (K':=K) rfl (pv 1))) (λ _ _ _ _=>(J0 (i:=0) (show (["k","ways","room"]:List Str).Nodup by decide +kernel) rfl (Qa rfl) (Qv rfl))) (λ _ _ _ _=>Y7) (λ _ _ _ _=>(Jo Vr (Yj Jfg rfl T.b_int J9l (Jn2 (Wj Jbc (Ji (Ve (K':=K) rfl) (Ji (Ve (K':=K) rfl) (pv 1) (pv 0) (λ _ _=>rfl)) Jd (λ _ _=>rfl)) (pv 2) (J4 _)) Jc)) (Yj Jfg rfl T.b_int J9l (Jn2 (Wj Jbc (Ji (Ve (K':=K) rfl) (Ji (Ve (K':=K) rfl) (pv 1) (pv 0) (λ _ _=>rfl)) Jd (λ _ _=>rfl)) (pv 2) (J4 _)) Jc))))))) Jvo)
  (@Ja _ _ _ _ _ (Jbq (pv 0) (Zo (sc:=(Je Zg)) (N:=["self","book","some","stand","rooms","purses","ways","rows"]) (N':=["row","first"]) (k:=2) (idx:=[]) rfl (by exact ⟨rfl,by decide +kernel,by decide +kernel,by decide +kernel,by decide +kernel,by decide +kernel,rfl,rfl⟩) rfl rfl (Jad rfl T.b_zip (Jb (pv 7) (Z0 (Yw Gj (hr.mono (by decide)) rfl (Jb (pv 1) (Jb (pv 3) Jc))) Jc))) (λ _ _ _ _=>(Z1 (K':=K) (i:=0) (j:=1) rfl (show (["row","first"]:List Str).Nodup by decide +kernel) ⟨rfl,(Qa rfl),(Qv rfl)⟩ ⟨rfl,(Qa rfl),(Qv rfl)⟩ rfl)) (λ _ _ _ _=>Y7) (λ _ _ _ _=>(Jo Jfj (pv 0) (@PEs.out _ _ _ (Ye (Zd (J3 (pv 1)) Jr)))))) rfl)
  (@Jf _ _ _ (Jbq (pv 0) Jd rfl))))))))))),?_⟩
 obtain ⟨ex,x,dx,R,U,ws,room,nums,ks,bv,sv,tv,rfl,hx,alx,nxe,rb,rs,rt,ok,sd,hk,kl,q⟩:=h
 have hs:sizeLine=16777216:=J8p
 have r0:=ok.r0
 have r1:=ok.r1
 have p0:=ok.p0
 have p1:=ok.p1
 have wl:=ok.len
 obtain ⟨ba,wa,vs,B⟩:=Jr6 rb
 have bl:=B.len
 obtain ⟨sa,svs,rfl,hsa,nsa,zsa,rsa⟩:=Jul rs
 have bx:ba≠x:=λ z=>B.nb (by rw [z];exact Qn)
 have wx:wa≠x:=λ z=>B.nw (by rw [z];exact Qn)
 have sx:sa≠x:=λ z=>nsa (by rw [z];exact Qn)
 refine ⟨_,rfl,ba,_,B.e,SqT.of B.b,rfl,_,_,rfl,_,_,rfl,_,_,rfl,rfl,?_⟩
 show Ja5 _ _ _ [some (.ref x),some bv,some (.ref sa),some tv,some (.int R),some (.int U),some (.ref wa),none] H
 refine ⟨_,rfl,wa,vs,rfl,.inr (SqT.of B.w),_,rfl,x,C,dx,_,rfl,hx,Y.c,Y.n1,Q1 rfl,?_⟩
 refine ⟨_,rfl,wa,vs,rfl,.inr (SqT.of (by rw [Jh wx];exact B.w)),_,rfl,_,_,rfl,rfl,_,rfl,x,C,dx,_,rfl,Jj,Y.c,Y.n2,Q1 rfl,?_⟩
 rw [Jgv]
 refine ⟨_,rfl,wa,vs,rfl,.inr (SqT.of (by rw [Jh wx];exact B.w)),_,rfl,_,_,rfl,rfl,_,rfl,_,_,rfl,rfl,_,rfl,x,C,dx,_,rfl,Jj,Y.c,Y.n3,Q1 rfl,?_⟩
 rw [Jgv,bl]
 refine ⟨_,rfl,sa,svs,rfl,.inl (SqL.of (by rw [Jh sx];exact hsa)),λ fa hfa=>?_⟩
 have fx:fa≠x:=λ z=>by rw [z,Jj] at hfa;cases hfa
 rw [Jh fx] at hfa
 refine ⟨_,rfl,x,C,dx,_,rfl,by rw [Jh (Qj fx),Jj],Y.c,Y.n4,Q1 rfl,?_⟩
 refine ⟨_,rfl,x,C,dx,_,_,rfl,Jj,Y.c,Y.n1,rfl,_,rfl,x,C,dx,_,_,rfl,Jj,Y.c,Y.n3,rfl,_,_,rfl,by omega,by omega,by omega,λ ba' hba=>?_⟩
 have bx':ba'≠x:=λ z=>by rw [z,Jj] at hba;cases hba
 rw [Jh bx'] at hba
 have bf:ba'≠fa:=λ z=>by rw [z,Jj] at hba;cases hba
 rw [Jh bf,Jh bx'] at hba
 refine ⟨_,rfl,x,C,dx,_,rfl,by rw [Jh (Qj bx'),Jj],Y.c,Y.n5,Q1 rfl,?_⟩
 have svs':svs=ks.map Y4:=by
  have:=Reps.ints_inv (ns:=ks.map λ k:Nat=>(k:Int)) (vs:=svs) (by rw [Q0];exact rsa)
  rw [this,Q0];rfl
 have bds:Jez (ws.length:Int) ((ws.length:Int)+U+R-(ws.length:Int)).toNat=(Jdl R U ws room nums ks).bd.map Y4:=by
  unfold Jez Jdl Tb.Bc
  rw [Q0,show ((ws.length:Int)+U+R-(ws.length:Int)).toNat=(U+R).toNat by omega]
  refine U0 λ i _=>?_
  show V.int _=V.int _
  congr 1
 subst svs'
 rw [bds]
 let fs5:List (Str×V):=[("first_purse",.int ws.length),("first_room",.int (ws.length+U)),("behind_all",.int (ws.length+U+R)),("free",.ref fa),("bound",.ref ba')]
 obtain ⟨H6,e6,h6x,h6f,h6b,k6⟩:∃ H6:Hp,H6=upd (upd (upd (upd (upd H x (.ins C dx (L2.putF "behind_all" (.int ((ws.length:Int)+U+R)) (L2.putF "first_room" (.int ((ws.length:Int)+U)) (L2.putF "first_purse" (.int (ws.length:Int)) []))))) fa (.lst (ks.map Y4))) x (.ins C dx (L2.putF "free" (.ref fa) (L2.putF "behind_all" (.int ((ws.length:Int)+U+R)) (L2.putF "first_room" (.int ((ws.length:Int)+U)) (L2.putF "first_purse" (.int (ws.length:Int)) [])))))) ba' (.lst ((Jdl R U ws room nums ks).bd.map Y4))) x (.ins C dx fs5)/\H6 x=some (.ins C dx fs5)/\H6 fa=some (.lst (ks.map Y4))/\H6 ba'=some (.lst ((Jdl R U ws room nums ks).bd.map Y4))/\Kp [x] H H6:=by
  refine ⟨_,rfl,Jj,by rw [Jh fx,Jh (Qj bf),Jh fx,Jj],by rw [Jh bx',Jj],λ b o e nb=>?_⟩
  have nx:b≠x:=λ z=>nb (by rw [z];exact Qn)
  rw [Jh nx,Jh (Jx e hba),Jh nx,Jh (Jx e hfa),Jh nx]
  exact e
 dsimp only
 have go:∀ {a b:TS} {D:Ends} {σ:L2.St} (H':Hp),H'=H6->Ja5 a b D σ H6->Ja5 a b D σ H':=λ {a b D σ} H' e g=>by rw [e];exact g
 refine go _ e6.symm ?_
 clear go
 have kx6:Kp (fa::ba'::x::ex) H H6:=k6.mono λ b hb=>by rw [Qu.mp hb];simp
 have frx:∀ b∈[fa,ba'],H b=none:=λ b hb=>by
  rcases Qh.mp hb with rfl | hb
  . exact hfa
  . rw [Qu.mp hb];exact hba
 have rb6:Rep (fa::ba'::x::ex) H6 (J2 R U ws) bv:=(Rep.adds (L:=[fa,ba']) frx rb).keep kx6
 have rs6:Rep (fa::ba'::x::ex) H6 (.list (ks.map Jn)) (.ref sa):=(Rep.adds (L:=[fa,ba']) frx rs).keep kx6
 have rt6:Rep (fa::ba'::x::ex) H6 (Yl room nums) tv:=(Rep.adds (L:=[fa,ba']) frx rt).keep kx6
 have rw6:Rep (fa::ba'::x::ex) H6 (.tuple (ws.map Ym)) (.ref wa):=(Rep.adds (L:=[fa,ba']) frx (.tuple B.w B.nw B.z B.r)).keep kx6
 have al6:Alc (fa::ba'::x::ex) H6:=λ b hb=>by
  rcases Qh.mp hb with rfl | hb
  . rw [h6f];exact Xw _
  . rcases Qh.mp hb with rfl | hb
    . rw [h6b];exact Xw _
    . rcases Qh.mp hb with rfl | hb
      . rw [h6x];exact Xw _
      . cases e:H b with
        | none=>exact absurd e (alx b hb)
        | some o=>rw [k6 b o e (λ z=>nxe (by rw [<- Qu.mp z];exact hb))];exact Xw _
 have hU:((U.toNat:Nat):Int)=U:=Uz (by omega)
 have hR:((R.toNat:Nat):Int)=R:=Uz (by omega)
 have E6:Ev Src.no (fa::ba'::x::ex) [.jnk,.d (J2 R U ws),.d (.list (ks.map Jn)),.d (Yl room nums),.d (.int R),.d (.int U),.d (.tuple (ws.map Ym))] [some (.ref x),some bv,some (.ref sa),some tv,some (.int R),some (.int U),some (.ref wa),none] H6 0:=Jgq.ev ⟨trivial,⟨_,rfl,rb6⟩,⟨_,rfl,rs6⟩,⟨_,rfl,rt6⟩,⟨_,rfl,.int _⟩,⟨_,rfl,.int _⟩,⟨_,rfl,rw6⟩,trivial⟩ al6
 refine Jto (λ ds _=>ds=(Qf U.toNat).map λ i=>.list (ks.map λ k=>.int (Zf U ws k i))) E6 ?_ ?_
 . refine ⟨U,rfl,⟨by omega,by omega⟩,⟨rfl,by rw [Yn];omega⟩,?_⟩
   refine Bb (λ i=>.list (ks.map λ k=>.int (Zf U ws k i))) (λ i hi n K hK=>Bt ⟨⟨rfl,by rw [Qb];omega⟩,?_⟩) rfl
   refine W0 (f:=Jn) (λ k=>.int (Zf U ws k i)) (λ k hkk n K hK=>Bt ?_) hK
   have k1:=hk k hkk
   have wok:=ok.ways _ (Yx (Xj k) (by omega))
   have gl:i<(Jg ws (k:Int)).g.length:=by have:=wok.len;omega
   refine ⟨_,Jbw (Xj k) (by omega),_,rfl,_,Yc (by omega) (by rw [J2k,Qy,Qk,Qg gl];rfl),?_⟩
   have e:Zf U ws k i = -(Jg ws (k:Int)).g[i]:=by
    unfold Zf
    rw [if_pos k1,if_pos (by omega),Qd,Qg gl];rfl
   rw [e] at hK
   exact hK
 rintro ds n7 ra rvs H7 rfl st7 hra h7a z7 r7
 have k7:Kp [] H6 H7:=st7.1
 have E7:=E6.step st7
 have kx7:Kp (ra::fa::ba'::x::ex) H6 H7:=k7.mono λ a ha=>by cases ha
 have al7:Alc (ra::fa::ba'::x::ex) H7:=λ b hb=>by
  rcases Qh.mp hb with rfl | hb
  . rw [h7a];exact Xw _
  . exact E7.al b hb
 have rb7:Rep (ra::fa::ba'::x::ex) H7 (J2 R U ws) bv:=(Rep.add hra rb6).keep kx7
 have rs7:Rep (ra::fa::ba'::x::ex) H7 (.list (ks.map Jn)) (.ref sa):=(Rep.add hra rs6).keep kx7
 have rt7:Rep (ra::fa::ba'::x::ex) H7 (Yl room nums) tv:=(Rep.add hra rt6).keep kx7
 have rw7:Rep (ra::fa::ba'::x::ex) H7 (.tuple (ws.map Ym)) (.ref wa):=(Rep.add hra rw6).keep kx7
 have E7':Ev Src.no (ra::fa::ba'::x::ex) [.jnk,.d (J2 R U ws),.d (.list (ks.map Jn)),.d (Yl room nums),.d (.int R),.d (.int U),.d (.tuple (ws.map Ym))] [some (.ref x),some bv,some (.ref sa),some tv,some (.int R),some (.int U),some (.ref wa),some (.ref ra)] H7 0:=Jgq.ev ⟨trivial,⟨_,rfl,rb7⟩,⟨_,rfl,rs7⟩,⟨_,rfl,rt7⟩,⟨_,rfl,.int _⟩,⟨_,rfl,.int _⟩,⟨_,rfl,rw7⟩,trivial⟩ al7
 refine Jtp (λ ds _=>ds=(Qf R.toNat).map λ i=>.list (ks.map λ k=>.int (Zf U ws k (U.toNat+i)))) E7' ?_ rfl h7a (by simp [Src.no]) ?_
 . refine ⟨R,rfl,⟨by omega,by omega⟩,⟨rfl,by rw [Yn];omega⟩,?_⟩
   refine Bb (λ i=>.list (ks.map λ k=>.int (Zf U ws k (U.toNat+i)))) (λ i hi n K hK=>Bt ⟨⟨rfl,by rw [Qb];omega⟩,?_⟩) rfl
   refine W0 (f:=Jn) (λ k=>.int (Zf U ws k (U.toNat+i))) (λ k hkk n K hK=>Bt ?_) hK
   have k1:=hk k hkk
   have wok:=ok.ways _ (Yx (Xj k) (by omega))
   have e:Zf U ws k (U.toNat+i)=(if decide ((Jg ws (k:Int)).a=0+(i:Int))=true then 1 else 0)-(if decide ((Jg ws (k:Int)).b=0+(i:Int))=true then 1 else 0):=by
    unfold Zf
    rw [if_pos k1,if_neg (by omega),show ((U.toNat+i:Nat):Int)-U=0+(i:Int) by omega]
    simp only [decide_eq_true_eq]
   rw [e] at hK
   exact ⟨_,Jbw (Xj k) (by omega),_,rfl,_,Jbw (Xj k) (by omega),_,rfl,hK⟩
 rintro ds n8 rb us H8 rfl st8 hrb h8b z8 r8 h8a
 have k8:Kp [] H7 H8:=st8.1
 have l7:=r7.length
 rw [Qb,Qw] at l7
 have l8:=r8.length
 rw [Qb,Qw] at l8
 refine ⟨by omega,?_⟩
 have nra:ra∉(fa::ba'::x::ex):=λ z=>E6.al ra z hra
 have nrb:ra≠rb:=λ z=>by rw [z,hrb] at h7a;cases h7a
 have ram:ra∈(ra::fa::ba'::x::ex):=Qn
 have k8':Kp (ra::fa::ba'::x::ex) H7 (upd H8 ra (.lst (rvs++us))):=(k8.mono λ a ha=>by cases ha).trans (Kp.at ram _)
 have rows8:Reps (ra::fa::ba'::x::ex) (upd H8 ra (.lst (rvs++us))) ((Qf (U+R).toNat).map λ i=>.list (ks.map λ k=>.int (Zf U ws k i))) (rvs++us):=by
  rw [show (U+R).toNat=U.toNat+R.toNat by omega,J50,Xg,Q0]
  exact Reps.append (r7.keep k8') ((Reps.sub r8).keep (Kp.at ram _))
 have al8:Alc (fa::ba'::x::ex) (upd H8 ra (.lst (rvs++us))):=λ b hb=>by
  by_cases e:b=ra
  . rw [e,Jj];exact Xw _
  . rw [Jh e];exact (E7'.step st8).al b (Ql _ hb)
 have E8:Ev Src.no (fa::ba'::x::ex) [.jnk,.d (J2 R U ws),.d (.list (ks.map Jn)),.d (Yl room nums),.d (.int R),.d (.int U),.d (.tuple (ws.map Ym)),.d (.list ((Qf (U+R).toNat).map λ i=>.list (ks.map λ k=>.int (Zf U ws k i))))] [some (.ref x),some bv,some (.ref sa),some tv,some (.int R),some (.int U),some (.ref wa),some (.ref ra)] (upd H8 ra (.lst (rvs++us))) 0:=Jgq.ev ⟨trivial,⟨_,rfl,Rep.sub (rb7.keep k8')⟩,⟨_,rfl,Rep.sub (rs7.keep k8')⟩,⟨_,rfl,Rep.sub (rt7.keep k8')⟩,⟨_,rfl,.int _⟩,⟨_,rfl,.int _⟩,⟨_,rfl,Rep.sub (rw7.keep k8')⟩,⟨_,rfl,.list Jj nra (by rw [Xp];omega) (Reps.sub rows8)⟩,trivial⟩ al8
 have xra:x≠ra:=λ z=>nra (by rw [<- z];simp)
 have fra:fa≠ra:=λ z=>nra (by rw [<- z];simp)
 have bra:ba'≠ra:=λ z=>nra (by rw [<- z];simp)
 have h8x:(upd H8 ra (.lst (rvs++us))) x=some (.ins C dx fs5):=by rw [Jh xra];exact k8 _ _ (k7 _ _ h6x (by simp)) (by simp)
 refine Jtq (λ ds _=>ds=(Jdl R U ws room nums ks).rows.map Y0) E8 ?_ rfl h8x (by simp [Src.no]) Y.c Y.n6 (Q1 rfl) ?_
 . refine ⟨R,U,ws,room,nums,rfl,ok,sd,_,_,_,_,rfl,rfl,rfl,⟨rfl,by rw [Vv,Qb,Qw];omega⟩,?_⟩
   have ez:Ba ((Qf (U+R).toNat).map λ i=>Ur (ks.map λ k=>.int (Zf U ws k i))) (((Qf (U+R).toNat).map (rhS U room nums)).map .int)=(Qf (U+R).toNat).map λ i=>Us [.list (ks.map λ k=>.int (Zf U ws k i)),.int (rhS U room nums i)]:=by
    apply Xv
    intro i
    unfold Ba
    rw [J15,Qk,Qk,Qk,Qk]
    by_cases hi:i<(U+R).toNat
    . rw [Xi hi];rfl
    . rw [Qx (by rw [Qw];omega)];rfl
   rw [ez]
   refine Bb (λ i=>Y0 (ks.map (λ k=>Zf U ws k i)++[rhS U room nums i])) (λ i hi n K hK=>⟨rfl,rfl,Bt ?_⟩) ?_
   . have e:Y0 (ks.map (λ k=>Zf U ws k i)++[rhS U room nums i]) = .list ((ks.map λ k=>.int (Zf U ws k i))++[.int (rhS U room nums i)]):=by
      show Ur _=_
      rw [Xg,Q0];rfl
     rw [e] at hK
     exact ⟨Q1 rfl,by rw [Qb];show ks.length+1<=sizeLine;omega,hK⟩
   . unfold Jdl Tb.Bc
     rw [Q0]
     rfl
 rintro ds n9 rr vs9 H9 rfl st9 hrr h9r z9 r9 h9x
 have k9:Kp [] (upd H8 ra (.lst (rvs++us))) H9:=st9.1
 refine ⟨_,rfl,x,C,dx,_,rfl,Jj,Y.c,Y.n7,Q1 rfl,?_⟩
 rw [Jgv]
 have h8f:(upd H8 ra (.lst (rvs++us))) fa=some (.lst (ks.map Y4)):=by rw [Jh fra];exact k8 _ _ (k7 _ _ h6f (by simp)) (by simp)
 have h8b':(upd H8 ra (.lst (rvs++us))) ba'=some (.lst ((Jdl R U ws room nums ks).bd.map Y4)):=by rw [Jh bra];exact k8 _ _ (k7 _ _ h6b (by simp)) (by simp)
 have xr:rr≠x:=λ z=>by rw [z,h8x] at hrr;cases hrr
 have fr:rr≠fa:=λ z=>by rw [z,h8f] at hrr;cases hrr
 have br:rr≠ba':=λ z=>by rw [z,h8b'] at hrr;cases hrr
 have nrx:rr∉fa::ba'::x::ex:=λ z=>E8.al rr z hrr
 have mv:∀ b,b∈x::fa::ba'::ex->b∈fa::ba'::x::ex:=λ b hb=>by
  simp only [Qh] at hb ⊢
  rcases hb with h | h | h | h
  . exact .inr (.inr (.inl h))
  . exact .inl h
  . exact .inr (.inl h)
  . exact .inr (.inr (.inr h))
 refine q _ fa ba' hfa hba ⟨⟨dx,.ref rr,?_,?_⟩,?_,?_,Qj fx,Qj bx',Qj bf,nxe,λ z=>alx fa z hfa,λ z=>alx ba' z hba,λ b hb=>?_⟩ λ b o e nb=>?_
 . rw [Jj];rfl
 . refine .list (by rw [Jh xr];exact h9r) (λ z=>nrx (mv rr z)) z9 ?_
   exact (Reps.mono (λ b hb=>Ql _ (mv b hb)) r9).keep (Kp.at Qn _)
 . rw [Jh fx];exact k9 _ _ h8f (by simp)
 . rw [Jh bx'];exact k9 _ _ h8b' (by simp)
 . by_cases e:b=x
   . rw [e,Jj];exact Xw _
   . rw [Jh e]
     exact E8.al.kp k9 b (Ql _ (Ql _ (Ql _ hb)))
 . have nx:b≠x:=λ z=>nb (by rw [z];exact Qn)
   rw [Jh nx]
   refine k9 _ _ ?_ (by simp)
   have e6':=k6 b o e nb
   rw [Jh (Jx e6' hra)]
   exact k8 _ _ (k7 _ _ e6' (by simp)) (by simp)
theorem Wx:FnScope ["self","told","name","row"] ["self"] (Je W8):=⟨rfl,rfl,rfl,by decide +kernel,rfl,by decide +kernel,by decide +kernel⟩
theorem Jc7 {C:Addr}(T:Txt mg) (Y:TableOk K C) (D:DefM K C "counts_now" "Table.counts_now" W8 ["self"]):Wh P w K mg base C "counts_now" 1 ["self"] (Y8 (Jt2 C)):=by
 refine D.cal Y.c λ f fd F=>F.ok Wx (Wz ?_) (λ cdv A outer s H vs Q E hr h=>?_)
 . rintro as n P ⟨T,m,n,nw,nr,be,rfl,_⟩
   rfl
 refine ⟨_,(@Ja _ _ _ _ _ (J5 (i:=1) Wx.nd rfl (Qa rfl) (Jo Jaa (@PEs.out _ _ _ (Ye (Jl Jz Jr))) (J7 (K':=K) rfl (pv 0))))
  (@Ja _ _ _ _ _ (Zt Xh rfl (Jad rfl T.b_zip (Vu (J7 (K':=K) rfl (pv 0)) (Vu (J7 (K':=K) rfl (pv 0)) Jc))) (Z1 (K':=K) (i:=2) (j:=3) rfl Wx.nd ⟨rfl,(Qa rfl),(Qa rfl)⟩ ⟨rfl,(Qa rfl),(Qa rfl)⟩ rfl)
  (@Jf _ _ _ (Yi (Ji Js (pv 3) (Bl Wp Jd) (λ _ _=>rfl)) (Za (pv 1) (pv 2) Yh (λ v=>J6 _ _ _ _ _ v)))))
  (@Jf _ _ _ (@Ju _ _ _ _ (Bn Jat (pv 1) Jaq (Jas (J7 (K':=K) rfl (pv 0)))))))),Z9 h ?_⟩
 rintro as n' P ⟨T,m,n,nw,nr,be,rfl,sh,N,h1,h2,q⟩
 have hs:sizeLine=16777216:=J8p
 have one:(1:Nat)<=sizeLine:=by rw [hs];decide
 refine ⟨rfl,one,Jtf Y ⟨⟨by show (-2^63:Int)<=(be:Int);omega,by show (be:Int)<2^63;omega,by show 1*(be:Int).toNat<=_;omega⟩,?_⟩⟩
 rw [show ((be:Nat):Int).toNat=be from Qy _,Jco,show Qp be (Qi 0)=(Jgr T be n 0).map .int by rw [<- Jrb,J17]]
 refine ⟨[.d (Zy C ⟨(nw:Int),(nr:Int),(be:Int)⟩ T),.own ((Jgr T be n 0).map .int),.jnk,.jnk],.eq rfl,Jcy Y (Jaz Y ⟨_,_,_,_,rfl,rfl,rfl,?_⟩)⟩
 refine ⟨λ i env j=>j=n'/\∃ x y:Vl,env=[.d (Zy C ⟨(nw:Int),(nr:Int),(be:Int)⟩ T),.own ((Jgr T be n i).map .int),x,y],⟨rfl,_,_,rfl⟩,?_,?_⟩
 . rintro i x env j hx ⟨rfl,_,_,rfl⟩
   obtain ⟨hi,rfl⟩:=Joj sh hx
   refine ⟨rfl,rfl,_,Jok sh hi,T.b i,V9 (by omega) (by rw [Qb,Jc0];have:=N.bl i hi;omega),rfl,.d (Jn (T.b i)),.d (Y0 (T.row i)),?_⟩
   rw [<- Jrc N hi,X5]
   rfl
 . rintro env j ⟨rfl,_,_,rfl⟩
   have lz:(Ba (T.bd.map Jn) (T.rows.map Y0)).length=m:=by rw [Vv,Qb,Qb,sh.lb,sh.lr];omega
   rw [lz]
   have cut:Jei ((Jgr T be n m).map Qi) none (some ((nw:Nat):Int))=((Qf nw).map (Yk T n m)).map .int:=by
    show Jei (((Qf be).map (Yk T n m)).map Qi) none (some ((nw:Nat):Int))=_
    rw [Jfl,<- J10,<- J10,J72,J33 h1]
   refine ⟨_,.refl,Jp3 Y ?_⟩
   show P (Jei ((Jgr T be n m).map Qi) none (some ((nw:Nat):Int))) _
   rw [cut]
   exact q
theorem Jc8:FnScope ["book","room","ways","reached"] ["book","room"] (Je Jb6):=⟨rfl,rfl,rfl,by decide +kernel,rfl,by decide +kernel,by decide +kernel⟩
theorem Jnh (T:Txt mg) (D:Def K mg "ways_met" Jb6 ["book","room"]) (Gk:Cal P w K mg base "rooms_reached" 1 ["book","some"] (Jm Jk1)):Cal P w K mg base "ways_met" 2 ["book","room"] (Y8 Be):=by
 refine D.cal λ f fd F=>F.ok Jc8 (Wz ?_) (λ cdv A outer s H vs Q E hr h=>?_)
 . rintro as n P ⟨R,U,ws,room,rfl,_⟩
   rfl
 refine ⟨_,(@Ja _ _ _ _ _ (J5 (i:=2) Jc8.nd rfl (Qa rfl) (Ji Jp (pv 0) Jd (λ _ _=>rfl)))
  (@Ja _ _ _ _ _ (J5 (i:=3) Jc8.nd rfl (Qv rfl) (Ji Js (Yw Gk (hr.mono (by decide)) rfl (Jb (pv 0) (Z0 (Jej rfl rfl T.b_list rfl T.b_range (Z0 (Jw J1 rfl T.b_len Xm (Jb (pv 2) Jc)) Jc)) Jc))) (pv 1) (λ _ _=>rfl)))
  (@Jf _ _ _ (@Ju _ _ _ _ (Zo (sc:=(Je Jb6)) (N:=["book","room","ways","reached"]) (N':=["k","way","reached"]) (k:=2) (idx:=[3]) rfl (by exact ⟨rfl,by decide +kernel,by decide +kernel,by decide +kernel,by decide +kernel,by decide +kernel,rfl,rfl⟩) rfl rfl (Jkn rfl T.b_enumerate (Jb (pv 2) Jc)) (λ _ _ _ _=>(Z1 (K':=K) (i:=0) (j:=1) rfl (show (["k","way","reached"]:List Str).Nodup by decide +kernel) ⟨rfl,(Qa rfl),(Qv rfl)⟩ ⟨rfl,(Qa rfl),(Qv rfl)⟩ rfl)) (λ _ _ _ _=>Jda (Z2 (Ji (Jl3 (K':=K) rfl) (pv 2) (Ji (Ve (K':=K) rfl) (pv 1) Jd (λ _ _=>rfl)) (λ _ _=>rfl)))) (λ _ _ _ _=>(pv 0))))))),Z9 h ?_⟩
 rintro as n P ⟨R,U,ws,room,rfl,ok,ro,q⟩
 have hs:sizeLine=16777216:=J8p
 have r0:=ok.r0
 have wl:=ok.len
 have lt:∀ k∈nI (Qf ws.length),0<=k/\k<ws.length:=λ k hk=>by
  obtain ⟨i,hi,rfl⟩:=Qo.mp hk
  have:=Q5.mp hi
  omega
 refine ⟨rfl,_,rfl,_,.refl,?_⟩
 have wm:(ws.map Ym).length=ws.length:=Qb _
 have e:((Qf (((ws.map Ym).length:Nat):Int).toNat).map λ (i:Nat)=>Qi (i:Int))=(nI (Qf ws.length)).map .int:=by
  rw [Qy,wm];unfold nI;rw [Q0];rfl
 refine ⟨_,rfl,by omega,by omega,R,U,ws,nI (Qf ws.length),congrArg (λ xs=>[Vl.d (J2 R U ws),Vl.d (.list xs)]) e,ok,lt,?_⟩
 refine ⟨_,Jsr (R:=R.toNat) ro.1 (by omega),_,.refl,_,_,rfl,rfl,?_⟩
 rw [Jod]
 refine ⟨⟨rfl,by rw [Qb,Qw,hs];omega⟩,?_⟩
 refine Jbx (λ k=>Pw (Jai ws (nI (Qf ws.length))) R.toNat room.toNat (Jg ws (k:Int)).a.toNat) Jn (λ k hk n K h1 h2=>?_) q
 have wok:=ok.ways _ (Yx (k:=(k:Int)) (Xj k) (by omega))
 refine ⟨rfl,rfl,⟨_,rfl,⟨_,Jsp (R:=R.toNat) wok.a0 (by have:=wok.a1;omega),Z3 h1 h2⟩⟩⟩
theorem Ji1:FnScope ["book","rooms","purses","ways"] ["book"] (Je Jfz):=⟨rfl,rfl,rfl,by decide +kernel,rfl,by decide +kernel,by decide +kernel⟩
theorem Jo3 (T:Txt mg) (D:Def K mg "not_met" Jfz ["book"]):Cal P w K mg base "not_met" 1 ["book"] (Jm Jiy):=by
 refine D.cal λ f fd F=>F.ok Ji1 (Yb ?_) (λ cdv A outer s H vs Q E hr h=>?_)
 . rintro as n P ⟨R,U,ws,rfl,_⟩
   rfl
 refine ⟨_,(@Ja _ _ _ _ _ (Yi (pv 0) (Jbv (K':=K) (i:=1) (j:=2) (m:=3) rfl Ji1.nd ⟨rfl,(Qa rfl),(Qa rfl)⟩ ⟨rfl,(Qa rfl),(Qa rfl)⟩ ⟨rfl,(Qa rfl),(Qa rfl)⟩ rfl))
  (@Jf _ _ _ (@Ju _ _ _ _ (@PEs.out _ _ _ (Yq (Jl Jgz (Jl Jz (Jl Jz (Jdb (Yq (Wc (J3 (Jo Jbu (@PEs.out _ _ _ (Yq (Jl Jz Jr))) (pv 2))) (Wc (J3 (Jo Jbu (@PEs.out _ _ _ (Yq (Jl Jz Jr))) (pv 1))) Jr))) (Jl Jz (Wc (J3 (Jo Jbu (@PEs.out _ _ _ (Yq (Jl Jz Jr))) (Jw J1 rfl T.b_len Xm (Jb (pv 3) Jc)))) (Jl Jz Jr)))))))))))),J8 h ?_⟩
 rintro as n P ⟨R,U,ws,rfl,ok,q⟩
 have hs:sizeLine=16777216:=J8p
 have r0:=ok.r0
 have r1:=ok.r1
 have p0:=ok.p0
 have p1:=ok.p1
 have wl:=ok.len
 have one:(1:Nat)<=sizeLine:=by rw [hs];decide
 refine ⟨rfl,rfl,rfl,_,.refl,?_⟩
 have wm:(ws.map Ym).length=ws.length:=Qb _
 have fin:P (.tuple [.str "most",.int 0,.int 1,.tuple [.tuple (Qp U.toNat [Qi 0]).flatten,.tuple (Qp R.toNat [Qi 0]).flatten],.int 1,.tuple (Qp (((ws.map Ym).length:Nat):Int).toNat [Qi 0]).flatten,.int 1]) n:=by
  rw [Jaj,Jaj,Jaj,wm]
  exact q
 have two:(2:Nat)<=sizeLine:=by rw [hs];decide
 have seven:(7:Nat)<=sizeLine:=by rw [hs];decide
 refine ⟨one,⟨by simp,by omega,by show 1*U<=_;omega,⟨one,⟨by simp,by omega,by show 1*R<=_;omega,⟨two,⟨one,⟨by simp,by omega,by show (1:Int)*(((ws.map Ym).length:Nat):Int)<=_;omega,⟨seven,fin⟩⟩⟩⟩⟩⟩⟩⟩
theorem V0:FnScope ["table","k","counts","n","d","u_and_shares","e_and_counts"] ["table","k"] (Je Jc1):=⟨rfl,rfl,rfl,by decide +kernel,rfl,by decide +kernel,by decide +kernel⟩
theorem Jln {C:Addr}(T:Txt mg) (Y:TableOk K C) (D:Def K mg "read_most" Jc1 ["table","k"]) (c_Table__counts_now:Wh P w K mg base C "counts_now" 1 ["self"] (Y8 (Jt2 C))) (Gb:Cal P w K mg base "without_divisor" 2 ["numbers"] (Y8 Jg3)) (c_Table__shares:Wh P w K mg base C "shares" 2 ["self","wanted"] (Y8 (Jim C))) (c_Table__as_sum:Wh P w K mg base C "as_sum" 1 ["self","shares"] (Jm (Jlb C))):Cal P w K mg base "read_most" 4 ["table","k"] (Jm (Jb4 C)):=by
 refine D.cal λ f fd F=>F.ok V0 (Yb ?_) (λ cdv A outer s H vs Q E hr h=>?_)
 . rintro as n P ⟨R,U,ws,room,nums,ks,k,T,rfl,_⟩
   rfl
 refine ⟨_,(@Ja _ _ _ _ _ (J5 (i:=2) V0.nd rfl (Qa rfl) (J0c c_Table__counts_now (hr.mono (by decide)) (pv 0)))
  (@Ja _ _ _ _ _ (Yi (Yw Gb (hr.mono (by decide)) rfl (Jkm (@PEs.out _ _ _ (Ye (Jau (J3 (Ji Js (pv 2) (pv 1) (λ _ _=>rfl))) (Jix (J3 (J7 (K':=K) rfl (pv 0))) Jr)))) Jc)) (Jl4 (K':=K) (i:=3) (j:=4) rfl V0.nd ⟨rfl,(Qa rfl),(Qa rfl)⟩ ⟨rfl,(Qa rfl),(Qa rfl)⟩ rfl))
  (@Ja _ _ _ _ _ (J5 (i:=5) V0.nd rfl (Qa rfl) (Yw Gb (hr.mono (by decide)) rfl (Wq (Jo Jfj (@PEs.out _ _ _ (Ye (Jix (J3 (J7 (K':=K) rfl (pv 0))) Jr))) (Jgo c_Table__shares (hr.mono (by decide)) (pv 0) (Jkm (@PEs.out _ _ _ (Ye (Zd (J3 (pv 1)) Jr))) Jc))) Jc)))
  (@Ja _ _ _ _ _ (J5 (i:=6) V0.nd rfl (Qa rfl) (Yw Gb (hr.mono (by decide)) rfl (Wq (Jo Jfj (@PEs.out _ _ _ (Ye (Jix (J3 (J7 (K':=K) rfl (pv 0))) Jr))) (pv 2)) Jc)))
  (@Jf _ _ _ (@Ju _ _ _ _ (@PEs.out _ _ _ (Yq (Jl Jgz (Zd (J3 (pv 3)) (Zd (J3 (pv 4)) (Z4 (J3 (Jgo c_Table__as_sum (hr.mono (by decide)) (pv 0) (J9 (Bn Jat (pv 5) (Jas Jd) Jaq) Jc))) (Jau (J3 (Ji Js (pv 5) Jd (λ _ _=>rfl))) (Z4 (J3 (Yj Yu rfl T.b_tuple J8x (J9 (Bn Jat (pv 6) (Jas Jd) Jaq) Jc))) (Jau (J3 (Ji Js (pv 6) Jd (λ _ _=>rfl))) Jr))))))))))))))),J8 h ?_⟩
 rintro as n' P ⟨R,U,ws,room,nums,ks,k,T,rfl,t,hk,l,q⟩
 have hs:sizeLine=16777216:=J8p
 have sh:=t.shape
 have N:=t.kept.nm
 have wl:=t.ok.len
 have r0:=t.ok.r0
 have r1:=t.ok.r1
 have p0:=t.ok.p0
 have p1:=t.ok.p1
 have m18:=t.m
 have kl:=t.lt k hk
 have one:(1:Nat)<=sizeLine:=by rw [hs];decide
 rw [Jg7 t.ok]
 refine ⟨rfl,Jb2 (m:="counts_now") (by decide),T,(U+R).toNat,ks.length,ws.length,ws.length+U.toNat,ws.length+(U+R).toNat,rfl,sh,N,by omega,by omega,?_⟩
 have q0:=t.kept.ok.qpos
 have two:(2:Nat)<=sizeLine:=by rw [hs];decide
 have qb:T.q.natAbs<2^9000:=by
  have h1:=sh.q1
  have:T.q.natAbs<2^4000:=by
   have h:((T.q.natAbs:Nat):Int)<((2^4000:Nat):Int):=by
    rw [Uy (by omega)]
    exact_mod_cast h1
   exact_mod_cast h
  exact Qz this (Ws (by decide))
 have gd:∀ L:List Int,T.q∈L->Zi L≠0/\((Zi L:Nat):Int)<2^9000:=λ L h=>⟨Jb1 h (by omega),Jtn h (by omega) qb⟩
 let z:Siz:=⟨((ws.length:Nat):Int),((ws.length+U.toNat:Nat):Int),((ws.length+(U+R).toNat:Nat):Int)⟩
 let cs:=Jca ws (U+R).toNat ks.length T
 have csl:cs.length=ws.length:=Je4
 have hat:atI (cs.map Qi) ((k:Nat):Int)=some (.int (Yk T ks.length (U+R).toNat k)):=Yc (by omega) (by rw [Qy,Qk];show Option.map Qi (Jca ws (U+R).toNat ks.length T)[k]? = _;unfold Jca;rw [Qk,Xi kl];rfl)
 obtain ⟨a1,a2⟩:=gd [Yk T ks.length (U+R).toNat k,T.q] (by simp)
 refine ⟨[.d (Zy C z T),.d (Jn k),.own (cs.map .int),.jnk,.jnk,.jnk,.jnk],.eq rfl,?_⟩
 refine ⟨_,hat,Jmq Y ⟨two,[Yk T ks.length (U+R).toNat k,T.q],rfl,Q1 rfl,a1,a2,?_⟩⟩
 generalize hnd:[Yk T ks.length (U+R).toNat k,T.q]=nd at a1 a2
 have ev:(nd.map λ x=>x/((Zi nd:Nat):Int)).map Qi=[.int (qz nd (Yk T ks.length (U+R).toNat k)),.int (qz nd T.q)]:=by rw [<- hnd];rfl
 rw [ev]
 have sl0:(sl T (U+R).toNat (ws.length+(U+R).toNat) [k] ks.length).drop ws.length=shL R U ws ks.length [k] T:=Jon _ _ _ _ rfl
 have slen:=Jp5 (R:=R) (U:=U) (ws:=ws) (n:=ks.length) (W:=[k]) (T:=T)
 refine ⟨rfl,rfl,[.d (Zy C z T),.d (Jn k),.own (cs.map .int),.d (.int (qz nd (Yk T ks.length (U+R).toNat k))),.d (.int (qz nd T.q)),.jnk,.jnk],.eq rfl,?_⟩
 obtain ⟨b1,b2⟩:=gd (T.q::shL R U ws ks.length [k] T) (by simp)
 obtain ⟨e1,e2⟩:=gd (T.q::cs) (by simp)
 refine Jmq Y ⟨one,Jb2 (m:="shares") (by decide),one,T,(U+R).toNat,ks.length,ws.length,ws.length+U.toNat,ws.length+(U+R).toNat,[k],rfl,sh,N,λ w hw=>by rw [Qu.mp hw];omega,by omega,by omega,?_⟩
 rw [sl0]
 have sm:((shL R U ws ks.length [k] T).map Qi).length=(U+R).toNat:=by rw [Qb,slen]
 have cm:(cs.map Qi).length=ws.length:=by rw [Qb,csl]
 refine ⟨by rw [sm];show 1+_<=_;omega,T.q::shL R U ws ks.length [k] T,rfl,by rw [X2,slen];omega,b1,b2,?_⟩
 generalize hus:T.q::shL R U ws ks.length [k] T=us at b1 b2
 have eu:us.map (λ x=>x/((Zi us:Nat):Int))=qz us T.q::(shL R U ws ks.length [k] T).map (qz us):=by rw [<- hus];rfl
 rw [eu]
 refine ⟨[.d (Zy C z T),.d (Jn k),.own (cs.map .int),.d (.int (qz nd (Yk T ks.length (U+R).toNat k))),.d (.int (qz nd T.q)),.own ((qz us T.q::(shL R U ws ks.length [k] T).map (qz us)).map .int),.jnk],.eq rfl,?_⟩
 refine Jmq Y ⟨one,by show 1+(cs.map Qi).length<=_;omega,T.q::cs,rfl,by rw [X2,csl];omega,e1,e2,?_⟩
 generalize hec:T.q::cs=ec at e1 e2
 have ee:ec.map (λ x=>x/((Zi ec:Nat):Int))=qz ec T.q::cs.map (qz ec):=by rw [<- hec];rfl
 rw [ee]
 refine ⟨[.d (Zy C z T),.d (Jn k),.own (cs.map .int),.d (.int (qz nd (Yk T ks.length (U+R).toNat k))),.d (.int (qz nd T.q)),.own ((qz us T.q::(shL R U ws ks.length [k] T).map (qz us)).map .int),.own ((qz ec T.q::cs.map (qz ec)).map .int)],.eq rfl,?_⟩
 have M:=Jrg t hk l hnd.symm hus.symm hec.symm
 have c5:∀ (x:Int) (l:List Int),Jei ((x::l).map Qi) (some 1) none=l.map .int:=λ x l=>Jfm ((x::l).map Qi) 1
 have uf:z.fr-z.fp=((U.toNat:Nat):Int):=by show ((ws.length+U.toNat:Nat):Int)-((ws.length:Nat):Int)=_;omega
 refine ⟨Jb2 (m:="as_sum") (by decide),z,T,U.toNat,(shL R U ws ks.length [k] T).map (qz us),congrArg (λ l=>[Vl.d (Zy C z T),Vl.d (.list l)]) (c5 _ _),uf,by rw [Qb,slen];omega,?_⟩
 have a0:∀ (x:Int) (l:List Int),atI ((x::l).map Qi) 0=some (.int x):=λ x l=>Yc (by decide) rfl
 have seven:(7:Nat)<=sizeLine:=by rw [hs];decide
 have q':=q _ _ _ _ _ _ _ M
 rw [J10,J3a] at q'
 have fin:P (.tuple [.str "most",.int (qz nd (Yk T ks.length (U+R).toNat k)),.int (qz nd T.q),.tuple [.tuple ((((shL R U ws ks.length [k] T).map (qz us)).take U.toNat).map .int),.tuple ((((shL R U ws ks.length [k] T).map (qz us)).drop U.toNat).map .int)],.int (qz us T.q),.tuple (Jei ((qz ec T.q::cs.map (qz ec)).map Qi) (some 1) none),.int (qz ec T.q)]) n':=by
  rw [c5]
  exact q'
 exact ⟨_,a0 _ _,_,a0 _ _,seven,fin⟩
theorem B6:FnScope ["book","stand","k","met","table","counts"] ["book","stand","k"] (Je Jc2):=⟨rfl,rfl,rfl,by decide +kernel,rfl,by decide +kernel,by decide +kernel⟩
theorem Jlo {C:Addr}(T:Txt mg) (Y:TableOk K C) (D:Def K mg "how_often" Jc2 ["book","stand","k"]) (Gm:Cal P w K mg base "has_way" 3 ["book","k"] (Jm Jhx)) (Gn:Cal P w K mg base "ways_met" 2 ["book","room"] (Y8 Be)) (Go:Cal P w K mg base "not_met" 1 ["book"] (Jm Jiy)) (c_Table__init:Jmw P w K mg base "Table" C 2 ["self","book","some","stand"] (Jlk C)) (c_Table__find_round:Wh P w K mg base C "find_round" 4 ["self","wanted"] (Jg9 C)) (Gp:Cal P w K mg base "read_most" 4 ["table","k"] (Jm (Jb4 C))):Cal P w K mg base "how_often" 6 ["book","stand","k"] (Jm Jd4):=by
 refine D.cal λ f fd F=>F.ok B6 (Yb ?_) (λ cdv A outer s H vs Q E hr h=>?_)
 . rintro as n P ⟨R,U,ws,room,nums,k,rfl,_⟩
   rfl
 refine ⟨_,(@Ja _ _ _ _ _ (Y5 (Wo (Z2 (Yw Gm (hr.mono (by decide)) rfl (Jb (pv 0) (Jb (pv 2) Jc))))) Jqb Ya)
  (@Ja _ _ _ _ _ (J5 (i:=3) B6.nd rfl (Qa rfl) (Yw Gn (hr.mono (by decide)) rfl (Jb (pv 0) (J9 (Ji Jp (pv 1) Jd (λ _ _=>rfl)) Jc))))
  (@Ja _ _ _ _ _ (Y5 (Jy Jbs (pv 2) (pv 3) (by with_unfolding_all rfl)) (@Jf _ _ _ (@Ju _ _ _ _ (Yw Go (hr.mono (by decide)) rfl (Jb (pv 0) Jc)))) Ya)
  (@Ja _ _ _ _ _ (J5 (i:=4) B6.nd rfl (Qa rfl) (J0l c_Table__init (hr.mono (by decide)) rfl (Jb (pv 0) (Jb (pv 3) (Jb (pv 1) Jc)))))
  (@Ja _ _ _ _ _ (J5 (i:=5) B6.nd rfl (Qa rfl) (Jgo c_Table__find_round (hr.mono (by decide)) (pv 4) (Jkm (@PEs.out _ _ _ (Ye (Zd (J3 (pv 2)) Jr))) Jc)))
  (@Ja _ _ _ _ _ (Y5 (Jy Jhd (pv 5) Br (J4 _)) (@Jf _ _ _ (@Ju _ _ _ _ (Yw Gp (hr.mono (by decide)) rfl (Jb (pv 4) (Jb (pv 2) Jc))))) Ya)
  (@Jf _ _ _ (@Ju _ _ _ _ (@PEs.out _ _ _ (Yq (Jl Jgz (Zd (J3 (pv 5)) Jr)))))))))))),?_⟩
 obtain ⟨S,ex,as,n,P,ra,hc,al,iv,⟨R,U,ws,room,nums,k,rfl,ok,sd,kl,q0,q1⟩,q⟩:=h
 obtain ⟨bv,tv,kv,rfl,rb,rt,rfl⟩:∃ bv tv kv,vs=[bv,tv,kv]/\Rep ex H (J2 R U ws) bv/\Rep ex H (Yl room nums) tv/\kv=Y4 k:=by
  cases vs with
  | nil=>exact ra.elim
  | cons bv vs=>
   cases vs with
   | nil=>exact ra.2.elim
   | cons sv vs=>
    cases vs with
    | nil=>exact ra.2.2.elim
    | cons kv vs=>
     cases vs with
     | cons _ _=>exact ra.2.2.2.elim
     | nil=>
      obtain ⟨⟨_,e1,r1⟩,⟨_,e2,r2⟩,⟨_,e3,r3⟩,_⟩:=ra
      cases e1
      cases e2
      cases e3
      cases r3
      exact ⟨_,_,_,rfl,r1,r2,rfl⟩
 have hs:sizeLine=16777216:=J8p
 have one:(1:Nat)<=sizeLine:=by rw [hs];decide
 have two:(2:Nat)<=sizeLine:=by rw [hs];decide
 have wl:=ok.len
 refine Vi (λ σ' H1=>σ'=[some bv,some tv,some (Y4 k),none,none,none]/\Kp [] H H1) (λ N hN=>?_) ?_
 . refine ⟨_,rfl,_,rfl,Src.no,ex,[.d (J2 R U ws),.d (Jn k)],0,λ d _=>d = .bool true,⟨⟨_,rfl,rb⟩,⟨_,rfl,.int _⟩,trivial⟩,λ a ha=>(by cases ha),al,trivial,⟨R,U,ws,(k:Int),rfl,by omega,rfl⟩,λ d n' v H1 hd st r=>?_⟩
   subst hd
   cases r
   exact ⟨true,rfl,We (hN _ _ ⟨rfl,st.1⟩)⟩
 rintro σ1 H1 ⟨rfl,k1⟩
 have kx1:Kp ex H H1:=k1.mono λ a ha=>by cases ha
 have al1:=al.kp k1
 have rb1:=rb.keep kx1
 have rt1:=rt.keep kx1
 have E1:Ev Src.no ex [.d (J2 R U ws),.d (Yl room nums),.d (Jn k),.jnk,.jnk,.jnk] [some bv,some tv,some (Y4 k),none,none,none] H1 0:=Jgq.ev ⟨⟨_,rfl,rb1⟩,⟨_,rfl,rt1⟩,⟨_,rfl,.int _⟩,trivial,trivial,trivial,trivial⟩ al1
 refine Jyw (λ ds _=>ds=(Z5 R room ws).map Jn) E1 ⟨_,rfl,R,U,ws,room,rfl,ok,⟨sd.a0,sd.a1⟩,rfl⟩ ?_
 rintro ds n2 ma mvs H2 rfl st2 hma h2a z2 r2
 have k2:Kp [] H1 H2:=st2.1
 cases Jt4 r2
 have kx2:Kp ex H1 H2:=k2.mono λ a ha=>by cases ha
 have rb2:=rb1.keep kx2
 have rt2:=rt1.keep kx2
 have al2:=al1.kp k2
 have k02:Kp [] H H2:=k1.trans k2
 have nma:ma∉ex:=λ z=>al1 ma z hma
 have rm2:Rep ex H2 (.list ((Z5 R room ws).map Jn)) (.ref ma):=.list h2a nma z2 (Reps.sub r2)
 have inm:inV (Y4 k) ((Z5 R room ws).map Y4)=decide (k∈Z5 R room ws):=by
  rw [U1,decide_eq_true_eq]
  constructor
  . intro h
    obtain ⟨v,hv,e⟩:=J73.mp h
    obtain ⟨j,hj,rfl⟩:=Qo.mp hv
    have e:decide (((j:Nat):Int)=((k:Nat):Int))=true:=e
    have:=of_decide_eq_true e
    rw [show k=j by omega];exact hj
  . intro h
    refine J73.mpr ⟨Y4 k,Qo.mpr ⟨k,h,rfl⟩,?_⟩
    show decide (((k:Nat):Int)=((k:Nat):Int))=true
    exact decide_eq_true rfl
 refine ⟨_,rfl,_,rfl,ma,_,rfl,.inl (SqL.of h2a),rfl,?_,_,rfl,?_⟩
 . exact X7.mpr λ x hx=>by obtain ⟨j,_,rfl⟩:=Qo.mp hx;rfl
 rw [inm]
 by_cases hk:k∈Z5 R room ws
 . rw [decide_eq_true hk]
   refine We ?_
   unfold Jo5
   dsimp only
   obtain ⟨q1,q2⟩:=q1 hk
   have t0:ToldG R U ws room nums (Z5 R room ws) (Jdl R U ws room nums (Z5 R room ws)):=Jow ok sd Jvw Jlj
   refine Vi (λ σ' H3=>∃ p fa ba,σ'=[some bv,some tv,some (Y4 k),some (.ref ma),some (.ref p),none]/\TabH C ex p fa ba (Jle R U ws) (Jdl R U ws room nums (Z5 R room ws)) H3/\Kp [] H2 H3/\H2 p=none/\H2 fa=none/\H2 ba=none) (λ N hN=>?_) ?_
   . refine ⟨_,rfl,_,rfl,_,rfl,λ x dx hx hdx hne=>?_⟩
     have lifted:∀ {b:Addr} {H':Hp},Kp [] H2 H'->H' b=none->H2 b=none:=λ {b H'} kk hb=>by
      cases e:H2 b with
      | none=>rfl
      | some o=>rw [kk b o e (by simp)] at hb;cases hb
     have kn:Kp [] H2 (upd (upd H2 dx (.own x)) x (.ins C dx [])):=λ b o e _=>by rw [Jh (Jx e hx),Jh (Jx e hdx)];exact e
     have nx:x∉ex:=λ z=>al2 x z hx
     have kxx:Kp (x::ex) H2 (upd (upd H2 dx (.own x)) x (.ins C dx [])):=kn.mono λ a ha=>by cases ha
     have ml:=Jm8 (R:=R) (room:=room) (ws:=ws)
     refine ⟨ex,x,dx,R,U,ws,room,nums,Z5 R room ws,bv,.ref ma,tv,rfl,Jj,al2.kp kn,nx,(Rep.add hx rb2).keep kxx,(Rep.add hx rm2).keep kxx,(Rep.add hx rt2).keep kxx,ok,sd,Jlj,by omega,λ H' fa ba hfa hba hT kp=>⟨rfl,hN _ _ ⟨x,fa,ba,rfl,hT,λ b o e _=>?_,hx,lifted kn hfa,lifted kn hba⟩⟩⟩
     exact kp b o (kn b o e (by simp)) (λ z=>by rw [Qu.mp z,hx] at e;cases e)
   rintro σ3 H3 ⟨p,fa,ba,rfl,hT,k3,hp,hfa,hba⟩
   refine Vi (λ σ' H4=>∃ v T',σ'=[some bv,some tv,some (Y4 k),some (.ref ma),some (.ref p),some v]/\TabH C ex p fa ba (Jle R U ws) T' H4/\ToldG R U ws room nums (Z5 R room ws) T'/\Kp [p,fa,ba] H3 H4/\((v = .non/\Tb.Last (U+R).toNat (Z5 R room ws).length [k] T')\/∃ j,Tb.Ray (U+R).toNat (Z5 R room ws).length [k] T' j/\v≠.non/\Rep ex H4 (.tuple ((drQ ws (U+R).toNat T' j).map .int)) v)) (λ N hN=>?_) ?_
   . obtain ⟨dx,rv,o1,o2⟩:=hT.o
     refine ⟨_,rfl,p,dx,_,rfl,o1,rfl,_,rfl,one,λ l hl=>?_⟩
     have kl:Kp [] H3 (upd H3 l (.lst [Y4 k])):=Kp.new hl _
     have nl:l∉p::fa::ba::ex:=Jtl (λ z=>by rw [z,o1] at hl;cases hl) (λ z=>by rw [z,hT.f] at hl;cases hl) (λ z=>by rw [z,hT.b] at hl;cases hl) (λ z=>hT.al l z hl)
     have hw:Rep (p::fa::ba::ex) (upd H3 l (.lst [Y4 k])) (.list ([k].map Jn)) (.ref l):=.list Jj nl one (.cons (.int _) .nil)
     have kup:∀ {H4:Hp},Kp [p,fa,ba] (upd H3 l (.lst [Y4 k])) H4->Kp [p,fa,ba] H3 H4:=λ {H4} k4=>(kl.mono λ a ha=>by cases ha).trans k4
     exact Jox (E:=E0) t0 (hT.keep kl) hw (λ H4 T' j v h1 h2 h3 h4 h5=>hN _ _ ⟨v,T',rfl,h1,h2,kup h4,.inr ⟨j,h3,(λ z=>by subst z;cases h5),h5⟩⟩) (λ H4 T' h1 h2 h3 h4=>hN _ _ ⟨.non,T',rfl,h1,h2,kup h4,.inl ⟨rfl,h3⟩⟩)
   rintro σ4 H4 ⟨v,T',rfl,hT4,t4,k4,hv⟩
   have k04:Kp [] H H4:=λ b o e _=>k4 b o (k3 b o (k02 b o e (by simp)) (by simp)) (λ z=>by
    have e2:=k02 b o e (by simp)
    simp only [Qh,X4,or_false] at z
    rcases z with z | z | z
    . rw [z,hp] at e2;cases e2
    . rw [z,hfa] at e2;cases e2
    . rw [z,hba] at e2;cases e2)
   rcases hv with ⟨rfl,hl⟩ | ⟨j,ry,nn,rc⟩
   . refine ⟨_,rfl,rfl,_,rfl,Jjw (by simp) ?_⟩
     have sh:=t4.shape
     have m18:=t4.m
     have n100:=t4.n
     refine ⟨_,rfl,_,rfl,?_⟩
     refine Jew (sp:=Jb4 C) (E:=E0) (vs:=[Y4 k]) (as:=[.d (Jn k)]) hT4 (by rw [sh.lf];omega) (by rw [sh.lb];omega) ⟨⟨_,rfl,.int _⟩,trivial⟩ (P:=λ d _=>P d n) ⟨R,U,ws,room,nums,Z5 R room ws,k,T',rfl,t4,hk,hl,q1⟩ λ d n' v H5 hp kp r=>?_
     exact q _ n _ _ hp (.new iv (k04.trans kp)) r
   . refine ⟨_,rfl,rfl,_,rfl,Vc (by simp [nn]) ?_⟩
     obtain ⟨rk,pos⟩:=Jm6 t4 ry kl
     refine ⟨_,rfl,two,λ tp htp=>?_⟩
     have kt:Kp [] H4 (upd H4 tp (.tup [.str "none",v])):=Kp.new htp _
     exact q _ n _ _ (q2 _ rk pos) (.new iv (k04.trans kt)) (.tuple Jj (λ z=>(al.kp k04) tp z htp) two (.cons (.str _) (.cons (rc.keep (kt.mono λ a ha=>by cases ha)) .nil)))
 . rw [decide_eq_false hk]
   refine Bt ?_
   refine ⟨_,rfl,Src.no,ex,[.d (J2 R U ws)],0,λ d _=>P d n,⟨⟨_,rfl,rb2⟩,trivial⟩,λ a ha=>(by cases ha),al2,trivial,⟨R,U,ws,rfl,ok,q0 hk⟩,λ d n' v H3 hd st r=>?_⟩
   exact q _ n _ _ hd (.new iv (k02.trans st.1)) r
theorem Jlp:FnScope ["_law_thing"] ["_law_thing"] (Je Jc3):=⟨rfl,rfl,rfl,by decide +kernel,rfl,by decide +kernel,by decide +kernel⟩
theorem Jlq (T:Txt mg) (D:Def K mg "_law_whole" Jc3 ["_law_thing"]):Cal P w K mg base "_law_whole" 1 ["_law_thing"] (Jm Jax):=by
 refine D.cal λ f fd F=>F.ok Jlp (Yb ?_) (λ cdv A outer s H vs Q E hr h=>?_)
 . rintro as n P ⟨x,rfl,_⟩
   rfl
 refine ⟨_,(@Jf _ _ _ (@Ju _ _ _ _ (Jfc (Jw Bp rfl T.b_isinstance J83 (Jb (pv 0) (Jb (Jao rfl T.b_int J9l (v:=.ty "int") rfl) Jc))) (Jce (Jri (Jw Bp rfl T.b_isinstance J83 (Jb (pv 0) (Jb (Jao rfl T.b_bool boot_bool (v:=.ty "bool") rfl) Jc)))))))),J8 h ?_⟩
 rintro as n P ⟨x,rfl,q⟩
 exact ⟨rfl,rfl,rfl,q⟩
theorem Jf5:FnScope ["_law_thing","_law_many"] ["_law_thing","_law_many"] (Je Vg):=⟨rfl,rfl,rfl,by decide +kernel,rfl,by decide +kernel,by decide +kernel⟩
theorem Jf6 (T:Txt mg) (D:Def K mg "_law_are_whole" Vg ["_law_thing","_law_many"]) (Gc:Cal P w K mg base "_law_whole" 1 ["_law_thing"] (Jm Jax)):Cal P w K mg base "_law_are_whole" 2 ["_law_thing","_law_many"] (Jm Jfw):=by
 refine D.cal λ f fd F=>F.ok Jf5 (Yb ?_) (λ cdv A outer s H vs Q E hr h=>?_)
 . rintro as n P ⟨xs,rfl,_⟩
   rfl
 refine ⟨_,(@Ja _ _ _ _ _ (Y5 (PW.pt (V2 (Wo (Z2 (Jw Bp rfl T.b_isinstance J83 (Jb (pv 0) (Jb (Jao rfl T.b_tuple J8x (v:=.ty "tuple") rfl) Jc))))) (B8 (Jy Jf7 (Jw J1 rfl T.b_len Xm (Jb (pv 0) Jc)) (pv 1) (J4 _))))) (@Jf _ _ _ (@Ju _ _ _ _ V1)) Ya)
  (@Jf _ _ _ (@Ju _ _ _ _ (Jw Jrz rfl T.b_all boot_all (Jgy (Zo (sc:=(Je Vg)) (N:=["_law_thing","_law_many"]) (N':=["_law_number"]) (k:=1) (idx:=[]) rfl (by exact ⟨rfl,by decide +kernel,by decide +kernel,by decide +kernel,by decide +kernel,by decide +kernel,rfl,rfl⟩) rfl rfl (Jke (pv 0)) (λ _ _ _ _=>(J0 (i:=0) (show (["_law_number"]:List Str).Nodup by decide +kernel) rfl (Qa rfl) (Qv rfl))) (λ _ _ _ _=>Y7) (λ _ _ _ _=>(Yw Gc (hr.mono (by decide)) rfl (Jb (pv 0) Jc)))) Jc))))),J8 h ?_⟩
 rintro as n P ⟨xs,rfl,hl,q⟩
 have hs:sizeLine=16777216:=J8p
 refine ⟨rfl,rfl,We ?_⟩
 show fEq true (.int ((xs.map Qi).length:Int)) (.int (xs.length:Int)) _
 refine Jhw ?_
 rw [Qb,decide_eq_true rfl]
 refine We ⟨_,.refl,⟨rfl,by rw [Qb];omega⟩,?_⟩
 refine W0 (f:=Qi) (λ x=>.bool true) (λ x hx n K hK=>Bt ⟨x,rfl,hK⟩) ?_
 refine ⟨Qp xs.length true,by rw [J17];rw [J74],rfl,?_⟩
 have all1:(Qp xs.length true).all id=true:=X7.mpr λ b hb=>by rw [(J3g.mp hb).2];rfl
 rw [all1]
 exact q
theorem Jjf:FnScope ["_law_book_here","_law_thing"] ["_law_book_here","_law_thing"] (Je B4):=⟨rfl,rfl,rfl,by decide +kernel,rfl,by decide +kernel,by decide +kernel⟩
theorem Jjg (T:Txt mg) (D:Def K mg "_law_is_sum" B4 ["_law_book_here","_law_thing"]) (Gd:Cal P w K mg base "_law_are_whole" 2 ["_law_thing","_law_many"] (Jm Jfw)):Cal P w K mg base "_law_is_sum" 3 ["_law_book_here","_law_thing"] (Jm Je1):=by
 refine D.cal λ f fd F=>F.ok Jjf (Yb ?_) (λ cdv A outer s H vs Q E hr h=>?_)
 . rintro as n P ⟨R,U,ws,wt,ht,rfl,_⟩
   rfl
 refine ⟨_,(@Ja _ _ _ _ _ (Y5 (PW.pt (V2 (Wo (Z2 (Jw Bp rfl T.b_isinstance J83 (Jb (pv 1) (Jb (Jao rfl T.b_tuple J8x (v:=.ty "tuple") rfl) Jc))))) (B8 (Jy Jf7 (Jw J1 rfl T.b_len Xm (Jb (pv 1) Jc)) Jd (J4 _))))) (@Jf _ _ _ (@Ju _ _ _ _ V1)) Ya)
  (@Ja _ _ _ _ _ (Y5 (Wo (Z2 (Yw Gd (hr.mono (by decide)) rfl (J9 (Ji Jp (pv 1) Jd (λ _ _=>rfl)) (J9 (Ji Jp (pv 0) Jd (λ _ _=>rfl)) Jc))))) (@Jf _ _ _ (@Ju _ _ _ _ V1)) Ya)
  (@Ja _ _ _ _ _ (Y5 (Jy (Jxm hr.units) (Zo (sc:=(Je B4)) (N:=["_law_book_here","_law_thing"]) (N':=["_law_weight"]) (k:=1) (idx:=[]) rfl (by exact ⟨rfl,by decide +kernel,by decide +kernel,by decide +kernel,by decide +kernel,by decide +kernel,rfl,rfl⟩) rfl rfl (Jke (Ji Jp (pv 1) Jd (λ _ _=>rfl))) (λ _ _ _ _=>(J0 (i:=0) (show (["_law_weight"]:List Str).Nodup by decide +kernel) rfl (Qa rfl) (Qv rfl))) (λ _ _ _ _=>Jda (Jy B0 (pv 0) Jd (J4 _))) (λ _ _ _ _=>(pv 0))) (@PEs.out _ _ _ (Ye Jr)) (J4 _)) (@Jf _ _ _ (@Ju _ _ _ _ V1)) Ya)
  (@Jf _ _ _ (@Ju _ _ _ _ (Yw Gd (hr.mono (by decide)) rfl (J9 (Ji Jp (pv 1) Jd (λ _ _=>rfl)) (J9 (Ji Jp (pv 0) Jd (λ _ _=>rfl)) Jc)))))))),J8 h ?_⟩
 rintro as n P ⟨R,U,ws,wt,ht,rfl,ok,lw,lh,nn,q⟩
 have hs:sizeLine=16777216:=J8p
 have r1:=ok.r1
 have p1:=ok.p1
 refine ⟨rfl,rfl,We (Jhw (We ⟨_,.refl,_,rfl,_,rfl,wt,by rw [lw],by omega,We ⟨_,.refl,_,rfl,⟨rfl,by rw [Qb];omega⟩,?_⟩⟩))⟩
 refine Jen (g:=Qi) (h:=Qi) (p:=λ x=>decide (x<0)) (λ x hx K k1 k2=>Z3 (λ c=>k1 c) (λ c=>k2 c)) ?_
 have e:wt.filter (λ x=>decide (x<0))=[]:=J56.mpr λ x hx=>by have:=nn x hx;simp;omega
 rw [e]
 exact ⟨Q1 rfl,⟨⟨rfl,rfl,by decide⟩,We ⟨_,.refl,_,rfl,_,rfl,ht,by rw [lh],by omega,q⟩⟩⟩
theorem Bq:FnScope ["_law_book_here","_law_total","_law_k","_law_a","_law_b","_law_gains_here","_law_found","_law_p"] ["_law_book_here","_law_total","_law_k"] (Je Jd9):=⟨rfl,rfl,rfl,by decide +kernel,rfl,by decide +kernel,by decide +kernel⟩
theorem Jni (T:Txt mg) (D:Def K mg "_law_fall" Jd9 ["_law_book_here","_law_total","_law_k"]):Cal P w K mg base "_law_fall" 1 ["_law_book_here","_law_total","_law_k"] (Jm Je2):=by
 refine D.cal λ f fd F=>F.ok Bq (Yb ?_) (λ cdv A outer s H vs Q E hr h=>?_)
 . rintro as n P ⟨R,U,ws,wt,ht,k,rfl,_⟩
   rfl
 refine ⟨_,(@Ja _ _ _ _ _ (Yi (Ji Jp (Ji Jp (pv 0) Jd (λ _ _=>rfl)) (pv 2) (λ _ _=>rfl)) (Jbv (K':=K) (i:=3) (j:=4) (m:=5) rfl Bq.nd ⟨rfl,(Qa rfl),(Qa rfl)⟩ ⟨rfl,(Qa rfl),(Qa rfl)⟩ ⟨rfl,(Qa rfl),(Qa rfl)⟩ rfl))
  (@Ja _ _ _ _ _ (J5 (i:=6) Bq.nd rfl (Qa rfl) (Jo Vr (Ji Jp (Ji Jp (pv 1) Jd (λ _ _=>rfl)) (pv 3) (λ _ _=>rfl)) (Ji Jp (Ji Jp (pv 1) Jd (λ _ _=>rfl)) (pv 4) (λ _ _=>rfl))))
  (@Ja _ _ _ _ _ (Zt Xh rfl (Yr rfl T.b_range (J9 (Ji Jp (pv 0) Jd (λ _ _=>rfl)) Jc)) (J0 (i:=7) Bq.nd rfl (Qa rfl) (Qa rfl))
  (@Jf _ _ _ (J5 (i:=6) Bq.nd rfl (Qa rfl) (Jo Vr (pv 6) (Jo Wl (Ji Jp (Ji Jp (pv 1) Jd (λ _ _=>rfl)) (pv 7) (λ _ _=>rfl)) (Ji Jp (pv 5) (pv 7) (λ _ _=>rfl)))))))
  (@Jf _ _ _ (@Ju _ _ _ _ (pv 6)))))),J8 h ?_⟩
 rintro as n P ⟨R,U,ws,wt,ht,k,rfl,ok,sb,hk,q⟩
 have hs:sizeLine=16777216:=J8p
 have p0:=ok.p0
 have wl:=ok.len
 have lw:=sb.lw
 have lh:=sb.lh
 have wok:=ok.ways _ (Yx (k:=(k:Int)) (Xj k) (by omega))
 have a0:=wok.a0
 have a1:=wok.a1
 have b0:=wok.b0
 have b1:=wok.b1
 have gl:=wok.len
 have hat:∀ {x:Int},0<=x->x<R->atI (ht.map Qi) x=some (.int (ht.getD x.toNat 0)):=λ {x} x0 x1=>Yc x0 (Vw (by omega))
 refine ⟨rfl,_,rfl,_,Jbw (Xj k) (by omega),rfl,rfl,⟨_,.refl,_,rfl,_,hat a0 a1,_,rfl,_,hat b0 b1,⟨_,.refl,?_⟩⟩⟩
 refine ⟨_,rfl,U,rfl,⟨by omega,by have:=ok.p1;omega⟩,?_⟩
 refine ⟨λ i env j=>j=n/\∃ x:Vl,env=[.d (J2 R U ws),.d (Ji8 wt ht),.d (Jn k),.d (.int (Jg ws (k:Int)).a),.d (.int (Jg ws (k:Int)).b),.d (.tuple ((Jg ws (k:Int)).g.map .int)),.d (.int (ht.getD (Jg ws (k:Int)).a.toNat 0-ht.getD (Jg ws (k:Int)).b.toNat 0-Jhn wt (Jg ws (k:Int)).g i)),x],⟨rfl,.jnk,?_⟩,?_,?_⟩
 . show [_,_,_,_,_,_,Vl.d (.int _),_]=[_,_,_,_,_,_,Vl.d (.int (_-(0:Int))),_]
   rw [J3i]
 . rintro i x env j hx ⟨rfl,x',rfl⟩
   obtain ⟨hi,rfl⟩:=Jay hx
   have iw:i<wt.length:=by omega
   have ig:i<(Jg ws (k:Int)).g.length:=by omega
   have ax:atI (wt.map Qi) ((i:Nat):Int)=some (.int (wt.getD i 0)):=Yc (by omega) (by rw [Qy];exact Vw iw)
   have ay:atI ((Jg ws (k:Int)).g.map Qi) ((i:Nat):Int)=some (.int ((Jg ws (k:Int)).g.getD i 0)):=Yc (by omega) (by rw [Qy];exact Vw ig)
   refine ⟨_,rfl,_,ax,_,ay,Y1 ?_ ?_,rfl,.d (.int i),?_⟩
   . have m:wt.getD i 0∈wt:=by rw [Qd,Qg iw];exact Q8 iw
     exact Qz (sb.bw _ m) (Ws (by decide))
   . have:=wok.small _ (Q8 ig)
     rw [Qd,Qg ig]
     have e:(100:Nat)<=2^9000:=Xc (by decide) (Ws (a:=7) (by decide))
     show ((Jg ws (k:Int)).g[i]).natAbs<2^9000
     generalize 2^9000=z at e ⊢
     omega
   . rw [Jqu,<- Int.sub_sub]
     rfl
 . rintro env j ⟨rfl,x,rfl⟩
   rw [Yn]
   unfold Jdo at q
   rw [show wt.length=U.toNat by omega] at q
   exact ⟨_,.refl,q⟩
theorem Jnj:FnScope ["_law_book_here","_law_total","_law_some"] ["_law_book_here","_law_total","_law_some"] (Je Jb8):=⟨rfl,rfl,rfl,by decide +kernel,rfl,by decide +kernel,by decide +kernel⟩
theorem Jnk (T:Txt mg) (D:Def K mg "_law_kept" Jb8 ["_law_book_here","_law_total","_law_some"]) (Gq:Cal P w K mg base "_law_fall" 1 ["_law_book_here","_law_total","_law_k"] (Jm Je2)):Cal P w K mg base "_law_kept" 2 ["_law_book_here","_law_total","_law_some"] (Jm Jg8):=by
 refine D.cal λ f fd F=>F.ok Jnj (Yb ?_) (λ cdv A outer s H vs Q E hr h=>?_)
 . rintro as n P ⟨R,U,ws,wt,ht,ks,rfl,_⟩
   rfl
 refine ⟨_,(@Jf _ _ _ (@Ju _ _ _ _ (Wj (Jkj hr.units) (Zo (sc:=(Je Jb8)) (N:=["_law_book_here","_law_total","_law_some"]) (N':=["_law_k","_law_book_here","_law_total"]) (k:=1) (idx:=[0,1]) rfl (by exact ⟨rfl,by decide +kernel,by decide +kernel,by decide +kernel,by decide +kernel,by decide +kernel,rfl,rfl⟩) rfl rfl (Bj (pv 2)) (λ _ _ _ _=>(J0 (i:=0) (show (["_law_k","_law_book_here","_law_total"]:List Str).Nodup by decide +kernel) rfl (Qa rfl) (Qv rfl))) (λ _ _ _ _=>Jda (Jy B0 (Yw Gq (hr.mono (by decide)) rfl (Jb (pv 1) (Jb (pv 2) (Jb (pv 0) Jc)))) Jd (J4 _))) (λ _ _ _ _=>(pv 0))) (@PEs.out _ _ _ (Ye Jr)) (J4 _)))),J8 h ?_⟩
 rintro as n P ⟨R,U,ws,wt,ht,ks,rfl,ok,sb,hk,hl,kp,q⟩
 have hs:sizeLine=16777216:=J8p
 refine ⟨rfl,⟨rfl,by rw [Qb];omega⟩,?_⟩
 refine Jen (g:=Jn) (h:=Jn) (p:=λ k:Nat=>decide (Jdo ws wt ht (k:Int)<0)) (λ k hkk K k1 k2=>⟨R,U,ws,wt,ht,k,rfl,ok,sb,hk k hkk,Z3 (λ c=>k1 c) (λ c=>k2 c)⟩) ?_
 have e:ks.filter (λ k:Nat=>decide (Jdo ws wt ht (k:Int)<0))=[]:=J56.mpr λ k hkk=>by have:=kp k hkk;simp;omega
 rw [e]
 exact ⟨Q1 rfl,⟨⟨rfl,rfl,by decide⟩,q⟩⟩
theorem Zr:FnScope ["_law_book_here","_law_counts","_law_rooms","_law_found","_law_count","_law_way","_law_p"] ["_law_book_here","_law_counts"] (Je Bg):=⟨rfl,rfl,rfl,by decide +kernel,rfl,by decide +kernel,by decide +kernel⟩
theorem Je8 (T:Txt mg) (D:Def K mg "_law_round_gain" Bg ["_law_book_here","_law_counts"]) (Gd:Cal P w K mg base "_law_are_whole" 2 ["_law_thing","_law_many"] (Jm Jfw)):Cal P w K mg base "_law_round_gain" 3 ["_law_book_here","_law_counts"] (Jm Jiu):=by
 refine D.cal λ f fd F=>F.ok Zr (Yb ?_) (λ cdv A outer s H vs Q E hr h=>?_)
 . rintro as n P ⟨R,U,ws,cs,rfl,_⟩
   rfl
 refine ⟨_,(@Ja _ _ _ _ _ (Y5 (PW.pt (V2 (Wo (Z2 (Yw Gd (hr.mono (by decide)) rfl (Jb (pv 1) (Z0 (Jw J1 rfl T.b_len Xm (J9 (Ji Jp (pv 0) Jd (λ _ _=>rfl)) Jc)) Jc))))) (B8 (Jy (Jkj hr.units) (pv 1) (Jo Jbu (@PEs.out _ _ _ (Yq (Jl Jz Jr))) (Jw J1 rfl T.b_len Xm (Jb (pv 1) Jc))) (J4 _))))) (@Jf _ _ _ (@Ju _ _ _ _ Br)) Ya)
  (@Ja _ _ _ _ _ (J5 (i:=2) Zr.nd rfl (Qa rfl) (Jo Jaa (@PEs.out _ _ _ (Ye (Jl Jz Jr))) (Ji Jp (pv 0) Jd (λ _ _=>rfl))))
  (@Ja _ _ _ _ _ (J5 (i:=3) Zr.nd rfl (Qa rfl) (Jo Jaa (@PEs.out _ _ _ (Ye (Jl Jz Jr))) (Ji Jp (pv 0) Jd (λ _ _=>rfl))))
  (@Ja _ _ _ _ _ (Zt Xh rfl (Jad rfl T.b_zip (Jb (pv 1) (J9 (Ji Jp (pv 0) Jd (λ _ _=>rfl)) Jc))) (Z1 (K':=K) (i:=4) (j:=5) rfl Zr.nd ⟨rfl,(Qa rfl),(Qa rfl)⟩ ⟨rfl,(Qa rfl),(Qa rfl)⟩ rfl)
  (@Ja _ _ _ _ _ (Y5 (Jy B0 (pv 4) Jd (J4 _)) (@Jf _ _ _ (@Ju _ _ _ _ Br)) Ya)
  (@Ja _ _ _ _ _ (Yi (Jo Vr (Ji Js (pv 2) (Ji Jp (pv 5) Jd (λ _ _=>rfl)) (λ _ _=>rfl)) (pv 4)) (Za (pv 2) (Ji Jp (pv 5) Jd (λ _ _=>rfl)) Yh ))
  (@Ja _ _ _ _ _ (Yi (Jo Zu (Ji Js (pv 2) (Ji Jp (pv 5) Jd (λ _ _=>rfl)) (λ _ _=>rfl)) (pv 4)) (Za (pv 2) (Ji Jp (pv 5) Jd (λ _ _=>rfl)) Yh ))
  (@Jf _ _ _ (Zt Xh rfl (Yr rfl T.b_range (J9 (Ji Jp (pv 0) Jd (λ _ _=>rfl)) Jc)) (J0 (i:=6) Zr.nd rfl (Qa rfl) (Qa rfl))
  (@Jf _ _ _ (Yi (Jo Zu (Ji Js (pv 3) (pv 6) (λ _ _=>rfl)) (Jo Wl (pv 4) (Ji Jp (Ji Jp (pv 5) Jd (λ _ _=>rfl)) (pv 6) (λ _ _=>rfl)))) (Za (pv 3) (pv 6) Yh (λ v=>J6 _ _ _ _ _ v))))))))))
  (@Jf _ _ _ (@Ju _ _ _ _ (Jhc (Jy (Jkj hr.units) (pv 2) (Jo Jaa (@PEs.out _ _ _ (Ye (Jl Jz Jr))) (Ji Jp (pv 0) Jd (λ _ _=>rfl))) (J4 _)) (pv 3) Br))))))),J8 h ?_⟩
 rintro as n P ⟨R,U,ws,cs,rfl,ok,rd,q⟩
 have hs:sizeLine=16777216:=J8p
 have r0:=ok.r0
 have r1:=ok.r1
 have p0:=ok.p0
 have p1:=ok.p1
 have wl:=ok.len
 have cl:=rd.ro.len
 have getn:∀ i,0<=cs.getD i 0:=λ i=>Jst rd.ro.nn i
 obtain ⟨k0,hk0⟩:=rd.ne
 have e0:X6 (.tuple (cs.map Qi)) (.tuple ((Qp cs.length (0:Int)).map Qi))=false:=by
  rw [Jq7]
  refine decide_eq_false λ e=>?_
  rw [e,Qd,U4] at hk0
  split at hk0<;>exact absurd hk0 (by decide)
 refine ⟨rfl,_,rfl,cs,by rw [Qb,cl],by omega,We ?_⟩
 refine ⟨Q1 rfl,by simp,by rw [Qb];omega,by rw [Qb];show (1:Int)*(cs.length:Int)<=_;omega,?_⟩
 rw [Qb,show ((cs.length:Nat):Int).toNat=cs.length from Qy _,Jco,show Qp cs.length (Qi 0)=(Qp cs.length (0:Int)).map .int by rw [J17]]
 refine ⟨⟨by rw [Ub];exact Jh7 _,by rw [Ub];exact Jh7 _,Xc (J5j _ _) (by rw [J32,Jk2];decide)⟩,?_⟩
 rw [e0]
 refine We ⟨_,.refl,V6 (Q1 rfl),_,rfl,⟨by omega,by omega,by simp;omega⟩,?_⟩
 rw [Jpk]
 refine ⟨_,.refl,V6 (Q1 rfl),_,rfl,⟨by omega,by omega,by simp;omega⟩,?_⟩
 rw [Jpk]
 refine ⟨[.d (J2 R U ws),.d (.tuple (cs.map .int)),.own (fl R.toNat λ r=>Yy ws cs 0 (r:Nat)),.own (fl U.toNat λ p=>gpI ws cs 0 p),.jnk,.jnk,.jnk],.eq rfl,_,rfl,_,_,_,_,rfl,rfl,rfl,?_⟩
 refine ⟨λ i env j=>j=n/\∃ x y z:Vl,env=[.d (J2 R U ws),.d (.tuple (cs.map .int)),.own (fl R.toNat λ r=>Yy ws cs i (r:Nat)),.own (fl U.toNat λ p=>gpI ws cs i p),x,y,z],⟨rfl,_,_,_,rfl⟩,?_,?_⟩
 . rintro i x env j hx ⟨rfl,x',y',z',rfl⟩
   obtain ⟨hi,rfl⟩:=Jm2 cl hx
   have wok:=ok.ways _ (Yx (k:=(i:Int)) (Xj i) (by omega))
   have a0:=wok.a0
   have a1:=wok.a1
   have b0:=wok.b0
   have b1:=wok.b1
   have gl:=wok.len
   have ci:=getn i
   refine ⟨rfl,rfl,Vc (decide_eq_false (by omega)) ⟨_,.refl,_,rfl,_,Yc a0 (Ja9 (by omega)),_,rfl,_,Jci a0 (by rw [Bv];omega),?_⟩⟩
   rw [Jba]
   refine ⟨_,.refl,_,rfl,_,Yc b0 (Ja9 (by omega)),_,rfl,_,Jci b0 (by rw [Bv];omega),?_⟩
   rw [Jba]
   have key:fl R.toNat (putF (putF (λ r=>Yy ws cs i (r:Nat)) (Jg ws (i:Int)).a.toNat (Yy ws cs i ((Jg ws (i:Int)).a.toNat:Nat)-cs.getD i 0)) (Jg ws (i:Int)).b.toNat (putF (λ r=>Yy ws cs i (r:Nat)) (Jg ws (i:Int)).a.toNat (Yy ws cs i ((Jg ws (i:Int)).a.toNat:Nat)-cs.getD i 0) (Jg ws (i:Int)).b.toNat+cs.getD i 0))=fl R.toNat λ r=>Yy ws cs (i+1) (r:Nat):=by
    refine Jdy λ r hr=>?_
    unfold putF
    dsimp only
    rw [Yy]
    have h1:((Jg ws (i:Nat)).a=((r:Nat):Int))↔r=(Jg ws (i:Nat)).a.toNat:=by omega
    have h2:((Jg ws (i:Nat)).b=((r:Nat):Int))↔r=(Jg ws (i:Nat)).b.toNat:=by omega
    by_cases c2:r=(Jg ws (i:Nat)).b.toNat
    . rw [if_pos c2,if_pos (h2.mpr c2)]
      by_cases c1:r=(Jg ws (i:Nat)).a.toNat
      . rw [if_pos (h1.mpr c1),if_pos (by rw [<- c2,<- c1]),<- c1]
      . rw [if_neg (mt h1.mp c1),if_neg (by rw [<- c2];exact c1),<- c2];omega
    . rw [if_neg c2,if_neg (mt h2.mp c2)]
      by_cases c1:r=(Jg ws (i:Nat)).a.toNat
      . rw [if_pos (h1.mpr c1),if_pos c1,<- c1];omega
      . rw [if_neg (mt h1.mp c1),if_neg c1];omega
   refine ⟨[.d (J2 R U ws),.d (.tuple (cs.map .int)),.own (fl R.toNat λ r=>Yy ws cs (i+1) (r:Nat)),.own (fl U.toNat λ p=>gpI ws cs i p),.d (.int (cs.getD i 0)),.d (Ym (Jg ws (i:Int))),z'],.eq (by show [_,_,Vl.own _,_,_,_,_]=[_,_,Vl.own _,_,_,_,_];rw [key]),_,rfl,U,rfl,⟨by omega,by omega⟩,?_⟩
   refine ⟨λ p env j'=>j'=j/\∃ z:Vl,env=[.d (J2 R U ws),.d (.tuple (cs.map .int)),.own (fl R.toNat λ r=>Yy ws cs (i+1) (r:Nat)),.own (fl U.toNat λ t=>if t<p then gpI ws cs (i+1) t else gpI ws cs i t),.d (.int (cs.getD i 0)),.d (Ym (Jg ws (i:Int))),z],⟨rfl,z',?_⟩,?_,?_⟩
   . rfl
   . rintro p x env j' hx ⟨rfl,z,rfl⟩
     obtain ⟨hp,rfl⟩:=Jay hx
     have pg:p<(Jg ws (i:Int)).g.length:=by omega
     have ap:atI ((Jg ws (i:Int)).g.map Qi) ((p:Nat):Int)=some (.int ((Jg ws (i:Int)).g.getD p 0)):=Yc (by omega) (by rw [Qy];exact Vw pg)
     have af:atI (fl U.toNat λ t=>if t<p then gpI ws cs (i+1) t else gpI ws cs i t) ((p:Nat):Int)=some (.int (gpI ws cs i p)):=Yc (by omega) (by rw [Qy,Ja9 hp,if_neg (Q4 _)])
     refine ⟨_,af,_,rfl,_,ap,Y1 ?_ ?_,p,V9 (by omega) (by rw [Bv];omega),rfl,.d (.int p),?_⟩
     . have m:cs.getD i 0∈cs:=by rw [Qd,Qg (by omega)];exact Q8 _
       exact Qz (rd.bd _ m) (Ws (by decide))
     . have:=wok.small _ (Q8 pg)
       rw [Qd,Qg pg]
       have e:(100:Nat)<=2^9000:=Xc (by decide) (Ws (a:=7) (by decide))
       show ((Jg ws (i:Int)).g[p]).natAbs<2^9000
       generalize 2^9000=z at e ⊢
       omega
     . rw [Jba]
       have kf:fl U.toNat (putF (λ t=>if t<p then gpI ws cs (i+1) t else gpI ws cs i t) p (gpI ws cs i p+cs.getD i 0*(Jg ws (i:Int)).g.getD p 0))=fl U.toNat λ t=>if t<p+1 then gpI ws cs (i+1) t else gpI ws cs i t:=by
        refine Jdy λ t ht=>?_
        unfold putF
        by_cases e:t=p
        . subst e
          rw [if_pos rfl,if_pos (by omega),Jm1]
        . rw [if_neg e]
          dsimp only
          by_cases c:t<p
          . rw [if_pos c,if_pos (by omega)]
          . rw [if_neg c,if_neg (by omega)]
       rw [kf]
       rfl
   . rintro env j' ⟨rfl,z,rfl⟩
     rw [Yn]
     refine ⟨rfl,.d (.int (cs.getD i 0)),.d (Ym (Jg ws (i:Int))),z,?_⟩
     rw [Jdy (f:=λ t=>if t<U.toNat then gpI ws cs (i+1) t else gpI ws cs i t) (g:=λ p=>gpI ws cs (i+1) p) (λ t ht=>if_pos ht)]
 . rintro env j ⟨rfl,x,y,z,rfl⟩
   have lz:(Ba (cs.map Qi) (ws.map Ym)).length=ws.length:=by rw [Vv,Qb,Qb];omega
   rw [lz]
   have er:fl R.toNat (λ r=>Yy ws cs ws.length (r:Nat))=(Qp R.toNat (0:Int)).map .int:=by
    rw [Jdy (g:=λ _=>0) (λ r hr=>rd.ro.bal r hr)]
    unfold fl
    rw [J17,J74,Qw]
   rw [er]
   refine ⟨_,.fz 3 _ rfl .refl,V6 (Q1 rfl),_,rfl,⟨by omega,by omega,by simp;omega⟩,?_⟩
   rw [Jaj]
   have hl:Ub (.list ((Qp R.toNat (0:Int)).map .int))=true:=by rw [Ub];exact Jh7 _
   refine ⟨⟨hl,hl,Xc (J5j _ _) (by rw [J32,Jk2];decide)⟩,?_⟩
   rw [J7c _ hl]
   refine Bt ?_
   have ef:(fl U.toNat λ p=>gpI ws cs ws.length p)=(rgI ws cs U).map .int:=by unfold fl rgI;rw [Q0];rfl
   rw [<- ef] at q
   exact q
theorem Jjh:FnScope ["_law_counts","_law_some"] ["_law_counts","_law_some"] (Je B5):=⟨rfl,rfl,rfl,by decide +kernel,rfl,by decide +kernel,by decide +kernel⟩
theorem Jji (T:Txt mg) (D:Def K mg "_law_within" B5 ["_law_counts","_law_some"]):Cal P w K mg base "_law_within" 1 ["_law_counts","_law_some"] (Jm Jbl):=by
 refine D.cal λ f fd F=>F.ok Jjh (Yb ?_) (λ cdv A outer s H vs Q E hr h=>?_)
 . rintro as n P ⟨cs,ks,rfl,_⟩
   rfl
 refine ⟨_,(@Jf _ _ _ (@Ju _ _ _ _ (Wj (Jkj hr.units) (Zo (sc:=(Je B5)) (N:=["_law_counts","_law_some"]) (N':=["_law_k","_law_counts","_law_some"]) (k:=1) (idx:=[0,1]) rfl (by exact ⟨rfl,by decide +kernel,by decide +kernel,by decide +kernel,by decide +kernel,by decide +kernel,rfl,rfl⟩) rfl rfl (Yr rfl T.b_range (Z0 (Jw J1 rfl T.b_len Xm (Jb (pv 0) Jc)) Jc)) (λ _ _ _ _=>(J0 (i:=0) (show (["_law_k","_law_counts","_law_some"]:List Str).Nodup by decide +kernel) rfl (Qa rfl) (Qv rfl))) (λ _ _ _ _=>Jda (PW.pt (Jhb (Jy Jf7 (Ji (Ve (K':=K) rfl) (pv 1) (pv 0) (λ _ _=>rfl)) Jd (J4 _)) (Jec (Jy (Jdp (K':=K) rfl) (pv 0) (pv 2) (by with_unfolding_all rfl)))))) (λ _ _ _ _=>(pv 0))) (@PEs.out _ _ _ (Ye Jr)) (J4 _)))),J8 h ?_⟩
 rintro as n P ⟨cs,ks,rfl,hl,sub,q⟩
 have hs:sizeLine=16777216:=J8p
 have isin:∀ ν:Nat,inD (Jn ν) (ks.map Jn)=decide (ν∈ks):=λ ν=>by
  have:=Jmj (k:=(ν:Int)) (ns:=nI ks)
  unfold nI at this
  rw [Q0] at this
  rw [show ks.map Jn=ks.map (Qi∘λ k:Nat=>(k:Int)) from rfl,this]
  exact decide_eq_decide.mpr ⟨λ h=>by obtain ⟨k,hk,e⟩:=Qo.mp h;rwa [<- show k = ν by exact_mod_cast e],λ h=>Qo.mpr ⟨ν,h,rfl⟩⟩
 have scw:(ks.map Jn).all W6=true:=X7.mpr λ x hx=>by obtain ⟨k,_,rfl⟩:=Qo.mp hx;rfl
 refine ⟨rfl,_,rfl,⟨by omega,by rw [Qb];omega⟩,⟨rfl,by rw [Yn,Qb];omega⟩,?_⟩
 rw [Qb,show ((cs.length:Nat):Int).toNat=cs.length from Qy _]
 have ac:∀ i,i<cs.length->atI (cs.map Qi) (0+((i:Nat):Int))=some (.int (cs.getD i 0)):=λ i hi=>Yc (by omega) (by rw [J2k,Qy];exact Vw hi)
 refine Jbx (λ i=>decide (cs.getD i 0≠0) && !decide (i∈ks)) (λ i=>Jn i) (λ i hi n K k1 k2=>⟨_,ac i hi,Jhw (Z3 (λ c=>?_) (λ c=>?_))⟩) ?_
 . rw [J2k]
   refine ⟨rfl,scw,?_⟩
   show if (!inD (Jn i) (ks.map Jn))=true then _ else _
   rw [isin]
   have c1:decide (cs.getD i 0≠0)=true:=by
    have c:(!decide (cs.getD i 0=0))=true:=c
    simpa using c
   rw [c1,J5m] at k1 k2
   exact Z3 k1 k2
 . have c1:decide (cs.getD i 0≠0)=false:=by
    have c:(!decide (cs.getD i 0=0))=false:=c
    simpa using c
   rw [c1,J3l] at k2
   exact We (k2 rfl)
 . have e:(Qf cs.length).filter (λ i=>decide (cs.getD i 0≠0) && !decide (i∈ks))=[]:=J56.mpr λ i _=>by
    by_cases c:cs.getD i 0=0
    . rw [decide_eq_false (λ z=>z c)];simp
    . rw [decide_eq_true (sub i c)];simp
   rw [e]
   exact ⟨Q1 rfl,⟨⟨rfl,rfl,by decide⟩,q⟩⟩
theorem Bz:FnScope ["_law_book_here","_law_room","_law_all","_law_rooms"] ["_law_book_here","_law_room"] (Je Vx):=⟨rfl,rfl,rfl,by decide +kernel,rfl,by decide +kernel,by decide +kernel⟩
theorem Jgu (T:Txt mg) (D:Def K mg "_law_ways_met" Vx ["_law_book_here","_law_room"]) (G5:Cal P w K mg base "_law_met" 1 ["_law_book_here","_law_some","_law_room"] (Jm Jsu)):Cal P w K mg base "_law_ways_met" 2 ["_law_book_here","_law_room"] (Y8 Be):=by
 refine D.cal λ f fd F=>F.ok Bz (Wz ?_) (λ cdv A outer s H vs Q E hr h=>?_)
 . rintro as n P ⟨R,U,ws,room,rfl,_⟩
   rfl
 refine ⟨_,(@Ja _ _ _ _ _ (J5 (i:=2) Bz.nd rfl (Qa rfl) (Jej rfl rfl T.b_list rfl T.b_range (Z0 (Jw J1 rfl T.b_len Xm (J9 (Ji Jp (pv 0) Jd (λ _ _=>rfl)) Jc)) Jc)))
  (@Ja _ _ _ _ _ (J5 (i:=3) Bz.nd rfl (Qv rfl) (Yw G5 (hr.mono (by decide)) rfl (Jb (pv 0) (Jb (pv 2) (Jb (pv 1) Jc)))))
  (@Jf _ _ _ (@Ju _ _ _ _ (Zo (sc:=(Je Vx)) (N:=["_law_book_here","_law_room","_law_all","_law_rooms"]) (N':=["_law_k","_law_book_here","_law_rooms"]) (k:=1) (idx:=[0,3]) rfl (by exact ⟨rfl,by decide +kernel,by decide +kernel,by decide +kernel,by decide +kernel,by decide +kernel,rfl,rfl⟩) rfl rfl (Bj (pv 2)) (λ _ _ _ _=>(J0 (i:=0) (show (["_law_k","_law_book_here","_law_rooms"]:List Str).Nodup by decide +kernel) rfl (Qa rfl) (Qv rfl))) (λ _ _ _ _=>Jda (Jy (Jh6 (K':=K) rfl) (Ji (Ve (K':=K) rfl) (Ji (Ve (K':=K) rfl) (Ji (Ve (K':=K) rfl) (pv 1) Jd (λ _ _=>rfl)) (pv 0) (λ _ _=>rfl)) Jd (λ _ _=>rfl)) (pv 2) (by with_unfolding_all rfl))) (λ _ _ _ _=>(pv 0))))))),Z9 h ?_⟩
 rintro as n P ⟨R,U,ws,room,rfl,ok,ro,q⟩
 have hs:sizeLine=16777216:=J8p
 have wl:=ok.len
 have wm:(ws.map Ym).length=ws.length:=Qb _
 have lt:∀ k∈nI (Qf ws.length),0<=k/\k<ws.length:=λ k hk=>by
  obtain ⟨i,hi,rfl⟩:=Qo.mp hk
  have:=Q5.mp hi
  omega
 have em:(nI (Qf ws.length)).map Qi=(Qf ws.length).map Jn:=by unfold nI;rw [Q0];rfl
 refine ⟨rfl,_,rfl,_,rfl,by omega,by omega,?_⟩
 have e:((Qf (((ws.map Ym).length:Nat):Int).toNat).map λ (i:Nat)=>Qi (i:Int))=(Qf ws.length).map Jn:=by
  rw [Qy,wm]
 rw [e]
 refine ⟨[.d (J2 R U ws),.d (.int room),.d (.list ((Qf ws.length).map Jn)),.jnk],.fz 2 _ rfl .refl,R,U,ws,nI (Qf ws.length),room,congrArg (λ xs=>[Vl.d (J2 R U ws),Vl.d (.list xs),Vl.d (.int room)]) em.symm,ok,lt,by unfold nI;rw [Qb,Qw];omega,ro,λ l M bd=>⟨_,.refl,⟨rfl,by rw [Qb,Qw];omega⟩,?_⟩⟩
 refine Jbx (λ k=>Pw (Jai ws (nI (Qf ws.length))) R.toNat room.toNat (Jg ws (k:Int)).a.toNat) Jn (λ k hk n K h1 h2=>?_) q
 have isin:inD (.int (Jg ws (k:Int)).a) (l.map .int)=Pw (Jai ws (nI (Qf ws.length))) R.toNat room.toNat (Jg ws (k:Int)).a.toNat:=by
  rw [Jmj,U1,decide_eq_true_eq]
  exact Joz ok ro.1 ro.2 M hk
 have scw:(l.map Qi).all W6=true:=X7.mpr λ x hx=>by obtain ⟨k,_,rfl⟩:=Qo.mp hx;rfl
 refine ⟨_,rfl,_,Jbw (Xj k) (by omega),_,rfl,rfl,scw,?_⟩
 show if inD (.int (Jg ws (k:Int)).a) (l.map .int)=true then _ else _
 rw [isin]
 exact Z3 h1 h2
theorem Zs:FnScope ["_law_book_here","_law_stand_here","_law_some","_law_flow","_law_e","_law_out","_law_numbers","_law_count","_law_way","_law_p"] ["_law_book_here","_law_stand_here","_law_some","_law_flow","_law_e"] (Je W3):=⟨rfl,rfl,rfl,by decide +kernel,rfl,by decide +kernel,by decide +kernel⟩
theorem Je9 (T:Txt mg) (D:Def K mg "_law_flow_right" W3 ["_law_book_here","_law_stand_here","_law_some","_law_flow","_law_e"]) (Gd:Cal P w K mg base "_law_are_whole" 2 ["_law_thing","_law_many"] (Jm Jfw)) (Gc:Cal P w K mg base "_law_whole" 1 ["_law_thing"] (Jm Jax)) (Gr:Cal P w K mg base "_law_within" 1 ["_law_counts","_law_some"] (Jm Jbl)):Cal P w K mg base "_law_flow_right" 3 ["_law_book_here","_law_stand_here","_law_some","_law_flow","_law_e"] (Jm Ja1):=by
 refine D.cal λ f fd F=>F.ok Zs (Yb ?_) (λ cdv A outer s H vs Q E hr h=>?_)
 . rintro as n P ⟨R,U,ws,room,nums,ks,k,m,d,wt,ht,u,cs,e,rfl,_⟩
   rfl
 refine ⟨_,(@Ja _ _ _ _ _ (Y5 (PW.pt (V2 (Wo (Z2 (Yw Gd (hr.mono (by decide)) rfl (Jb (pv 3) (Z0 (Jw J1 rfl T.b_len Xm (J9 (Ji Jp (pv 0) Jd (λ _ _=>rfl)) Jc)) Jc))))) (V2 (Wo (Z2 (Yw Gc (hr.mono (by decide)) rfl (Jb (pv 4) Jc)))) (B8 (Jy B0 (pv 4) Jd (J4 _)))))) (@Jf _ _ _ (@Ju _ _ _ _ V1)) Ya)
  (@Ja _ _ _ _ _ (Y5 (PW.pt (V2 (Jy B0 (Jw (Jju rfl) rfl T.b_min J9g (Wq (Jo Juj (@PEs.out _ _ _ (Yq (Jl Jz Jr))) (pv 3)) Jc)) Jd (J4 _)) (B8 (Wo (Z2 (Yw Gr (hr.mono (by decide)) rfl (Jb (pv 3) (Jb (pv 2) Jc)))))))) (@Jf _ _ _ (@Ju _ _ _ _ V1)) Ya)
  (@Ja _ _ _ _ _ (J5 (i:=5) Zs.nd rfl (Qa rfl) (Jo Jaa (@PEs.out _ _ _ (Ye (Jl Jz Jr))) (Ji Jp (pv 0) Jd (λ _ _=>rfl))))
  (@Ja _ _ _ _ _ (V5 (i:=6) (sc:=(Je W3)) (N:=["_law_book_here","_law_stand_here","_law_some","_law_flow","_law_e","_law_out","_law_numbers","_law_count","_law_way","_law_p"]) (N':=["_law_number","_law_e"]) (k:=1) (idx:=[4]) rfl Zs.nd rfl rfl (by exact ⟨rfl,by decide +kernel,by decide +kernel,by decide +kernel,by decide +kernel,by decide +kernel,rfl,rfl⟩) rfl rfl (Jke (Ji Jp (pv 1) Jd (λ _ _=>rfl))) (λ _ _ _ _=>(J0 (i:=0) (show (["_law_number","_law_e"]:List Str).Nodup by decide +kernel) rfl (Qa rfl) (Qv rfl))) (λ _ _ _ _=>Y7) (λ _ _ _ _=>(Jo Wl (pv 1) (pv 0))))
  (@Ja _ _ _ _ _ (Zt Xh rfl (Jad rfl T.b_zip (Jb (pv 3) (J9 (Ji Jp (pv 0) Jd (λ _ _=>rfl)) Jc))) (Z1 (K':=K) (i:=7) (j:=8) rfl Zs.nd ⟨rfl,(Qa rfl),(Qa rfl)⟩ ⟨rfl,(Qa rfl),(Qa rfl)⟩ rfl)
  (@Ja _ _ _ _ _ (Yi (Jo Zu (Ji Js (pv 5) (Ji Jp (pv 8) Jd (λ _ _=>rfl)) (λ _ _=>rfl)) (pv 7)) (Za (pv 5) (Ji Jp (pv 8) Jd (λ _ _=>rfl)) Yh ))
  (@Ja _ _ _ _ _ (Yi (Jo Vr (Ji Js (pv 5) (Ji Jp (pv 8) Jd (λ _ _=>rfl)) (λ _ _=>rfl)) (pv 7)) (Za (pv 5) (Ji Jp (pv 8) Jd (λ _ _=>rfl)) Yh ))
  (@Jf _ _ _ (Zt Xh rfl (Yr rfl T.b_range (J9 (Ji Jp (pv 0) Jd (λ _ _=>rfl)) Jc)) (J0 (i:=9) Zs.nd rfl (Qa rfl) (Qa rfl))
  (@Jf _ _ _ (Yi (Jo Zu (Ji Js (pv 6) (pv 9) (λ _ _=>rfl)) (Jo Wl (pv 7) (Ji Jp (Ji Jp (pv 8) Jd (λ _ _=>rfl)) (pv 9) (λ _ _=>rfl)))) (Za (pv 6) (pv 9) Yh (λ v=>J6 _ _ _ _ _ v)))))))))
  (@Ja _ _ _ _ _ (Yi (Jo Vr (Ji Js (pv 5) (Ji Jp (pv 1) Jd (λ _ _=>rfl)) (λ _ _=>rfl)) (pv 4)) (Za (pv 5) (Ji Jp (pv 1) Jd (λ _ _=>rfl)) Yh ))
  (@Jf _ _ _ (@Ju _ _ _ _ (Jfc (Wj Jro (Jw (Jq1 rfl) rfl T.b_max boot_max (Jb (pv 5) Jc)) Jd (J4 _)) (Jce (Wj Jv4 (Jw (Jjs rfl) rfl T.b_min J9g (Jb (pv 6) Jc)) Jd (J4 _)))))))))))),J8 h ?_⟩
 rintro as n P ⟨R,U,ws,room,nums,ks,k,m,d,wt,ht,u,cs,e,rfl,ok,sd,M,q⟩
 have hs:sizeLine=16777216:=J8p
 have one:(1:Nat)<=sizeLine:=by rw [hs];decide
 have r0:=ok.r0
 have r1:=ok.r1
 have p0:=ok.p0
 have p1:=ok.p1
 have wl:=ok.len
 have cl:=M.lF
 have e1:=M.e1.1
 refine ⟨rfl,_,rfl,cs,by rw [Qb,cl],by omega,We ⟨_,rfl,We (Vc (decide_eq_false (by omega)) ⟨_,.refl,?_⟩)⟩⟩
 have F0:∀ x∈(0:Int)::cs,0<=x:=λ x hx=>by
  rcases Qh.mp hx with rfl | hx
  . exact Uk _
  . exact M.F0 x hx
 have c60:(cs.map Qi).length<=60:=by rw [Qb];omega
 refine ⟨one,by simp,by show 1+(cs.map Qi).length<=_;omega,(0:Int)::cs,rfl,by simp,λ mm hm _=>Vc (decide_eq_false (by have:=F0 mm hm;omega)) ⟨cs,ks,rfl,by omega,M.sub,We ⟨_,.refl,?_⟩⟩⟩
 have nl:=sd.len
 have eb:e.natAbs<2^9000:=Qz M.e1.2 (Ws (by decide))
 have big:∀ {x:Int},0<=x->x<=10^99->x.natAbs<2^9000:=λ {x} h0 h1=>by
  have h2:x.natAbs<=10^99:=by
   have:(10:Int)^99=((10^99:Nat):Int):=by decide
   omega
  exact Ug h2 (Qz (show 10^99<2^400 by decide) (Ws (by decide)))
 have ng:∀ p:Nat,(p:Int)<U->nums.getD p 0∈nums:=λ p hp=>by rw [Qd,Qg (by omega)];exact Q8 _
 refine ⟨one,_,rfl,⟨by omega,by omega,by simp;omega⟩,?_⟩
 rw [Jpk]
 have ini:nums.map (λ x=>Qi (e*x))=fl U.toNat λ p=>e*nums.getD p 0+gpI ws cs 0 p:=by
  apply Xv
  intro i
  rw [Qk]
  by_cases hi:i<U.toNat
  . rw [Ja9 hi,Qg (by omega)]
    show some (Qi (e*nums[i]))=some (Qi (e*nums.getD i 0+0))
    rw [J2n,Qd,Qg (by omega)];rfl
  . rw [Qx (by omega),Qx (by rw [Bv];omega)];rfl
 refine ⟨[.d (J2 R U ws),.d (Yl room nums),.d (.list (ks.map Jn)),.d (.tuple (cs.map .int)),.d (.int e),.own (fl R.toNat λ r=>-(Yy ws cs 0 (r:Nat))),.jnk,.jnk,.jnk,.jnk],.eq rfl,_,rfl,⟨rfl,by rw [Qb];omega⟩,?_⟩
 refine W0 (f:=Qi) (λ x=>.int (e*x)) (λ x hx n K hk=>Bt ⟨Y1 eb (big (sd.nn x hx) (sd.bd x hx)),hk⟩) ?_
 rw [ini]
 refine ⟨[.d (J2 R U ws),.d (Yl room nums),.d (.list (ks.map Jn)),.d (.tuple (cs.map .int)),.d (.int e),.own (fl R.toNat λ r=>-(Yy ws cs 0 (r:Nat))),.own (fl U.toNat λ p=>e*nums.getD p 0+gpI ws cs 0 p),.jnk,.jnk,.jnk],.eq rfl,?_⟩
 refine Jsj (λ env j=>j=n/\∃ x y z:Vl,env=[.d (J2 R U ws),.d (Yl room nums),.d (.list (ks.map Jn)),.d (.tuple (cs.map .int)),.d (.int e),.own (fl R.toNat λ r=>-(Yy ws cs ws.length (r:Nat))),.own (fl U.toNat λ p=>e*nums.getD p 0+gpI ws cs ws.length p),x,y,z]) (λ N hN=>?_) ?_
 . refine ⟨_,rfl,_,_,_,_,rfl,rfl,rfl,?_⟩
   refine ⟨λ i env j=>j=n/\∃ x y z:Vl,env=[.d (J2 R U ws),.d (Yl room nums),.d (.list (ks.map Jn)),.d (.tuple (cs.map .int)),.d (.int e),.own (fl R.toNat λ r=>-(Yy ws cs i (r:Nat))),.own (fl U.toNat λ p=>e*nums.getD p 0+gpI ws cs i p),x,y,z],⟨rfl,_,_,_,rfl⟩,?_,?_⟩
   . rintro i x env j hx ⟨rfl,x',y',z',rfl⟩
     obtain ⟨hi,rfl⟩:=Jm2 cl hx
     have wok:=ok.ways _ (Yx (k:=(i:Int)) (Xj i) (by omega))
     have a0:=wok.a0
     have a1:=wok.a1
     have b0:=wok.b0
     have b1:=wok.b1
     have gl:=wok.len
     refine ⟨rfl,rfl,_,rfl,_,Yc a0 (Ja9 (by omega)),_,rfl,_,Jci a0 (by rw [Bv];omega),?_⟩
     rw [Jba]
     refine ⟨_,.refl,_,rfl,_,Yc b0 (Ja9 (by omega)),_,rfl,_,Jci b0 (by rw [Bv];omega),?_⟩
     rw [Jba]
     have key:fl R.toNat (putF (putF (λ r=>-(Yy ws cs i (r:Nat))) (Jg ws (i:Int)).a.toNat (-(Yy ws cs i ((Jg ws (i:Int)).a.toNat:Nat))+cs.getD i 0)) (Jg ws (i:Int)).b.toNat (putF (λ r=>-(Yy ws cs i (r:Nat))) (Jg ws (i:Int)).a.toNat (-(Yy ws cs i ((Jg ws (i:Int)).a.toNat:Nat))+cs.getD i 0) (Jg ws (i:Int)).b.toNat-cs.getD i 0))=fl R.toNat λ r=>-(Yy ws cs (i+1) (r:Nat)):=by
      refine Jdy λ r hr=>?_
      unfold putF
      dsimp only
      rw [Yy]
      have h1:((Jg ws (i:Nat)).a=((r:Nat):Int))↔r=(Jg ws (i:Nat)).a.toNat:=by omega
      have h2:((Jg ws (i:Nat)).b=((r:Nat):Int))↔r=(Jg ws (i:Nat)).b.toNat:=by omega
      by_cases c2:r=(Jg ws (i:Nat)).b.toNat
      . rw [if_pos c2,if_pos (h2.mpr c2)]
        by_cases c1:r=(Jg ws (i:Nat)).a.toNat
        . rw [if_pos (h1.mpr c1),if_pos (by rw [<- c2,<- c1]),<- c1];omega
        . rw [if_neg (mt h1.mp c1),if_neg (by rw [<- c2];exact c1),<- c2];omega
      . rw [if_neg c2,if_neg (mt h2.mp c2)]
        by_cases c1:r=(Jg ws (i:Nat)).a.toNat
        . rw [if_pos (h1.mpr c1),if_pos c1,<- c1];omega
        . rw [if_neg (mt h1.mp c1),if_neg c1];omega
     refine ⟨[.d (J2 R U ws),.d (Yl room nums),.d (.list (ks.map Jn)),.d (.tuple (cs.map .int)),.d (.int e),.own (fl R.toNat λ r=>-(Yy ws cs (i+1) (r:Nat))),.own (fl U.toNat λ p=>e*nums.getD p 0+gpI ws cs i p),.d (.int (cs.getD i 0)),.d (Ym (Jg ws (i:Int))),z'],.eq (by show [_,_,_,_,_,Vl.own _,_,_,_,_]=[_,_,_,_,_,Vl.own _,_,_,_,_];rw [key]),_,rfl,U,rfl,⟨by omega,by omega⟩,?_⟩
     refine ⟨λ p env j'=>j'=j/\∃ z:Vl,env=[.d (J2 R U ws),.d (Yl room nums),.d (.list (ks.map Jn)),.d (.tuple (cs.map .int)),.d (.int e),.own (fl R.toNat λ r=>-(Yy ws cs (i+1) (r:Nat))),.own (fl U.toNat λ t=>e*nums.getD t 0+if t<p then gpI ws cs (i+1) t else gpI ws cs i t),.d (.int (cs.getD i 0)),.d (Ym (Jg ws (i:Int))),z],⟨rfl,z',?_⟩,?_,?_⟩
     . rfl
     . rintro p x env j' hx ⟨rfl,z,rfl⟩
       obtain ⟨hp,rfl⟩:=Jay hx
       have pg:p<(Jg ws (i:Int)).g.length:=by omega
       have ap:atI ((Jg ws (i:Int)).g.map Qi) ((p:Nat):Int)=some (.int ((Jg ws (i:Int)).g.getD p 0)):=Yc (by omega) (by rw [Qy];exact Vw pg)
       have af:atI (fl U.toNat λ t=>e*nums.getD t 0+if t<p then gpI ws cs (i+1) t else gpI ws cs i t) ((p:Nat):Int)=some (.int (e*nums.getD p 0+gpI ws cs i p)):=Yc (by omega) (by rw [Qy,Ja9 hp,if_neg (Q4 _)])
       refine ⟨_,af,_,rfl,_,ap,Y1 ?_ ?_,p,V9 (by omega) (by rw [Bv];omega),rfl,.d (.int p),?_⟩
       . have m:cs.getD i 0∈cs:=by rw [Qd,Qg (by omega)];exact Q8 _
         exact Qz (M.bF _ m) (Ws (by decide))
       . have:=wok.small _ (Q8 pg)
         rw [Qd,Qg pg]
         have e:(100:Nat)<=2^9000:=Xc (by decide) (Ws (a:=7) (by decide))
         show ((Jg ws (i:Int)).g[p]).natAbs<2^9000
         generalize 2^9000=z at e ⊢
         omega
       . rw [Jba]
         have kf:fl U.toNat (putF (λ t=>e*nums.getD t 0+if t<p then gpI ws cs (i+1) t else gpI ws cs i t) p (e*nums.getD p 0+gpI ws cs i p+cs.getD i 0*(Jg ws (i:Int)).g.getD p 0))=fl U.toNat λ t=>e*nums.getD t 0+if t<p+1 then gpI ws cs (i+1) t else gpI ws cs i t:=by
          refine Jdy λ t ht=>?_
          unfold putF
          by_cases e:t=p
          . subst e
            rw [if_pos rfl,if_pos (by omega),Jm1,Int.add_assoc]
          . rw [if_neg e]
            dsimp only
            by_cases c:t<p
            . rw [if_pos c,if_pos (by omega)]
            . rw [if_neg c,if_neg (by omega)]
         rw [kf]
         rfl
     . rintro env j' ⟨rfl,z,rfl⟩
       rw [Yn]
       refine ⟨rfl,.d (.int (cs.getD i 0)),.d (Ym (Jg ws (i:Int))),z,?_⟩
       rw [Jdy (f:=λ t=>e*nums.getD t 0+if t<U.toNat then gpI ws cs (i+1) t else gpI ws cs i t) (g:=λ p=>e*nums.getD p 0+gpI ws cs (i+1) p) (λ t ht=>by rw [if_pos ht])]
   . rintro env j ⟨rfl,x,y,z,rfl⟩
     have lz:(Ba (cs.map Qi) (ws.map Ym)).length=ws.length:=by rw [Vv,Qb,Qb];omega
     rw [lz]
     exact hN _ _ ⟨rfl,x,y,z,rfl⟩
 rintro _ j ⟨hj,x,y,z,rfl⟩
 subst hj
 have a0:=sd.a0
 have a1:=sd.a1
 refine ⟨_,.refl,_,rfl,_,Yc a0 (Ja9 (by omega)),_,rfl,_,Jci a0 (by rw [Bv];omega),?_⟩
 rw [Jba]
 refine ⟨_,.refl,?_⟩
 let F:Nat->Int:=putF (λ r=>-(Yy ws cs ws.length (r:Nat))) room.toNat (-(Yy ws cs ws.length (room.toNat:Nat))-e)
 let G:Nat->Int:=λ p=>e*nums.getD p 0+gpI ws cs ws.length p
 refine ⟨(Qf R.toNat).map F,by unfold fl;rw [Q0];rfl,λ e0=>?_,λ mm hm _=>?_⟩
 . have:=congrArg J2z e0
   rw [Qb,Qw] at this
   simp at this
   omega
 obtain ⟨r,hr,rfl⟩:=Qo.mp hm
 have hr:=Q5.mp hr
 have m0:F r<=0:=by
  have o:=M.ou r (by omega)
  show putF _ _ _ r<=0
  unfold putF
  by_cases c:r=room.toNat
  . rw [if_pos c]
    rw [if_pos (by omega)] at o
    rw [<- c];exact o
  . rw [if_neg c]
    rw [if_neg (by omega)] at o
    dsimp only
    omega
 refine Jjw (decide_eq_true m0) ⟨(Qf U.toNat).map G,by unfold fl;rw [Q0];rfl,λ e0=>?_,λ m2 hm2 _=>?_⟩
 . have:=congrArg J2z e0
   rw [Qb,Qw] at this
   simp at this
   omega
 obtain ⟨p,hp,rfl⟩:=Qo.mp hm2
 have hp:=Q5.mp hp
 have m3:0<=G p:=M.nu p (by omega)
 have q':=q
 rw [<- decide_eq_true m3] at q'
 exact q'
theorem Jdr:FnScope ["_law_one","_law_other"] ["_law_one","_law_other"] (Je Jb9):=⟨rfl,rfl,rfl,by decide +kernel,rfl,by decide +kernel,by decide +kernel⟩
theorem Jjj (T:Txt mg) (D:Def K mg "_law_common" Jb9 ["_law_one","_law_other"]):Cal P w K mg base "_law_common" 1 ["_law_one","_law_other"] (Jm Jdh):=by
 refine D.cal λ f fd F=>F.ok Jdr (Yb ?_) (λ cdv A outer s H vs Q E hr h=>?_)
 . rintro as n P ⟨a,b,rfl,_⟩
   rfl
 refine ⟨_,(@Ja _ _ _ _ _ (Jee Xh (Jy Jf7 (pv 0) Jd (J4 _))
  (@Jf _ _ _ (Jkd (i:=0) (j:=1) rfl Jdr.nd rfl rfl (by decide) rfl rfl (Wq (Jo Bs (pv 1) (pv 0)) (Jb (pv 0) Jc)) rfl)))
  (@Jf _ _ _ (@Ju _ _ _ _ (pv 1)))),J8 h ?_⟩
 rintro as n P ⟨a,b,rfl,a0,b0,a1,b1,q⟩
 refine ⟨rfl,λ m env j=>j=n/\∃ x y:Nat,env=[.d (.int (x:Nat)),.d (.int (y:Nat))]/\m=x/\Xx x y=Xx a.natAbs b.natAbs,⟨a.natAbs,rfl,a.natAbs,b.natAbs,?_,rfl,rfl⟩,?_⟩
 . show [Vl.d (.int a),Vl.d (.int b)]=_
   rw [Uy a0,Uy b0]
 rintro m _ n' ⟨hn,x,y,rfl,rfl,hg⟩
 subst hn
 refine Jhw (Z3 (λ c=>?_) (λ c=>?_))
 . have hx:0<m:=by
    have c:(!decide (((m:Nat):Int)=0))=true:=c
    simp at c
    omega
   refine ⟨by omega,_,_,rfl,y%m,Nat.mod_lt _ hx,rfl,y%m,m,?_,rfl,?_⟩
   . rfl
   . rw [<- hg,<- Nat.gcd_rec]
 . have hx:m=0:=by
    have c:(!decide (((m:Nat):Int)=0))=false:=c
    simp at c
    omega
   subst hx
   rw [J7v] at hg
   have q':P (.int ((y:Nat):Int)) n':=by rw [hg];exact q
   exact ⟨_,.refl,q'⟩
theorem Yf:FnScope ["_law_book_here","_law_stand_here","_law_k","_law_answer","_law_word","_law_n","_law_d","_law_total","_law_u","_law_flow","_law_e","_law_some","_law_worth"] ["_law_book_here","_law_stand_here","_law_k","_law_answer"] (Je W4):=⟨rfl,rfl,rfl,by decide +kernel,rfl,by decide +kernel,by decide +kernel⟩
theorem Jfa (T:Txt mg) (D:Def K mg "_law_most_right" W4 ["_law_book_here","_law_stand_here","_law_k","_law_answer"]) (Gs:Cal P w K mg base "_law_ways_met" 2 ["_law_book_here","_law_room"] (Y8 Be)) (Gc:Cal P w K mg base "_law_whole" 1 ["_law_thing"] (Jm Jax)) (G6:Cal P w K mg base "_law_common" 1 ["_law_one","_law_other"] (Jm Jdh)) (G7:Cal P w K mg base "_law_is_sum" 3 ["_law_book_here","_law_thing"] (Jm Je1)) (G8:Cal P w K mg base "_law_kept" 2 ["_law_book_here","_law_total","_law_some"] (Jm Jg8)) (Gq:Cal P w K mg base "_law_fall" 1 ["_law_book_here","_law_total","_law_k"] (Jm Je2)) (G9:Cal P w K mg base "_law_flow_right" 3 ["_law_book_here","_law_stand_here","_law_some","_law_flow","_law_e"] (Jm Ja1)):Cal P w K mg base "_law_most_right" 4 ["_law_book_here","_law_stand_here","_law_k","_law_answer"] (Jm Ja2):=by
 refine D.cal λ f fd F=>F.ok Yf (Yb ?_) (λ cdv A outer s H vs Q E hr h=>?_)
 . rintro as n P ⟨R,U,ws,room,nums,k,m,d,wt,ht,u,cs,e,rfl,_⟩
   rfl
 refine ⟨_,(@Ja _ _ _ _ _ (Yi (pv 3) (Jkc (n:=7) rfl (Zb (J0 (i:=4) Yf.nd rfl (Qa rfl) (Qa rfl)) (Zb (J0 (i:=5) Yf.nd rfl (Qa rfl) (Qa rfl)) (Zb (J0 (i:=6) Yf.nd rfl (Qa rfl) (Qa rfl)) (Zb (J0 (i:=7) Yf.nd rfl (Qa rfl) (Qa rfl)) (Zb (J0 (i:=8) Yf.nd rfl (Qa rfl) (Qa rfl)) (Zb (J0 (i:=9) Yf.nd rfl (Qa rfl) (Qa rfl)) (Zb (J0 (i:=10) Yf.nd rfl (Qa rfl) (Qa rfl)) Jed)))))))))
  (@Ja _ _ _ _ _ (J5 (i:=11) Yf.nd rfl (Qa rfl) (Yw Gs (hr.mono (by decide)) rfl (Jb (pv 0) (J9 (Ji Jp (pv 1) Jd (λ _ _=>rfl)) Jc))))
  (@Ja _ _ _ _ _ (Y5 (PW.pt (V2 (Wo (Z2 (Yw Gc (hr.mono (by decide)) rfl (Jb (pv 5) Jc)))) (V2 (Wo (Z2 (Yw Gc (hr.mono (by decide)) rfl (Jb (pv 6) Jc)))) (V2 (Jy B0 (pv 6) Jd (J4 _)) (B8 (Jy Jf7 (Yw G6 (hr.mono (by decide)) rfl (Jb (pv 5) (Jb (pv 6) Jc))) Jd (J4 _))))))) (@Jf _ _ _ (@Ju _ _ _ _ V1)) Ya)
  (@Ja _ _ _ _ _ (Y5 (PW.pt (V2 (Wo (Z2 (Yw G7 (hr.mono (by decide)) rfl (Jb (pv 0) (Jb (pv 7) Jc))))) (V2 (Jy B0 (Jw (Jju rfl) rfl T.b_min J9g (J9 (Ji Jp (pv 7) Jd (λ _ _=>rfl)) Jc)) Jd (J4 _)) (V2 (Wo (Z2 (Yw Gc (hr.mono (by decide)) rfl (Jb (pv 8) Jc)))) (B8 (Jy B0 (pv 8) Jd (J4 _))))))) (@Jf _ _ _ (@Ju _ _ _ _ V1)) Ya)
  (@Ja _ _ _ _ _ (Y5 (Wo (Z2 (Yw G8 (hr.mono (by decide)) rfl (Jb (pv 0) (Jb (pv 7) (Jb (pv 11) Jc)))))) (@Jf _ _ _ (@Ju _ _ _ _ V1)) Ya)
  (@Ja _ _ _ _ _ (Y5 (PW.pt (Jhb (Jy Jfi (pv 2) (pv 11) (by with_unfolding_all rfl)) (Jec (Jy B0 (Yw Gq (hr.mono (by decide)) rfl (Jb (pv 0) (Jb (pv 7) (Jb (pv 2) Jc)))) (pv 8) (J4 _))))) (@Jf _ _ _ (@Ju _ _ _ _ V1)) Ya)
  (@Ja _ _ _ _ _ (J5 (i:=12) Yf.nd rfl (Qa rfl) (Jo Zu (Ji Jp (Ji Jp (pv 7) Jd (λ _ _=>rfl)) (Ji Jp (pv 1) Jd (λ _ _=>rfl)) (λ _ _=>rfl)) (Jw Jr0 rfl T.b_sum boot_sum (Jgy (Zo (sc:=(Je W4)) (N:=["_law_book_here","_law_stand_here","_law_k","_law_answer","_law_word","_law_n","_law_d","_law_total","_law_u","_law_flow","_law_e","_law_some","_law_worth"]) (N':=["_law_one","_law_two"]) (k:=2) (idx:=[]) rfl (by exact ⟨rfl,by decide +kernel,by decide +kernel,by decide +kernel,by decide +kernel,by decide +kernel,rfl,rfl⟩) rfl rfl (Jad rfl T.b_zip (J9 (Ji Jp (pv 7) Jd (λ _ _=>rfl)) (J9 (Ji Jp (pv 1) Jd (λ _ _=>rfl)) Jc))) (λ _ _ _ _=>(Z1 (K':=K) (i:=0) (j:=1) rfl (show (["_law_one","_law_two"]:List Str).Nodup by decide +kernel) ⟨rfl,(Qa rfl),(Qv rfl)⟩ ⟨rfl,(Qa rfl),(Qv rfl)⟩ rfl)) (λ _ _ _ _=>Y7) (λ _ _ _ _=>(Jo Wl (pv 0) (pv 1)))) Jc))))
  (@Ja _ _ _ _ _ (Y5 (Jy Jf7 (Jo Wl (pv 12) (pv 6)) (Jo Wl (pv 5) (pv 8)) (J4 _)) (@Jf _ _ _ (@Ju _ _ _ _ V1)) Ya)
  (@Ja _ _ _ _ _ (Y5 (Wo (Z2 (Yw G9 (hr.mono (by decide)) rfl (Jb (pv 0) (Jb (pv 1) (Jb (pv 11) (Jb (pv 9) (Jb (pv 10) Jc)))))))) (@Jf _ _ _ (@Ju _ _ _ _ V1)) Ya)
  (@Jf _ _ _ (@Ju _ _ _ _ (Wj Jbc (Jo Wl (Ji Jp (pv 9) (pv 2) (λ _ _=>rfl)) (pv 6)) (Jo Wl (pv 5) (pv 10)) (J4 _))))))))))))),J8 h ?_⟩
 rintro as n P ⟨R,U,ws,room,nums,k,m,d,wt,ht,u,cs,e,rfl,ok,sd,kl,hk,M,q⟩
 have hs:sizeLine=16777216:=J8p
 have wl:=ok.len
 have r0:=ok.r0
 have r1:=ok.r1
 have p0:=ok.p0
 have p1:=ok.p1
 have a0:=sd.a0
 have a1:=sd.a1
 have d1:=M.d1.1
 have u1:=M.u1.1
 have lh:=M.lh
 have lw:=M.lw
 have nl:=sd.len
 have cl:=M.lF
 have ml:=Jm8 (R:=R) (room:=room) (ws:=ws)
 have up:∀ {x:Int},x.natAbs<2^4200->x.natAbs<2^9000:=λ {x} h=>Qz h (Ws (by decide))
 have SB:SumB R U wt ht:=⟨lw,lh,λ x hx=>Qz (M.bw x hx) (Ws (by decide))⟩
 have big:∀ {x:Int},0<=x->x<=10^99->x.natAbs<2^9000:=λ {x} h0 h1=>by
  have h2:x.natAbs<=10^99:=by
   have:(10:Int)^99=((10^99:Nat):Int):=by decide
   omega
  exact Ug h2 (Qz (show 10^99<2^400 by decide) (Ws (by decide)))
 refine ⟨rfl,rfl,rfl,[.d (J2 R U ws),.d (Yl room nums),.d (Jn k),.d (Je3 m d wt ht u cs e),.d (.str "most"),.d (.int m),.d (.int d),.d (Ji8 wt ht),.d (.int u),.d (.tuple (cs.map .int)),.d (.int e),.jnk,.jnk],.eq rfl,_,rfl,R,U,ws,room,rfl,ok,⟨a0,a1⟩,[.d (J2 R U ws),.d (Yl room nums),.d (Jn k),.d (Je3 m d wt ht u cs e),.d (.str "most"),.d (.int m),.d (.int d),.d (Ji8 wt ht),.d (.int u),.d (.tuple (cs.map .int)),.d (.int e),.own ((Z5 R room ws).map Jn),.jnk],.eq rfl,?_⟩
 refine ⟨m,rfl,We ⟨d,rfl,We (Vc (decide_eq_false (by omega)) ⟨m,d,rfl,M.n0.1,by omega,up M.n0.2,up M.d1.2,?_⟩)⟩⟩
 rw [M.gc]
 refine Jhw (Vc rfl ⟨_,.refl,?_⟩)
 refine ⟨R,U,ws,wt,ht,rfl,ok,lw,lh,M.w0,We ⟨_,rfl,ht,rfl,λ z=>by rw [z] at lh;simp at lh;omega,λ mm hm _=>Vc (decide_eq_false (by have:=M.h0 mm hm;omega)) ⟨u,rfl,We (Vc (decide_eq_false (by omega)) ⟨_,.refl,?_⟩)⟩⟩⟩
 refine ⟨R,U,ws,wt,ht,Z5 R room ws,rfl,ok,SB,Jlj,by omega,M.kp,We ⟨_,.refl,?_⟩⟩
 refine ⟨rfl,Jdj,?_⟩
 show if inD (Jn k) ((Z5 R room ws).map Jn)=true then _ else _
 rw [Jha,decide_eq_true hk]
 refine Bt ⟨R,U,ws,wt,ht,k,rfl,ok,SB,kl,Vc (decide_eq_false (by have:=M.fl;omega)) ⟨_,.refl,?_⟩⟩
 have hat:atI (ht.map Qi) room=some (.int (ht.getD room.toNat 0)):=Yc a0 (Vw (by omega))
 refine ⟨_,rfl,_,rfl,_,hat,_,rfl,_,rfl,_,_,_,_,rfl,rfl,rfl,⟨rfl,by rw [Jbj,Qb,J5y];omega⟩,?_⟩
 rw [Jbj]
 refine W0 (f:=λ p:Int×Int=>Us [.int p.1,.int p.2]) (λ p:Int×Int=>Qi (p.1*p.2)) (λ p hp m K hK=>⟨rfl,rfl,Bt ⟨Y1 (up (M.bw _ (J1o hp).1)) (big (sd.nn _ (J1o hp).2) (sd.bd _ (J1o hp).2)),hK⟩⟩) ?_
 refine ⟨(wt.zip nums).map λ p=>p.1*p.2,by rw [Q0];rfl,rfl,?_⟩
 rw [Jp1 wt nums (by omega)]
 refine ⟨[.d (J2 R U ws),.d (Yl room nums),.d (Jn k),.d (Je3 m d wt ht u cs e),.d (.str "most"),.d (.int m),.d (.int d),.d (Ji8 wt ht),.d (.int u),.d (.tuple (cs.map .int)),.d (.int e),.own ((Z5 R room ws).map Jn),.d (.int (Jdv wt ht room nums))],.eq rfl,?_⟩
 refine ⟨Y1 (Jm9 M) (up M.d1.2),Y1 (up M.n0.2) (up M.u1.2),?_⟩
 refine Jhw (Vc (by rw [decide_eq_true M.wo];rfl) ⟨_,.refl,?_⟩)
 refine ⟨R,U,ws,room,nums,Z5 R room ws,k,m,d,wt,ht,u,cs,e,rfl,ok,sd,M,We ⟨_,.refl,?_⟩⟩
 have ck:cs.getD k 0∈cs:=by rw [Qd,Qg (by omega)];exact Q8 _
 have ak:atI (cs.map Qi) ((k:Nat):Int)=some (.int (cs.getD k 0)):=Yc (by omega) (by rw [Qy];exact Vw (by omega))
 have q':=q
 rw [<- decide_eq_true M.fk] at q'
 exact ⟨_,ak,Y1 (up (M.bF _ ck)) (up M.d1.2),Y1 (up M.n0.2) (up M.e1.2),Jgi q'⟩
theorem B7:FnScope ["_law_book_here","_law_stand_here","_law_k","_law_answer","_law_some","_law_total","_law_gain_here"] ["_law_book_here","_law_stand_here","_law_k","_law_answer"] (Je Jc4):=⟨rfl,rfl,rfl,by decide +kernel,rfl,by decide +kernel,by decide +kernel⟩
theorem Jlr (T:Txt mg) (D:Def K mg "_law_right" Jc4 ["_law_book_here","_law_stand_here","_law_k","_law_answer"]) (Gs:Cal P w K mg base "_law_ways_met" 2 ["_law_book_here","_law_room"] (Y8 Be)) (Ma:Cal P w K mg base "_law_most_right" 4 ["_law_book_here","_law_stand_here","_law_k","_law_answer"] (Jm Ja2)) (Mb:Cal P w K mg base "_law_round_gain" 3 ["_law_book_here","_law_counts"] (Jm Jiu)) (Gr:Cal P w K mg base "_law_within" 1 ["_law_counts","_law_some"] (Jm Jbl)):Cal P w K mg base "_law_right" 5 ["_law_book_here","_law_stand_here","_law_k","_law_answer"] (Jm Jdi):=by
 refine D.cal λ f fd F=>F.ok B7 (Yb ?_) (λ cdv A outer s H vs Q E hr h=>?_)
 . rintro as n P ⟨R,U,ws,room,nums,k,ans,rfl,_⟩
   rfl
 refine ⟨_,(@Ja _ _ _ _ _ (Y5 (PW.pt (V2 (Wo (Z2 (Jw Bp rfl T.b_isinstance J83 (Jb (pv 3) (Jb (Jao rfl T.b_tuple J8x (v:=.ty "tuple") rfl) Jc))))) (V2 (Jy B0 (Jw J1 rfl T.b_len Xm (Jb (pv 3) Jc)) Jd (J4 _)) (B8 (Wo (Z2 (Jw Bp rfl T.b_isinstance J83 (J9 (Ji Jp (pv 3) Jd (λ _ _=>rfl)) (Jb (Jao rfl T.b_str boot_str (v:=.ty "str") rfl) Jc))))))))) (@Jf _ _ _ (@Ju _ _ _ _ V1)) Ya)
  (@Ja _ _ _ _ _ (J5 (i:=4) B7.nd rfl (Qa rfl) (Yw Gs (hr.mono (by decide)) rfl (Jb (pv 0) (J9 (Ji Jp (pv 1) Jd (λ _ _=>rfl)) Jc))))
  (@Ja _ _ _ _ _ (Y5 (Jy Jbs (pv 2) (pv 4) (by with_unfolding_all rfl)) (@Ja _ _ _ _ _ (@B2 _ _ 5 _ _ _ _ B7.nd rfl (Qa rfl) (Yq (Wc (J3 (Jo Jbu (@PEs.out _ _ _ (Yq (Jl Jz Jr))) (Ji Jp (pv 0) Jd (λ _ _=>rfl)))) (Wc (J3 (Jo Jbu (@PEs.out _ _ _ (Yq (Jl Jz Jr))) (Ji Jp (pv 0) Jd (λ _ _=>rfl)))) Jr))) rfl (Qa rfl))
  (@Jf _ _ _ (@Ju _ _ _ _ (Wj Jbc (Jw (Jjt hr.gd hr.units) rfl T.b_repr boot_repr (Jb (pv 3) Jc)) (Jw (Jjt hr.gd hr.units) rfl T.b_repr boot_repr (Jch (@PEs.out _ _ _ (Yq (Jl Jgz (Jl Jz (Jl Jz (Zd (J3 (pv 5)) (Jl Jz (Wc (J3 (Jo Jbu (@PEs.out _ _ _ (Yq (Jl Jz Jr))) (Jw J1 rfl T.b_len Xm (J9 (Ji Jp (pv 0) Jd (λ _ _=>rfl)) Jc)))) (Jl Jz Jr))))))))) Jc)) (J4 _))))) Ya)
  (@Ja _ _ _ _ _ (Y5 (Jy Jbc (Ji Jp (pv 3) Jd (λ _ _=>rfl)) Jnl (J4 _)) (@Jf _ _ _ (@Ju _ _ _ _ (Jfc (Wj Jbc (Jw J1 rfl T.b_len Xm (Jb (pv 3) Jc)) Jd (J4 _)) (Jce (Yw Ma (hr.mono (by decide)) rfl (Jb (pv 0) (Jb (pv 1) (Jb (pv 2) (Jb (pv 3) Jc))))))))) Ya)
  (@Ja _ _ _ _ _ (Y5 (PW.pt (V2 (Jy Jf7 (Ji Jp (pv 3) Jd (λ _ _=>rfl)) Jnl (J4 _)) (B8 (Jy Jf7 (Jw J1 rfl T.b_len Xm (Jb (pv 3) Jc)) Jd (J4 _))))) (@Jf _ _ _ (@Ju _ _ _ _ V1)) Ya)
  (@Ja _ _ _ _ _ (J5 (i:=6) B7.nd rfl (Qa rfl) (Yw Mb (hr.mono (by decide)) rfl (Jb (pv 0) (J9 (Ji Jp (pv 3) Jd (λ _ _=>rfl)) Jc))))
  (@Ja _ _ _ _ _ (Y5 (PW.pt (V2 (Jy Jhd (pv 6) Br (J4 _)) (V2 (Jy B0 (Jw (Jjs rfl) rfl T.b_min J9g (Jb (pv 6) Jc)) Jd (J4 _)) (B8 (Jy B0 (Ji Jp (Ji Jp (pv 3) Jd (λ _ _=>rfl)) (pv 2) (λ _ _=>rfl)) Jd (J4 _)))))) (@Jf _ _ _ (@Ju _ _ _ _ V1)) Ya)
  (@Jf _ _ _ (@Ju _ _ _ _ (Yw Gr (hr.mono (by decide)) rfl (J9 (Ji Jp (pv 3) Jd (λ _ _=>rfl)) (Jb (pv 4) Jc)))))))))))),J8 h ?_⟩
 rintro as n P ⟨R,U,ws,room,nums,k,ans,rfl,ok,sd,kl,hd,q⟩
 have hs:sizeLine=16777216:=J8p
 have wl:=ok.len
 have r0:=ok.r0
 have r1:=ok.r1
 have p0:=ok.p0
 have p1:=ok.p1
 have a0:=sd.a0
 have a1:=sd.a1
 have one:(1:Nat)<=sizeLine:=by rw [hs];decide
 rcases hd with ⟨hk,rfl⟩ | ⟨hk,⟨m,d,wt,ht,u,cs,e,M,rfl⟩ | ⟨cs,rk,ck,rfl⟩⟩
 . have two:(2:Nat)<=sizeLine:=by rw [hs];decide
   have seven:(7:Nat)<=sizeLine:=by rw [hs];decide
   have wm:(ws.map Ym).length=ws.length:=Qb _
   have zs:=Jvx ok
   refine ⟨rfl,rfl,We (Vc (show decide ((7:Int)<2)=false from rfl) ⟨_,rfl,rfl,We ⟨_,.refl,_,rfl,R,U,ws,room,rfl,ok,⟨a0,a1⟩,?_⟩⟩)⟩
   refine ⟨[.d (J2 R U ws),.d (Yl room nums),.d (Jn k),.d (Jj9 R U ws),.own ((Z5 R room ws).map Jn),.jnk,.jnk],.eq rfl,rfl,Jdj,?_⟩
   show if (!inD (Jn k) ((Z5 R room ws).map Jn))=true then _ else _
   rw [Jha,decide_eq_false hk]
   refine Bt ⟨one,_,rfl,⟨by simp,by omega,by show 1*U<=_;omega,one,_,rfl,⟨by simp,by omega,by show 1*R<=_;omega,two,?_⟩⟩⟩
   rw [Jaj,Jaj]
   refine ⟨[.d (J2 R U ws),.d (Yl room nums),.d (Jn k),.d (Jj9 R U ws),.own ((Z5 R room ws).map Jn),.d (Ji8 (Qp U.toNat 0) (Qp R.toNat 0)),.jnk],.eq rfl,?_⟩
   refine ⟨zs,one,_,rfl,⟨by simp,by omega,by show (1:Int)*(((ws.map Ym).length:Nat):Int)<=_;omega,seven,?_⟩⟩
   rw [Jaj,wm]
   refine ⟨zs,?_⟩
   exact Jz5 q
 . refine ⟨rfl,rfl,We (Vc (show decide ((7:Int)<2)=false from rfl) ⟨_,rfl,rfl,We ⟨_,.refl,_,rfl,R,U,ws,room,rfl,ok,⟨a0,a1⟩,?_⟩⟩)⟩
   refine ⟨[.d (J2 R U ws),.d (Yl room nums),.d (Jn k),.d (Je3 m d wt ht u cs e),.own ((Z5 R room ws).map Jn),.jnk,.jnk],.eq rfl,rfl,Jdj,?_⟩
   show if (!inD (Jn k) ((Z5 R room ws).map Jn))=true then _ else _
   rw [Jha,decide_eq_true hk]
   refine We ⟨_,.refl,_,rfl,Jsl (Jjw (decide_eq_true rfl) ?_)⟩
   exact Jgi (Bt ⟨R,U,ws,room,nums,k,m,d,wt,ht,u,cs,e,rfl,ok,sd,kl,hk,M,q⟩)
 . refine ⟨rfl,rfl,We (Vc (show decide ((2:Int)<2)=false from rfl) ⟨_,rfl,rfl,We ⟨_,.refl,_,rfl,R,U,ws,room,rfl,ok,⟨a0,a1⟩,?_⟩⟩)⟩
   refine ⟨[.d (J2 R U ws),.d (Yl room nums),.d (Jn k),.d (Jt3 cs),.own ((Z5 R room ws).map Jn),.jnk,.jnk],.eq rfl,rfl,Jdj,?_⟩
   show if (!inD (Jn k) ((Z5 R room ws).map Jn))=true then _ else _
   rw [Jha,decide_eq_true hk]
   refine We ⟨_,.refl,_,rfl,Jsl (Vc (by decide +kernel) ⟨_,.refl,_,rfl,Jya (Vc (by decide +kernel) ?_)⟩)⟩
   have cl:=rk.ro.len
   have ak:atI (cs.map Qi) ((k:Nat):Int)=some (.int (cs.getD k 0)):=Yc (by omega) (by rw [Qy];exact Vw (by omega))
   refine Jhw (Vc rfl ⟨_,.refl,_,rfl,R,U,ws,cs,rfl,ok,rk.b,⟨_,.refl,?_⟩⟩)
   refine ⟨rfl,We ⟨rgI ws cs U,rfl,?_,λ m hm _=>Vc (decide_eq_false ?_) ?_⟩⟩
   . intro e
     have:=congrArg J2z e
     unfold rgI at this
     rw [Qb,Qw] at this
     simp at this
     omega
   . obtain ⟨p,hp,rfl⟩:=Qo.mp hm
     have:=rk.gn p (by have:=Q5.mp hp;omega)
     omega
   . exact ⟨_,rfl,_,ak,Vc (decide_eq_false (by omega)) ⟨_,.refl,_,rfl,cs,Z5 R room ws,rfl,by omega,rk.sub,q⟩⟩
theorem Jan:FnScope ["_law_script","_law_tape_here","_law_most","_law_book_here","_law_turn","_law_numbers","_law_p","_law_some","_law_stand_here","_law_k","_law_answer"] ["_law_script"] (Je Je5):=⟨rfl,rfl,rfl,by decide +kernel,rfl,by decide +kernel,by decide +kernel⟩
theorem Jyy {f:Addr}{fd:J8t}(T:Txt mg) (F:Fun K "law" "law" Je5 f fd) (Mc:Cal P w K mg base "_law_tape" 1 ["_law_script"] (Jko K)) (Ga:Cal P w K mg base "_law_draw" 1 ["_law_tape_here","_law_many"] (Jm Jdz)) (Md:Cal P w K mg base "_law_book" 5 ["_law_tape_here","_law_most"] (Jm Jku)) (Gu:Cal P w K mg base "how_often" 6 ["book","stand","k"] (Jm Jd4)) (Me:Cal P w K mg base "_law_right" 5 ["_law_book_here","_law_stand_here","_law_k","_law_answer"] (Jm Jdi)):FnOk P w K mg base CX0 14 f fd ["_law_script"] (Jl0 K):=by
 refine F.ok Jan (λ vs H Q E h=>?_) (λ cdv A outer s H vs Q E hr h=>?_)
 . obtain ⟨a,ns,rfl,_⟩:=h
   rfl
 refine ⟨_,(@Ja _ _ _ _ _ (J5 (i:=1) Jan.nd rfl (Qa rfl) (Yw Mc (hr.mono (by decide)) rfl (Jb (pv 0) Jc)))
  (@Ja _ _ _ _ _ (J5 (i:=2) Jan.nd rfl (Qa rfl) (Ji Js (Jo Jfj (Jo Jfj (Jo Jaa (@PEs.out _ _ _ (Ye (Jdb (Yq (Jl Jz (Jl Jz (Jl Jz Jr)))) Jr))) Jd) (Jo Jaa (@PEs.out _ _ _ (Ye (Jdb (Yq (Jl Jz (Jl Jz (Jl Jz Jr)))) Jr))) Jd)) (@PEs.out _ _ _ (Ye (Jdb (Yq (Jl Jz (Jl Jz (Jl Jz Jr)))) Jr)))) (Yw Ga (hr.mono (by decide)) rfl (Jb (pv 1) (Zc Jd Jc))) (λ _ _=>rfl)))
  (@Ja _ _ _ _ _ (J5 (i:=3) Jan.nd rfl (Qa rfl) (Yw Md (hr.mono (by decide)) rfl (Jb (pv 1) (Jb (pv 2) Jc))))
  (@Ja _ _ _ _ _ (Zt Xh rfl (Yr rfl T.b_range (Zc Jd Jc)) (J0 (i:=4) Jan.nd rfl (Qa rfl) (Qa rfl))
  (@Ja _ _ _ _ _ (@B2 _ _ 5 _ _ _ _ Jan.nd rfl (Qa rfl) (Ye Jr) rfl (Qa rfl))
  (@Ja _ _ _ _ _ (Zt Xh rfl (Yr rfl T.b_range (J9 (Ji Jp (pv 3) Jd (λ _ _=>rfl)) Jc)) (J0 (i:=6) Jan.nd rfl (Qa rfl) (Qa rfl))
  (@Ja _ _ _ _ _ (@B2 _ _ 7 _ _ _ _ Jan.nd rfl (Qa rfl) (Ye (Jl Jz (Z4 (J3 (Yw Ga (hr.mono (by decide)) rfl (Jb (pv 1) (Zc Jd Jc)))) (Wc (J3 (Jo Vr (Jo Wl (Jo Jkf Jd Jd) (Jo Jkf Jd Jd)) (Yw Ga (hr.mono (by decide)) rfl (Jb (pv 1) (Wq (Jo Jkf Jd Jd) Jc))))) Jr)))) rfl (Qa rfl))
  (@Jf _ _ _ (Jbp (Jjp J2s J2t J2u Vo (pv 5) (J9 (Ji Js (pv 7) (Yw Ga (hr.mono (by decide)) rfl (Jb (pv 1) (Zc Jd Jc))) (λ _ _=>rfl)) Jc))))))
  (@Ja _ _ _ _ _ (@B2 _ _ 8 _ _ _ _ Jan.nd rfl (Qa rfl) (Yq (Z4 (J3 (Yw Ga (hr.mono (by decide)) rfl (Jb (pv 1) (J9 (Ji Jp (pv 3) Jd (λ _ _=>rfl)) Jc)))) (Z4 (J3 (Yj Yu rfl T.b_tuple J8x (Jb (pv 5) Jc))) Jr))) rfl (Qa rfl))
  (@Jf _ _ _ (Zt Xh rfl (Yr rfl T.b_range (Z0 (Jw J1 rfl T.b_len Xm (J9 (Ji Jp (pv 3) Jd (λ _ _=>rfl)) Jc)) Jc)) (J0 (i:=9) Jan.nd rfl (Qa rfl) (Qa rfl))
  (@Ja _ _ _ _ _ (J5 (i:=10) Jan.nd rfl (Qa rfl) (Yw Gu (hr.mono (by decide)) rfl (Jb (pv 3) (Jb (pv 8) (Jb (pv 9) Jc)))))
  (@Jf _ _ _ (Y5 (Wo (Z2 (Yw Me (hr.mono (by decide)) rfl (Jb (pv 3) (Jb (pv 8) (Jb (pv 9) (Jb (pv 10) Jc))))))) (@Jf _ _ _ (@Ju _ _ _ _ V1)) Ya)))))))))
  (@Jf _ _ _ (@Ju _ _ _ _ V1)))))),Job (by decide) h ?_⟩
 have hs:sizeLine=16777216:=J8p
 show Jxz _ _ Jsi [.jnk,.tape,.jnk,.jnk,.jnk,.jnk,.jnk,.jnk,.jnk,.jnk,.jnk] 0
 refine ⟨Vj,V6 (Q1 rfl),⟨by decide,by decide,by simp;omega⟩,Vj,V6 (Q1 rfl),⟨by decide,by decide,by simp;omega⟩,by rw [hs];exact Q1 rfl,Vj,V6 (Q1 rfl),by rw [hs];exact Q1 rfl,8,rfl,by decide,by decide,by decide +kernel,λ r r0 r1=>?_⟩
 obtain ⟨mr,mu,mw,hm,h1,h2,h3⟩:∃ mr mu mw:Int,atI ((Qp (J5p 5) [Us [.int 4,.int 3,.int 10]]).flatten++(Qp (J5p 2) [Us [.int 4,.int 6,.int 10]]).flatten++[Us [.int 8,.int 6,.int 16]]) r=some (.tuple [.int mr,.int mu,.int mw])/\(1<=mr/\mr<=12)/\(1<=mu/\mu<=6)/\(0<=mw/\mw<=36):=by
  have:r=0\/r=1\/r=2\/r=3\/r=4\/r=5\/r=6\/r=7:=by omega
  rcases this with rfl | rfl | rfl | rfl | rfl | rfl | rfl | rfl<;>exact ⟨_,_,_,rfl,by decide,by decide,by decide⟩
 refine ⟨_,hm,⟨_,.refl,mr,mu,mw,rfl,by decide,h1,h2,h3,λ R U ws m ok _ _ hmm=>⟨_,.refl,?_⟩⟩⟩
 have r0:=ok.r0
 have r1:=ok.r1
 have p0:=ok.p0
 have p1:=ok.p1
 have wl:=ok.len
 have one:(1:Nat)<=sizeLine:=by rw [hs];decide
 have two:(2:Nat)<=sizeLine:=by rw [hs];decide
 have three:(3:Nat)<=sizeLine:=by rw [hs];decide
 refine ⟨3,rfl,⟨by decide,by decide⟩,?_⟩
 refine ⟨λ i env j=>j<=2010+20*i/\∃ a b c d e f g:Vl,env=[.jnk,.tape,.d (.tuple [.int mr,.int mu,.int mw]),.d (J2 R U ws),a,b,c,d,e,f,g],⟨by omega,_,_,_,_,_,_,_,rfl⟩,?_,?_⟩
 rotate_left
 . rintro env j ⟨_,a,b,c,d,e,f,g,rfl⟩
   exact ⟨_,.refl,rfl⟩
 rintro i x env j hx ⟨hj,a,b,c,d,e,f,g,rfl⟩
 obtain ⟨hi,rfl⟩:=Jay hx
 have hi3:i<3:=hi
 refine ⟨Xu _,[.jnk,.tape,.d (.tuple [.int mr,.int mu,.int mw]),.d (J2 R U ws),.d (.int i),.own (([]:List Int).map .int),c,d,e,f,g],.eq rfl,?_⟩
 refine Jsj (λ env k=>k<=j+18/\∃ (xs:List Int) (a b:Vl),(xs.length:Int)=U/\(∀ x∈xs,0<=x/\x<=10^99)/\env=[.jnk,.tape,.d (.tuple [.int mr,.int mu,.int mw]),.d (J2 R U ws),.d (.int i),.own (xs.map .int),a,b,e,f,g]) (λ N hN=>?_) ?_
 . refine ⟨_,rfl,U,rfl,⟨by omega,by omega⟩,?_⟩
   refine ⟨λ p env k=>k<=j+3*p/\∃ (xs:List Int) (a b:Vl),xs.length=p/\(∀ x∈xs,0<=x/\x<=10^99)/\env=[.jnk,.tape,.d (.tuple [.int mr,.int mu,.int mw]),.d (J2 R U ws),.d (.int i),.own (xs.map .int),a,b,e,f,g],⟨by omega,[],c,d,rfl,(λ x hx=>by cases hx),rfl⟩,?_,?_⟩
   . rintro p x env k hx ⟨hk,xs,a',b',xl,xb,rfl⟩
     obtain ⟨hp,rfl⟩:=Jay hx
     refine ⟨10,rfl,by omega,by decide,by decide +kernel,λ r1 a0 a1=>?_⟩
     refine ⟨⟨by decide,by decide,by decide⟩,⟨by decide,by decide,by decide⟩,by unfold J9k;decide +kernel,⟨by decide,by decide,by decide⟩,_,rfl,by omega,by decide,by decide +kernel,λ r2 b0 b1=>?_⟩
     have e1:(10:Int)^(63:Int).toNat*10^(36:Int).toNat=10^99:=by decide +kernel
     have e2:(10:Int)^(40:Int).toNat=10^40:=rfl
     rw [e1]
     rw [e2] at b1
     have e3:(10:Int)^40<=10^99:=by decide
     refine ⟨three,[.jnk,.tape,.d (.tuple [.int mr,.int mu,.int mw]),.d (J2 R U ws),.d (.int i),.own (xs.map .int),.d (.int p),.own [.int 0,.int r1,.int (10^99-r2)],e,f,g],.eq rfl,?_⟩
     have put:∀ y:Int,0<=y->y<=10^99->∀ x∈xs++[y],0<=x/\x<=10^99:=λ y h0 h1 x hx=>by
      rcases Xk.mp hx with hx | hx
      . exact xb x hx
      . rw [Qu.mp hx];exact ⟨h0,h1⟩
     refine ⟨3,rfl,by omega,by decide,by decide +kernel,λ r3 c0 c1=>?_⟩
     obtain ⟨y,hy,y0,y1⟩:∃ y:Int,atI [Qi 0,.int r1,.int (10^99-r2)] r3=some (.int y)/\0<=y/\y<=10^99:=by
      have:r3=0\/r3=1\/r3=2:=by omega
      rcases this with rfl | rfl | rfl
      . exact ⟨0,rfl,by decide,by decide⟩
      . exact ⟨r1,rfl,a0,by omega⟩
      . exact ⟨10^99-r2,rfl,by omega,by omega⟩
     refine ⟨_,hy,by rw [Qb];omega,by omega,xs++[y],.d (.int p),.own [.int 0,.int r1,.int (10^99-r2)],?_,put y y0 y1,?_⟩
     . rw [Xp,J1y,xl]
     . rw [Xg];rfl
   . rintro env k ⟨hk,xs,a',b',xl,xb,rfl⟩
     rw [Yn] at *
     exact hN _ _ ⟨by omega,xs,a',b',by omega,xb,rfl⟩
 rintro _ k ⟨hk,xs,a',b',xl,xb,rfl⟩
 have sd0:∀ room:Int,0<=room->room<R->SdOk R U room xs:=λ room h0 h1=>⟨h0,h1,xl,λ x hx=>(xb x hx).1,λ x hx=>(xb x hx).2⟩
 refine ⟨_,.refl,_,rfl,R,rfl,by omega,by omega,J6t r1 (by decide +kernel),λ room a0 a1=>?_⟩
 have sd:=sd0 room a0 a1
 refine ⟨two,[.jnk,.tape,.d (.tuple [.int mr,.int mu,.int mw]),.d (J2 R U ws),.d (.int i),.own (xs.map .int),a',b',.d (Yl room xs),f,g],.eq rfl,_,rfl,_,rfl,⟨by omega,by rw [Qb];omega⟩,?_⟩
 refine ⟨λ i2 env j2=>j2=k+1/\∃ x y:Vl,env=[.jnk,.tape,.d (.tuple [.int mr,.int mu,.int mw]),.d (J2 R U ws),.d (.int i),.own (xs.map .int),a',b',.d (Yl room xs),x,y],⟨rfl,f,g,rfl⟩,?_,?_⟩
 rotate_left
 . rintro env j2 ⟨rfl,x,y,rfl⟩
   exact ⟨by omega,_,_,_,_,_,_,_,rfl⟩
 rintro i2 x env j2 hx ⟨rfl,x',y',rfl⟩
 rw [Qb] at hx
 obtain ⟨hk2,rfl⟩:=Jay hx
 have hk3:i2<ws.length:=by omega
 refine ⟨R,U,ws,room,xs,i2,rfl,ok,sd,hk3,λ hn=>?_,λ hm=>⟨λ m d wt ht u F e M=>?_,λ cs rk ck=>?_⟩⟩
 . exact ⟨_,.refl,R,U,ws,room,xs,i2,_,rfl,ok,sd,hk3,.inl ⟨hn,rfl⟩,We ⟨rfl,_,_,rfl⟩⟩
 . exact ⟨_,.refl,R,U,ws,room,xs,i2,_,rfl,ok,sd,hk3,.inr ⟨hm,.inl ⟨m,d,wt,ht,u,F,e,M,rfl⟩⟩,We ⟨rfl,_,_,rfl⟩⟩
 . exact ⟨_,.refl,R,U,ws,room,xs,i2,_,rfl,ok,sd,hk3,.inr ⟨hm,.inr ⟨cs,rk,ck,rfl⟩⟩,We ⟨rfl,_,_,rfl⟩⟩
end
theorem all_mk {l:J4x}{w:J8m}{K:Qc}{h:Heap}{mg:Str->Option J8i}{fa f4:Addr}(X:K.In h) (G:h.Ns J8v mg) (hfa:mg "law" = some (.ref fa)) (T:Txt mg)
 {C_Table:Addr} (Y_Table:TableOk K C_Table) (Mf:Def K mg "_law_tape" Jd6 ["_law_script"]) (Mg:Def K mg "_law_draw" Jd7 ["_law_tape_here","_law_many"]) (Mh:Def K mg "_law_gain" Jd8 ["_law_tape_here"]) (Mi:Def K mg "_law_gains" Ja3 ["_law_tape_here","_law_purses"]) (Mj:Def K mg "_law_nested" B3 ["_law_tape_here","_law_rooms","_law_purses"]) (Ml:Def K mg "_law_book" Jb7 ["_law_tape_here","_law_most"]) (Mm:Def K mg "is_whole" Jd5 ["thing"]) (Mn:Def K mg "is_between" Jb5 ["thing","least","most"]) (Mo:Def K mg "has_way" Jfy ["book","k"]) (Mp:Def K mg "rooms_reached" Zm ["book","some"]) (Mq:Def K mg "common_divisor" Bf ["numbers"]) (Mr:Def K mg "without_divisor" Wm ["numbers"]) (Ms:Def K mg "first_numbers" Vf ["book","stand"]) (D_Table__init:L2.DefI2 K mg "Table" C_Table "Table.__init__" Zg ["self","book","some","stand"]) (D_Table__without:L2.DefM K C_Table "without" "Table.without" W2 ["self","other","row","place"]) (D_Table__exchange:L2.DefM K C_Table "exchange" "Table.exchange" Wn ["self","at","place"]) (D_Table__rises:L2.DefM K C_Table "rises" "Table.rises" Wt ["self","wanted"]) (D_Table__place_to_raise:L2.DefM K C_Table "place_to_raise" "Table.place_to_raise" Y9 ["self","wanted"]) (D_Table__comes_first:L2.DefM K C_Table "comes_first" "Table.comes_first" Wu ["self","at","other","place"]) (D_Table__row_to_free:L2.DefM K C_Table "row_to_free" "Table.row_to_free" Wv ["self","place"]) (D_Table__counts_by:L2.DefM K C_Table "counts_by" "Table.counts_by" Vm ["self","place"]) (D_Table__find_round:L2.DefM K C_Table "find_round" "Table.find_round" W7 ["self","wanted"]) (D_Table__shares:L2.DefM K C_Table "shares" "Table.shares" Bx ["self","wanted"]) (D_Table__as_sum:L2.DefM K C_Table "as_sum" "Table.as_sum" By ["self","shares"]) (D_Table__counts_now:L2.DefM K C_Table "counts_now" "Table.counts_now" W8 ["self"]) (Mt:Def K mg "ways_met" Jb6 ["book","room"]) (Mu:Def K mg "not_met" Jfz ["book"]) (Mv:Def K mg "read_most" Jc1 ["table","k"]) (Mw:Def K mg "how_often" Jc2 ["book","stand","k"]) (Mx:Def K mg "_law_met" Jf0 ["_law_book_here","_law_some","_law_room"]) (Mz:Def K mg "_law_whole" Jc3 ["_law_thing"]) (M0:Def K mg "_law_are_whole" Vg ["_law_thing","_law_many"]) (M1:Def K mg "_law_is_sum" B4 ["_law_book_here","_law_thing"]) (M2:Def K mg "_law_fall" Jd9 ["_law_book_here","_law_total","_law_k"]) (M3:Def K mg "_law_kept" Jb8 ["_law_book_here","_law_total","_law_some"]) (M4:Def K mg "_law_round_gain" Bg ["_law_book_here","_law_counts"]) (M5:Def K mg "_law_within" B5 ["_law_counts","_law_some"]) (M6:Def K mg "_law_ways_met" Vx ["_law_book_here","_law_room"]) (M7:Def K mg "_law_flow_right" W3 ["_law_book_here","_law_stand_here","_law_some","_law_flow","_law_e"]) (M8:Def K mg "_law_common" Jb9 ["_law_one","_law_other"]) (M9:Def K mg "_law_most_right" W4 ["_law_book_here","_law_stand_here","_law_k","_law_answer"]) (Ta:Def K mg "_law_right" Jc4 ["_law_book_here","_law_stand_here","_law_k","_law_answer"])
 {od4 an4:Option Addr} {sl4:Array (Option J8i)} {oc4 kV4 dc4 pm4 cd4 ct4:J8i} (a4:J46 K J8v "law" = some (some (.ref f4)))
 (l4:K.lookup f4=some ⟨oc4,od4,.func (X0 "law" "law" (Wk Je5) (Zz Je5) (Je Je5) .none kV4 dc4 pm4 an4 cd4 ct4),sl4⟩) (c4:J1q K cd4 "law" = true) (k4:Uf K (.ref f4)=true) :
 ∃ fd:J8t,(∀ (s:J8k) (v:J8i),J9a s fd ⟨[v],[]⟩ [("_law_script",v)])/\∀ base:Heap,K.In base->base.Ns J8v mg->FnOk l.prog w K mg base CX0 14 fa fd ["_law_script"] (Jl0 K):=by
 have e:=hfa.symm.trans (J47 X G a4)
 cases e
 have F4:=Jhi (st:=Je5) l4 c4 k4
 refine ⟨X0 "law" "law" (Wk Je5) (Zz Je5) (Je Je5) .none kV4 dc4 pm4 an4 cd4 ct4,λ s v=>.of_eq rfl,λ base _ _=>?_⟩
 have Tc:Cal l.prog w K mg base "_law_tape" 1 ["_law_script"] (Jko K):=Jnb T Mf
 have Td:Cal l.prog w K mg base "_law_draw" 1 ["_law_tape_here","_law_many"] Jn5:=Jnc T Mg
 have Ge:Cal l.prog w K mg base "_law_draw" 1 ["_law_tape_here","_law_many"] (Jm Jdz):=Td.imp Jsk
 have Te:Cal l.prog w K mg base "_law_gain" 2 ["_law_tape_here"] (Jm Je0):=Jnd T Mh Ge
 have Gx:Cal l.prog w K mg base "_law_gains" 3 ["_law_tape_here","_law_purses"] (Jm Jdg):=Jlm T Mi Te
 have Tf:Cal l.prog w K mg base "_law_nested" 4 ["_law_tape_here","_law_rooms","_law_purses"] (Y8 Jd3):=Jjc T Mj Gx Ge
 have Tg:Cal l.prog w K mg base "_law_book" 5 ["_law_tape_here","_law_most"] (Jm Jku):=Jne T Ml Ge Tf Gx
 have Gg:Cal l.prog w K mg base "is_whole" 1 ["thing"] (Jm Jax):=Jng T Mm
 have Gh:Cal l.prog w K mg base "is_between" 2 ["thing","least","most"] (Jm Jfp):=Jje T Mn Gg
 have Gm:Cal l.prog w K mg base "has_way" 3 ["book","k"] (Jm Jhx):=Jo2 T Mo Gh
 have Gk:Cal l.prog w K mg base "rooms_reached" 1 ["book","some"] (Jm Jk1):=Jf1 T Mp
 have Gi:Cal l.prog w K mg base "common_divisor" 1 ["numbers"] (Jm Jeu):=Je6 T Mq
 have Gb:Cal l.prog w K mg base "without_divisor" 2 ["numbers"] (Y8 Jg3):=Jea T Mr Gi
 have Gj:Cal l.prog w K mg base "first_numbers" 1 ["book","stand"] (Y8 Jiz):=Jf4 T Ms
 have c_Table__init:Jmw l.prog w K mg base "Table" C_Table 2 ["self","book","some","stand"] (Jlk C_Table):=Ji0 T Y_Table D_Table__init Gj
 have c_Table__without:Wh l.prog w K mg base C_Table "without" 1 ["self","other","row","place"] (Y8 (Jog C_Table)):=Je7 T Y_Table D_Table__without
 have c_Table__exchange:Wh l.prog w K mg base C_Table "exchange" 2 ["self","at","place"] (Jym C_Table):=Jeb T Y_Table D_Table__exchange c_Table__without
 have c_Table__rises:Wh l.prog w K mg base C_Table "rises" 1 ["self","wanted"] (Y8 (Jg5 C_Table)):=Jgt T Y_Table D_Table__rises
 have c_Table__place_to_raise:Wh l.prog w K mg base C_Table "place_to_raise" 2 ["self","wanted"] (Jm (Jdf C_Table)):=Jbb T Y_Table D_Table__place_to_raise c_Table__rises
 have c_Table__comes_first:Wh l.prog w K mg base C_Table "comes_first" 1 ["self","at","other","place"] (Jm (Jla C_Table)):=Jcb T Y_Table D_Table__comes_first
 have c_Table__row_to_free:Wh l.prog w K mg base C_Table "row_to_free" 2 ["self","place"] (Jm (Jft C_Table)):=Jcc T Y_Table D_Table__row_to_free c_Table__comes_first
 have c_Table__counts_by:Wh l.prog w K mg base C_Table "counts_by" 3 ["self","place"] (Jm (Jev C_Table)):=Jdm T Y_Table D_Table__counts_by Gb
 have c_Table__find_round:Wh l.prog w K mg base C_Table "find_round" 4 ["self","wanted"] (Jg9 C_Table):=Jc6 T Y_Table D_Table__find_round c_Table__place_to_raise c_Table__row_to_free c_Table__counts_by c_Table__exchange
 have c_Table__shares:Wh l.prog w K mg base C_Table "shares" 2 ["self","wanted"] (Y8 (Jim C_Table)):=Jf3 T Y_Table D_Table__shares c_Table__rises
 have c_Table__as_sum:Wh l.prog w K mg base C_Table "as_sum" 1 ["self","shares"] (Jm (Jlb C_Table)):=Jf2 T Y_Table D_Table__as_sum
 have c_Table__counts_now:Wh l.prog w K mg base C_Table "counts_now" 1 ["self"] (Y8 (Jt2 C_Table)):=Jc7 T Y_Table D_Table__counts_now
 have Gn:Cal l.prog w K mg base "ways_met" 2 ["book","room"] (Y8 Be):=Jnh T Mt Gk
 have Go:Cal l.prog w K mg base "not_met" 1 ["book"] (Jm Jiy):=Jo3 T Mu
 have Gp:Cal l.prog w K mg base "read_most" 4 ["table","k"] (Jm (Jb4 C_Table)):=Jln T Y_Table Mv c_Table__counts_now Gb c_Table__shares c_Table__as_sum
 have Gu:Cal l.prog w K mg base "how_often" 6 ["book","stand","k"] (Jm Jd4):=Jlo T Y_Table Mw Gm Gn Go c_Table__init c_Table__find_round Gp
 have Th:Cal l.prog w K mg base "_law_met" 1 ["_law_book_here","_law_some","_law_room"] (Jm Jsu):=Jo0 T Mx
 have Gv:Cal l.prog w K mg base "_law_whole" 1 ["_law_thing"] (Jm Jax):=Jlq T Mz
 have Gw:Cal l.prog w K mg base "_law_are_whole" 2 ["_law_thing","_law_many"] (Jm Jfw):=Jf6 T M0 Gv
 have Ti:Cal l.prog w K mg base "_law_is_sum" 3 ["_law_book_here","_law_thing"] (Jm Je1):=Jjg T M1 Gw
 have Gy:Cal l.prog w K mg base "_law_fall" 1 ["_law_book_here","_law_total","_law_k"] (Jm Je2):=Jni T M2
 have Tj:Cal l.prog w K mg base "_law_kept" 2 ["_law_book_here","_law_total","_law_some"] (Jm Jg8):=Jnk T M3 Gy
 have Tk:Cal l.prog w K mg base "_law_round_gain" 3 ["_law_book_here","_law_counts"] (Jm Jiu):=Je8 T M4 Gw
 have Gz:Cal l.prog w K mg base "_law_within" 1 ["_law_counts","_law_some"] (Jm Jbl):=Jji T M5
 have G0:Cal l.prog w K mg base "_law_ways_met" 2 ["_law_book_here","_law_room"] (Y8 Be):=Jgu T M6 Th
 have Tl:Cal l.prog w K mg base "_law_flow_right" 3 ["_law_book_here","_law_stand_here","_law_some","_law_flow","_law_e"] (Jm Ja1):=Je9 T M7 Gw Gv Gz
 have Tm:Cal l.prog w K mg base "_law_common" 1 ["_law_one","_law_other"] (Jm Jdh):=Jjj T M8
 have Tn:Cal l.prog w K mg base "_law_most_right" 4 ["_law_book_here","_law_stand_here","_law_k","_law_answer"] (Jm Ja2):=Jfa T M9 G0 Gv Tm Ti Tj Gy Tl
 have To:Cal l.prog w K mg base "_law_right" 5 ["_law_book_here","_law_stand_here","_law_k","_law_answer"] (Jm Jdi):=Jlr T Ta G0 Tn Tk Gz
 exact Jyy T F4 Tc Ge Tg Gu To
theorem walk {l:J4x}{q:J8n}{loose:List Str}{XP:(Str->Option J8i)->Heap->Prop}{YP:J8m->Heap->Prop}{d:DefRec}{K:Params->Qc}(hn:l.most=some 63) (hdf:d.params.defaults=[])
 (hY:∀ (w:J8m) (h:Heap),YP w h->(K w.params).In h)
 (F:∀ (w:J8m) (mg:Str->Option J8i) (fa:Addr) (h:Heap),(K w.params).In h->h.Ns J8v mg->mg d.name=some (.ref fa) ->
  ∃ fd:J8t,(∀ (s:J8k) (u:J8i),J9a s fd ⟨[u],[]⟩ [("_law_script",u)])/\∀ base:Heap,(K w.params).In base->base.Ns J8v mg->FnOk l.prog w (K w.params) mg base CX0 14 fa fd ["_law_script"] (Jl0 (K w.params))) :
 J6p q loose XP YP l.row.toRowW d [] (λ f vs=>J4w f vs):=
 L2.walk_of (n:=63) (k:=14) (x:="_law_script") (CX:=λ _=>CX0) (sp:=λ w=>Jl0 (K w.params)) hn (by decide) hdf ⟨rfl,by decide,by decide,rfl⟩ hY F (λ _ _ a ns hl _ hS=>⟨a,ns,rfl,hS,hl,λ _=>rfl⟩) λ _ _ _ _ _ z=>z
end My
end
theorem PySem.W.Fast.tw5241889059546689345 : True := trivial
theorem PySem.W.Fast.tw2781534861196038904 : True := trivial
theorem PySem.W.Fast.tw5156941460956216779 : True := trivial
theorem PySem.W.Fast.tw2256147575626419832 : True := trivial
theorem PySem.W.Fast.tw11789424973870855390 : True := trivial
theorem PySem.W.Fast.tw12197397214343101983 : True := trivial
theorem PySem.W.Fast.tw1246886357235383490 : True := trivial
theorem PySem.W.Fast.tw5056339723695517754 : True := trivial
theorem PySem.W.Fast.tw8033836253680333046 : True := trivial
theorem PySem.W.Fast.tw10014159112072276217 : True := trivial
theorem PySem.W.Fast.tw11966892433434693802 : True := trivial
theorem PySem.W.Fast.tw17673544949389914063 : True := trivial
theorem PySem.W.Fast.tw8463238546314301448 : True := trivial
theorem PySem.W.Fast.tw15658951547606768394 : True := trivial
theorem PySem.W.Fast.tw15388053381682036221 : True := trivial
theorem PySem.W.Fast.tw13413540650427375629 : True := trivial
theorem PySem.W.Fast.tw10600355580130649030 : True := trivial
theorem PySem.W.Fast.tw17199096767652385343 : True := trivial
theorem PySem.W.Fast.tw14977030193656061416 : True := trivial
theorem PySem.W.Fast.tw10067771607309125181 : True := trivial
theorem PySem.W.Fast.tw15919500771325664601 : True := trivial
theorem PySem.W.Fast.tw15733733785414590418 : True := trivial
theorem PySem.W.Fast.tw6034820838116341813 : True := trivial
theorem PySem.W.Fast.tw1486782197674465335 : True := trivial
theorem PySem.W.Fast.tw14983672063875021848 : True := trivial
theorem PySem.W.Fast.tw16274362585026181610 : True := trivial
theorem PySem.W.Fast.tw2474345779204637592 : True := trivial
theorem PySem.W.Fast.tw418802783320290990 : True := trivial
theorem PySem.W.Fast.tw18175316157490099067 : True := trivial
theorem PySem.W.Fast.tw8859721102724579299 : True := trivial
theorem PySem.W.Fast.tw6069239819301023679 : True := trivial
theorem PySem.W.Fast.tw15997058036904706532 : True := trivial
theorem PySem.W.Fast.tw16517604491580186802 : True := trivial
theorem PySem.W.Fast.tw8276829765435749127 : True := trivial
theorem PySem.W.Fast.tw2998944163357464759 : True := trivial
open PySem PySem.W PyProof.Rows
set_option maxRecDepth 100000 in
set_option maxHeartbeats 0 in
theorem PySem.Challenge.cw_fallsum_k50_how_often_holds : PySem.Challenge.rw_fallsum_k50_how_often.Holds := by
  w_on; o_law; k_head; (case hw => w_witness2)
  k_fill
  refine My.walk (l := PySem.Challenge.rw_fallsum_k50_how_often) rfl rfl (fun w h Y => PySem.W.kIn_of Y) ?F
  case F =>
    intro w mg fa h KX G hmg
    refine' My.all_mk KX G hmg ⟨PySem.W.mg_none_of KX G ?z_isinstance, PySem.W.mg_none_of KX G ?z_int, PySem.W.mg_none_of KX G ?z_bool, PySem.W.mg_none_of KX G ?z_str, PySem.W.mg_none_of KX G ?z_tuple, PySem.W.mg_none_of KX G ?z_len, PySem.W.mg_none_of KX G ?z_all, PySem.W.mg_none_of KX G ?z_sum, PySem.W.mg_none_of KX G ?z_range, PySem.W.mg_none_of KX G ?z_list, PySem.W.mg_none_of KX G ?z_zip, PySem.W.mg_none_of KX G ?z_enumerate, PySem.W.mg_none_of KX G ?z_min, PySem.W.mg_none_of KX G ?z_max, PySem.W.mg_none_of KX G ?z_abs, PySem.W.mg_none_of KX G ?z_repr⟩
      (C_Table := ?C_Table) (⟨⟨?pg_Table, ?hd_Table, ?po_Table, ?sa_Table⟩, ?n0_Table, ?n1_Table, ?n2_Table, ?n3_Table, ?n4_Table, ?n5_Table, ?n6_Table⟩)
      (L2.def_mk KX G ?a_law_tape ?l_law_tape ?c_law_tape ?k_law_tape (fun _ _ _ _ _ _ us hl => match us, hl with | [_], _ => rfl))
      (L2.def_mk KX G ?a_law_draw ?l_law_draw ?c_law_draw ?k_law_draw (fun _ _ _ _ _ _ us hl => match us, hl with | [_, _], _ => rfl))
      (L2.def_mk KX G ?a_law_gain ?l_law_gain ?c_law_gain ?k_law_gain (fun _ _ _ _ _ _ us hl => match us, hl with | [_], _ => rfl))
      (L2.def_mk KX G ?a_law_gains ?l_law_gains ?c_law_gains ?k_law_gains (fun _ _ _ _ _ _ us hl => match us, hl with | [_, _], _ => rfl))
      (L2.def_mk KX G ?a_law_nested ?l_law_nested ?c_law_nested ?k_law_nested (fun _ _ _ _ _ _ us hl => match us, hl with | [_, _, _], _ => rfl))
      (L2.def_mk KX G ?a_law_book ?l_law_book ?c_law_book ?k_law_book (fun _ _ _ _ _ _ us hl => match us, hl with | [_, _], _ => rfl))
      (L2.def_mk KX G ?a_is_whole ?l_is_whole ?c_is_whole ?k_is_whole (fun _ _ _ _ _ _ us hl => match us, hl with | [_], _ => rfl))
      (L2.def_mk KX G ?a_is_between ?l_is_between ?c_is_between ?k_is_between (fun _ _ _ _ _ _ us hl => match us, hl with | [_, _, _], _ => rfl))
      (L2.def_mk KX G ?a_has_way ?l_has_way ?c_has_way ?k_has_way (fun _ _ _ _ _ _ us hl => match us, hl with | [_, _], _ => rfl))
      (L2.def_mk KX G ?a_rooms_reached ?l_rooms_reached ?c_rooms_reached ?k_rooms_reached (fun _ _ _ _ _ _ us hl => match us, hl with | [_, _], _ => rfl))
      (L2.def_mk KX G ?a_common_divisor ?l_common_divisor ?c_common_divisor ?k_common_divisor (fun _ _ _ _ _ _ us hl => match us, hl with | [_], _ => rfl))
      (L2.def_mk KX G ?a_without_divisor ?l_without_divisor ?c_without_divisor ?k_without_divisor (fun _ _ _ _ _ _ us hl => match us, hl with | [_], _ => rfl))
      (L2.def_mk KX G ?a_first_numbers ?l_first_numbers ?c_first_numbers ?k_first_numbers (fun _ _ _ _ _ _ us hl => match us, hl with | [_, _], _ => rfl))
      (L2.defI2_mk KX G ?aC_Table__init ?mk_Table__init ?kc_Table__init ?a_Table__init ?i_Table__init ?l_Table__init ?c_Table__init ?k_Table__init ?t_Table__init (fun _ _ _ _ _ _ _ _ us hl => match us, hl with | [_, _, _], _ => ⟨_, rfl, rfl⟩) (fun _ _ _ _ _ _ _ _ us hl => match us, hl with | [_, _, _, _], _ => ⟨_, rfl, rfl⟩))
      (L2.defM_mk ?a_Table__without ?i_Table__without ?l_Table__without ?c_Table__without ?k_Table__without (fun _ _ _ _ _ _ us hl => match us, hl with | [_, _, _, _], _ => rfl))
      (L2.defM_mk ?a_Table__exchange ?i_Table__exchange ?l_Table__exchange ?c_Table__exchange ?k_Table__exchange (fun _ _ _ _ _ _ us hl => match us, hl with | [_, _, _], _ => rfl))
      (L2.defM_mk ?a_Table__rises ?i_Table__rises ?l_Table__rises ?c_Table__rises ?k_Table__rises (fun _ _ _ _ _ _ us hl => match us, hl with | [_, _], _ => rfl))
      (L2.defM_mk ?a_Table__place_to_raise ?i_Table__place_to_raise ?l_Table__place_to_raise ?c_Table__place_to_raise ?k_Table__place_to_raise (fun _ _ _ _ _ _ us hl => match us, hl with | [_, _], _ => rfl))
      (L2.defM_mk ?a_Table__comes_first ?i_Table__comes_first ?l_Table__comes_first ?c_Table__comes_first ?k_Table__comes_first (fun _ _ _ _ _ _ us hl => match us, hl with | [_, _, _, _], _ => rfl))
      (L2.defM_mk ?a_Table__row_to_free ?i_Table__row_to_free ?l_Table__row_to_free ?c_Table__row_to_free ?k_Table__row_to_free (fun _ _ _ _ _ _ us hl => match us, hl with | [_, _], _ => rfl))
      (L2.defM_mk ?a_Table__counts_by ?i_Table__counts_by ?l_Table__counts_by ?c_Table__counts_by ?k_Table__counts_by (fun _ _ _ _ _ _ us hl => match us, hl with | [_, _], _ => rfl))
      (L2.defM_mk ?a_Table__find_round ?i_Table__find_round ?l_Table__find_round ?c_Table__find_round ?k_Table__find_round (fun _ _ _ _ _ _ us hl => match us, hl with | [_, _], _ => rfl))
      (L2.defM_mk ?a_Table__shares ?i_Table__shares ?l_Table__shares ?c_Table__shares ?k_Table__shares (fun _ _ _ _ _ _ us hl => match us, hl with | [_, _], _ => rfl))
      (L2.defM_mk ?a_Table__as_sum ?i_Table__as_sum ?l_Table__as_sum ?c_Table__as_sum ?k_Table__as_sum (fun _ _ _ _ _ _ us hl => match us, hl with | [_, _], _ => rfl))
      (L2.defM_mk ?a_Table__counts_now ?i_Table__counts_now ?l_Table__counts_now ?c_Table__counts_now ?k_Table__counts_now (fun _ _ _ _ _ _ us hl => match us, hl with | [_], _ => rfl))
      (L2.def_mk KX G ?a_ways_met ?l_ways_met ?c_ways_met ?k_ways_met (fun _ _ _ _ _ _ us hl => match us, hl with | [_, _], _ => rfl))
      (L2.def_mk KX G ?a_not_met ?l_not_met ?c_not_met ?k_not_met (fun _ _ _ _ _ _ us hl => match us, hl with | [_], _ => rfl))
      (L2.def_mk KX G ?a_read_most ?l_read_most ?c_read_most ?k_read_most (fun _ _ _ _ _ _ us hl => match us, hl with | [_, _], _ => rfl))
      (L2.def_mk KX G ?a_how_often ?l_how_often ?c_how_often ?k_how_often (fun _ _ _ _ _ _ us hl => match us, hl with | [_, _, _], _ => rfl))
      (L2.def_mk KX G ?a_law_met ?l_law_met ?c_law_met ?k_law_met (fun _ _ _ _ _ _ us hl => match us, hl with | [_, _, _], _ => rfl))
      (L2.def_mk KX G ?a_law_whole ?l_law_whole ?c_law_whole ?k_law_whole (fun _ _ _ _ _ _ us hl => match us, hl with | [_], _ => rfl))
      (L2.def_mk KX G ?a_law_are_whole ?l_law_are_whole ?c_law_are_whole ?k_law_are_whole (fun _ _ _ _ _ _ us hl => match us, hl with | [_, _], _ => rfl))
      (L2.def_mk KX G ?a_law_is_sum ?l_law_is_sum ?c_law_is_sum ?k_law_is_sum (fun _ _ _ _ _ _ us hl => match us, hl with | [_, _], _ => rfl))
      (L2.def_mk KX G ?a_law_fall ?l_law_fall ?c_law_fall ?k_law_fall (fun _ _ _ _ _ _ us hl => match us, hl with | [_, _, _], _ => rfl))
      (L2.def_mk KX G ?a_law_kept ?l_law_kept ?c_law_kept ?k_law_kept (fun _ _ _ _ _ _ us hl => match us, hl with | [_, _, _], _ => rfl))
      (L2.def_mk KX G ?a_law_round_gain ?l_law_round_gain ?c_law_round_gain ?k_law_round_gain (fun _ _ _ _ _ _ us hl => match us, hl with | [_, _], _ => rfl))
      (L2.def_mk KX G ?a_law_within ?l_law_within ?c_law_within ?k_law_within (fun _ _ _ _ _ _ us hl => match us, hl with | [_, _], _ => rfl))
      (L2.def_mk KX G ?a_law_ways_met ?l_law_ways_met ?c_law_ways_met ?k_law_ways_met (fun _ _ _ _ _ _ us hl => match us, hl with | [_, _], _ => rfl))
      (L2.def_mk KX G ?a_law_flow_right ?l_law_flow_right ?c_law_flow_right ?k_law_flow_right (fun _ _ _ _ _ _ us hl => match us, hl with | [_, _, _, _, _], _ => rfl))
      (L2.def_mk KX G ?a_law_common ?l_law_common ?c_law_common ?k_law_common (fun _ _ _ _ _ _ us hl => match us, hl with | [_, _], _ => rfl))
      (L2.def_mk KX G ?a_law_most_right ?l_law_most_right ?c_law_most_right ?k_law_most_right (fun _ _ _ _ _ _ us hl => match us, hl with | [_, _, _, _], _ => rfl))
      (L2.def_mk KX G ?a_law_right ?l_law_right ?c_law_right ?k_law_right (fun _ _ _ _ _ _ us hl => match us, hl with | [_, _, _, _], _ => rfl))
      ?a4 ?l4 ?c4 ?k4
    (case aC_Table__init => k_is)
    (case z_isinstance => k_is)
    (case z_int => k_is)
    (case z_bool => k_is)
    (case z_str => k_is)
    (case z_tuple => k_is)
    (case z_len => k_is)
    (case z_all => k_is)
    (case z_sum => k_is)
    (case z_range => k_is)
    (case z_list => k_is)
    (case z_zip => k_is)
    (case z_enumerate => k_is)
    (case z_min => k_is)
    (case z_max => k_is)
    (case z_abs => k_is)
    (case z_repr => k_is)
    (case a_law_tape => k_is)
    (case l_law_tape => k_is)
    (case c_law_tape => k_is)
    (case k_law_tape => k_is)
    (case a_law_draw => k_is)
    (case l_law_draw => k_is)
    (case c_law_draw => k_is)
    (case k_law_draw => k_is)
    (case a_law_gain => k_is)
    (case l_law_gain => k_is)
    (case c_law_gain => k_is)
    (case k_law_gain => k_is)
    (case a_law_gains => k_is)
    (case l_law_gains => k_is)
    (case c_law_gains => k_is)
    (case k_law_gains => k_is)
    (case a_law_nested => k_is)
    (case l_law_nested => k_is)
    (case c_law_nested => k_is)
    (case k_law_nested => k_is)
    (case a_law_book => k_is)
    (case l_law_book => k_is)
    (case c_law_book => k_is)
    (case k_law_book => k_is)
    (case a_is_whole => k_is)
    (case l_is_whole => k_is)
    (case c_is_whole => k_is)
    (case k_is_whole => k_is)
    (case a_is_between => k_is)
    (case l_is_between => k_is)
    (case c_is_between => k_is)
    (case k_is_between => k_is)
    (case a_has_way => k_is)
    (case l_has_way => k_is)
    (case c_has_way => k_is)
    (case k_has_way => k_is)
    (case a_rooms_reached => k_is)
    (case l_rooms_reached => k_is)
    (case c_rooms_reached => k_is)
    (case k_rooms_reached => k_is)
    (case a_common_divisor => k_is)
    (case l_common_divisor => k_is)
    (case c_common_divisor => k_is)
    (case k_common_divisor => k_is)
    (case a_without_divisor => k_is)
    (case l_without_divisor => k_is)
    (case c_without_divisor => k_is)
    (case k_without_divisor => k_is)
    (case a_first_numbers => k_is)
    (case l_first_numbers => k_is)
    (case c_first_numbers => k_is)
    (case k_first_numbers => k_is)
    (case mk_Table__init => k_is)
    (case kc_Table__init => k_is)
    (case a_Table__init => k_is)
    (case i_Table__init => k_is)
    (case l_Table__init => k_is)
    (case c_Table__init => k_is)
    (case k_Table__init => k_is)
    (case t_Table__init => k_is)
    (case a_Table__without => k_is)
    (case i_Table__without => k_is)
    (case l_Table__without => k_is)
    (case c_Table__without => k_is)
    (case k_Table__without => k_is)
    (case a_Table__exchange => k_is)
    (case i_Table__exchange => k_is)
    (case l_Table__exchange => k_is)
    (case c_Table__exchange => k_is)
    (case k_Table__exchange => k_is)
    (case a_Table__rises => k_is)
    (case i_Table__rises => k_is)
    (case l_Table__rises => k_is)
    (case c_Table__rises => k_is)
    (case k_Table__rises => k_is)
    (case a_Table__place_to_raise => k_is)
    (case i_Table__place_to_raise => k_is)
    (case l_Table__place_to_raise => k_is)
    (case c_Table__place_to_raise => k_is)
    (case k_Table__place_to_raise => k_is)
    (case a_Table__comes_first => k_is)
    (case i_Table__comes_first => k_is)
    (case l_Table__comes_first => k_is)
    (case c_Table__comes_first => k_is)
    (case k_Table__comes_first => k_is)
    (case a_Table__row_to_free => k_is)
    (case i_Table__row_to_free => k_is)
    (case l_Table__row_to_free => k_is)
    (case c_Table__row_to_free => k_is)
    (case k_Table__row_to_free => k_is)
    (case a_Table__counts_by => k_is)
    (case i_Table__counts_by => k_is)
    (case l_Table__counts_by => k_is)
    (case c_Table__counts_by => k_is)
    (case k_Table__counts_by => k_is)
    (case a_Table__find_round => k_is)
    (case i_Table__find_round => k_is)
    (case l_Table__find_round => k_is)
    (case c_Table__find_round => k_is)
    (case k_Table__find_round => k_is)
    (case a_Table__shares => k_is)
    (case i_Table__shares => k_is)
    (case l_Table__shares => k_is)
    (case c_Table__shares => k_is)
    (case k_Table__shares => k_is)
    (case a_Table__as_sum => k_is)
    (case i_Table__as_sum => k_is)
    (case l_Table__as_sum => k_is)
    (case c_Table__as_sum => k_is)
    (case k_Table__as_sum => k_is)
    (case a_Table__counts_now => k_is)
    (case i_Table__counts_now => k_is)
    (case l_Table__counts_now => k_is)
    (case c_Table__counts_now => k_is)
    (case k_Table__counts_now => k_is)
    (case a_ways_met => k_is)
    (case l_ways_met => k_is)
    (case c_ways_met => k_is)
    (case k_ways_met => k_is)
    (case a_not_met => k_is)
    (case l_not_met => k_is)
    (case c_not_met => k_is)
    (case k_not_met => k_is)
    (case a_read_most => k_is)
    (case l_read_most => k_is)
    (case c_read_most => k_is)
    (case k_read_most => k_is)
    (case a_how_often => k_is)
    (case l_how_often => k_is)
    (case c_how_often => k_is)
    (case k_how_often => k_is)
    (case a_law_met => k_is)
    (case l_law_met => k_is)
    (case c_law_met => k_is)
    (case k_law_met => k_is)
    (case a_law_whole => k_is)
    (case l_law_whole => k_is)
    (case c_law_whole => k_is)
    (case k_law_whole => k_is)
    (case a_law_are_whole => k_is)
    (case l_law_are_whole => k_is)
    (case c_law_are_whole => k_is)
    (case k_law_are_whole => k_is)
    (case a_law_is_sum => k_is)
    (case l_law_is_sum => k_is)
    (case c_law_is_sum => k_is)
    (case k_law_is_sum => k_is)
    (case a_law_fall => k_is)
    (case l_law_fall => k_is)
    (case c_law_fall => k_is)
    (case k_law_fall => k_is)
    (case a_law_kept => k_is)
    (case l_law_kept => k_is)
    (case c_law_kept => k_is)
    (case k_law_kept => k_is)
    (case a_law_round_gain => k_is)
    (case l_law_round_gain => k_is)
    (case c_law_round_gain => k_is)
    (case k_law_round_gain => k_is)
    (case a_law_within => k_is)
    (case l_law_within => k_is)
    (case c_law_within => k_is)
    (case k_law_within => k_is)
    (case a_law_ways_met => k_is)
    (case l_law_ways_met => k_is)
    (case c_law_ways_met => k_is)
    (case k_law_ways_met => k_is)
    (case a_law_flow_right => k_is)
    (case l_law_flow_right => k_is)
    (case c_law_flow_right => k_is)
    (case k_law_flow_right => k_is)
    (case a_law_common => k_is)
    (case l_law_common => k_is)
    (case c_law_common => k_is)
    (case k_law_common => k_is)
    (case a_law_most_right => k_is)
    (case l_law_most_right => k_is)
    (case c_law_most_right => k_is)
    (case k_law_most_right => k_is)
    (case a_law_right => k_is)
    (case l_law_right => k_is)
    (case c_law_right => k_is)
    (case k_law_right => k_is)
    (case a4 => k_is)
    (case l4 => k_is)
    (case c4 => k_is)
    (case k4 => k_is)
    (case pg_Table => k_is)
    (case hd_Table => k_is)
    (case po_Table => k_is)
    (case sa_Table => k_is)
    (case n0_Table => (unfold L2.NoAttr; k_is))
    (case n1_Table => (unfold L2.NoAttr; k_is))
    (case n2_Table => (unfold L2.NoAttr; k_is))
    (case n3_Table => (unfold L2.NoAttr; k_is))
    (case n4_Table => (unfold L2.NoAttr; k_is))
    (case n5_Table => (unfold L2.NoAttr; k_is))
    (case n6_Table => (unfold L2.NoAttr; k_is))
